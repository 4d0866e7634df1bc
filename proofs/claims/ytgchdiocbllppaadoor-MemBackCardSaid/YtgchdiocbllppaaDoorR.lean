/- Plain facts: what is stored is read back, and all that does not lie there is as it was. -/
import Derived.Test.YtgchdiocbllppaaDoorK2
namespace Go.Proofs.YtgchdiocbllppaaDoor
open Go.RowKit M

theorem fillM_row {M : List (List Int)} {r o : Nat} {bs : List Int} (hr : r < M.length) (i : Nat) : (fillM M r o bs).getD i [] = if i = r then splice (M.getD r []) o bs else M.getD i [] := getD_set hr
theorem fillM_rowlen {M : List (List Int)} {r o : Nat} {bs : List Int} (hr : r < M.length) (hfit : o + bs.length ≤ (M.getD r []).length) (i : Nat) : ((fillM M r o bs).getD i []).length = (M.getD i []).length := by
  rw [fillM_row hr]
  by_cases e : i = r
  · subst e; rw [if_pos rfl]; exact length_splice _ _ _ hfit
  · rw [if_neg e]
theorem may_fill {c : Int} {ms : List Ar} {len : Nat} {M : List (List Int)} {r o : Nat} {bs : List Int} (hr : r < M.length) (hfit : o + bs.length ≤ (M.getD r []).length) (h : mayB c ms len M = true) : mayB c ms len (fillM M r o bs) = true := by
  obtain ⟨h1, h2, h3⟩ := mayB_true h
  simp only [mayB, h1, Bool.true_and]
  exact decide_eq_true ⟨by rw [fillM_length]; exact h2, fun i hi => by rw [fillM_rowlen hr hfit]; exact h3 i hi⟩
theorem findK_read {c : Int} {cw : Bool} {ms : List Ar} {len : Nat} {a n : Int} (h : findK c cw ms len a n true = 4) : findK c cw ms len a n false = 4 := by
  obtain ⟨h1, h2, h3, _⟩ := findK_ok h
  unfold findK
  rw [inB_true h1, h2, if_neg (by simp), if_neg (by simp), if_neg (by omega), if_neg (by simp)]
theorem ext_getD {xs ys : List Int} (hl : xs.length = ys.length) (h : ∀ j, j < xs.length → xs.getD j 0 = ys.getD j 0) : xs = ys := by
  apply List.ext_getElem hl
  intro i h1 h2
  have := h i h1
  simpa [h1, h2] using this
/-- what is stored is read -/
theorem read_back {c : Int} {cw : Bool} {ms : List Ar} {len : Nat} {M : List (List Int)} {a x : Int} {n : Nat} (hl : len = ms.length) (hk : rdK c cw ms len M a n true = 4) :
    rdK c cw ms len (fillM M (regOf a - 1).toNat (offOf a).toNat (putL x n)) a n false = 4 ∧ rdB c cw ms len (fillM M (regOf a - 1).toNat (offOf a).toNat (putL x n)) a n = putL x n ∧
    mayB c ms len (fillM M (regOf a - 1).toNat (offOf a).toNat (putL x n)) = true := by
  obtain ⟨h1, h2⟩ := rdK_ok hk
  obtain ⟨r, o, nn, hr, ho, hn, hn1, hn2, hrM, hfit, hL⟩ := granted hl h1 h2
  have hnn : nn = n := by omega
  subst hnn
  rw [hr, ho]
  have hfit' : o + (putL x nn).length ≤ (M.getD r []).length := by rw [putL_length]; exact hfit
  have hm := may_fill (c := c) (ms := ms) (len := len) (M := M) (r := r) (o := o) (bs := putL x nn) hrM hfit' h1
  have hR : rdK c cw ms len (fillM M (r : Int).toNat (o : Int).toNat (putL x nn)) a nn false = 4 := by
    simp only [Int.toNat_natCast]
    unfold rdK; rw [if_pos hm]; exact findK_read h2
  refine ⟨hR, ?_, by simpa using hm⟩
  unfold rdB
  rw [if_pos hR, hr, ho]
  simp only [Int.toNat_natCast]
  have hfl := fillM_rowlen hrM hfit' r
  apply ext_getD
  · rw [cut_length (by rw [hfl]; exact hfit), putL_length]
  · intro j hj
    rw [cut_length (by rw [hfl]; exact hfit)] at hj
    rw [cut_getD hj, fillM_row hrM, if_pos rfl, splice_getD hfit' (by omega), putL_length, if_pos (by omega)]
    congr 1
    omega
/-- one byte that does not lie in what was stored -/
theorem read_other {c : Int} {cw : Bool} {ms : List Ar} {len : Nat} {M : List (List Int)} {a x b : Int} {n : Nat} (hl : len = ms.length) (hk : rdK c cw ms len M a n true = 4) (hout : b < a ∨ a + n ≤ b) :
    rdK c cw ms len (fillM M (regOf a - 1).toNat (offOf a).toNat (putL x n)) b 1 false = rdK c cw ms len M b 1 false ∧ rdB c cw ms len (fillM M (regOf a - 1).toNat (offOf a).toNat (putL x n)) b 1 = rdB c cw ms len M b 1 := by
  obtain ⟨h1, h2⟩ := rdK_ok hk
  obtain ⟨r, o, nn, hr, ho, hn, hn1, hn2, hrM, hfit, hL⟩ := granted hl h1 h2
  have hnn : nn = n := by omega
  subst hnn
  rw [hr, ho]
  simp only [Int.toNat_natCast]
  have hfit' : o + (putL x nn).length ≤ (M.getD r []).length := by rw [putL_length]; exact hfit
  have hm := may_fill (c := c) (ms := ms) (len := len) (M := M) (r := r) (o := o) (bs := putL x nn) hrM hfit' h1
  have hK : rdK c cw ms len (fillM M r o (putL x nn)) b 1 false = rdK c cw ms len M b 1 false := by
    unfold rdK; rw [if_pos hm, if_pos h1]
  refine ⟨hK, ?_⟩
  unfold rdB
  rw [hK]
  by_cases h4 : rdK c cw ms len M b 1 false = 4
  · rw [if_pos h4, if_pos h4]
    obtain ⟨r', o', n', hr', ho', hn', _, _, hrM', hfit2, _⟩ := granted hl h1 (rdK_ok h4).2
    rw [hr', ho']
    have : n' = 1 := by omega
    subst this
    simp only [Int.toNat_natCast, show (1 : Int).toNat = 1 from rfl]
    have hfl := fillM_rowlen hrM hfit' r'
    apply ext_getD
    · rw [cut_length (by rw [hfl]; exact hfit2), cut_length hfit2]
    · intro j hj
      rw [cut_length (by rw [hfl]; exact hfit2)] at hj
      rw [cut_getD hj, cut_getD hj, fillM_row hrM]
      by_cases e : r' = r
      · subst e
        rw [if_pos rfl, splice_getD hfit' (by omega), putL_length, if_neg ?_]
        unfold regOf at hr hr'
        unfold offOf at ho ho'
        omega
      · rw [if_neg e]
  · rw [if_neg h4, if_neg h4]
end Go.Proofs.YtgchdiocbllppaaDoor
