/- Plain facts: a byte that does not lie in what was filled is as it was; when a call is fine. -/
import Derived.Test.YthckkdkijajadaaDoorZG
import Derived.Test.YthckkdkijajadaaDoorMG
namespace Go.Proofs.YthckkdkijajadaaDoor
open Go.RowKit M

/-- one byte that does not lie in what was filled -/
theorem fill_other {c : Int} {cw : Bool} {ms : List Ar} {len : Nat} {M : List (List Int)} {a b : Int} {bs : List Int} (hl : len = ms.length) (hk : rdK c cw ms len M a bs.length true = 4) (hout : b < a ∨ a + bs.length ≤ b) :
    rdK c cw ms len (fillM M (regOf a - 1).toNat (offOf a).toNat bs) b 1 false = rdK c cw ms len M b 1 false ∧ rdB c cw ms len (fillM M (regOf a - 1).toNat (offOf a).toNat bs) b 1 = rdB c cw ms len M b 1 := by
  obtain ⟨h1, h2⟩ := rdK_ok hk
  obtain ⟨r, o, nn, hr, ho, hn, hn1, hn2, hrM, hfit, hL⟩ := granted hl h1 h2
  have hnn : nn = bs.length := by omega
  subst hnn
  rw [hr, ho]
  simp only [Int.toNat_natCast]
  have hm := may_fill (c := c) (ms := ms) (len := len) (M := M) (r := r) (o := o) (bs := bs) hrM hfit h1
  have hK : rdK c cw ms len (fillM M r o bs) b 1 false = rdK c cw ms len M b 1 false := by
    unfold rdK; rw [if_pos hm, if_pos h1]
  refine ⟨hK, ?_⟩
  unfold rdB
  rw [hK]
  by_cases h4 : rdK c cw ms len M b 1 false = 4
  · rw [if_pos h4, if_pos h4]
    obtain ⟨r', o', n', hr', ho', hn', _, _, hrM', hfit2, _⟩ := granted hl h1 (rdK_ok h4).2
    rw [hr', ho']
    have : n' = 1 := by omega
    subst this
    simp only [Int.toNat_natCast, show (1 : Int).toNat = 1 from rfl]
    have hfl := fillM_rowlen (bs := bs) hrM hfit r'
    apply ext_getD
    · rw [cut_length (by rw [hfl]; exact hfit2), cut_length hfit2]
    · intro j hj
      rw [cut_length (by rw [hfl]; exact hfit2)] at hj
      rw [cut_getD hj, cut_getD hj, fillM_row hrM]
      by_cases e : r' = r
      · subst e
        rw [if_pos rfl, splice_getD hfit (by omega), if_neg ?_]
        unfold regOf at hr hr'
        unfold offOf at ho ho'
        omega
      · rw [if_neg e]
  · rw [if_neg h4, if_neg h4]
/-- the same of any byte: where it may be read stays -/
theorem fill_same {c : Int} {cw : Bool} {ms : List Ar} {len : Nat} {M : List (List Int)} {a b : Int} {bs : List Int} (hl : len = ms.length) (hk : rdK c cw ms len M a bs.length true = 4) :
    rdK c cw ms len (fillM M (regOf a - 1).toNat (offOf a).toNat bs) b 1 false = rdK c cw ms len M b 1 false := by
  obtain ⟨h1, h2⟩ := rdK_ok hk
  obtain ⟨r, o, nn, hr, ho, hn, hn1, hn2, hrM, hfit, hL⟩ := granted hl h1 h2
  have hnn : nn = bs.length := by omega
  subst hnn
  rw [hr, ho]
  simp only [Int.toNat_natCast]
  have hm := may_fill (c := c) (ms := ms) (len := len) (M := M) (r := r) (o := o) (bs := bs) hrM hfit h1
  unfold rdK; rw [if_pos hm, if_pos h1]
theorem doK_le (n : Int) (A : List Int) (c : Int) (cw : Bool) (ms : List Ar) (len : Nat) (M : List (List Int)) : doK n A c cw ms len M ≤ 5 := by
  unfold doK; (repeat' split) <;> omega
theorem doE_ne {k : Nat} (h : k ≠ 5) : (doE k != 0) = true := by
  unfold doE hnum
  rw [if_neg h]
  split <;> rfl
/-- a fine call of send or recv: its place may be accessed, its size is a size -/
theorem doK_fine {n : Int} {A : List Int} {c : Int} {cw : Bool} {ms : List Ar} {len : Nat} {M : List (List Int)} (h : doK n A c cw ms len M = 5) (hn : n = 3 ∨ n = 4) :
    isH n = true ∧ cnt n ≤ A.length ∧ 1 ≤ szC (A.getD 1 0) ∧ szC (A.getD 1 0) ≤ 64 ∧ findK c cw ms len (A.getD 0 0) (szC (A.getD 1 0)) (n == 4) = 4 ∧ mayB c ms len M = true := by
  unfold doK at h
  by_cases h1 : isH n = false
  · rw [if_pos h1] at h; omega
  rw [if_neg h1] at h
  by_cases h2 : A.length < cnt n
  · rw [if_pos h2] at h; omega
  rw [if_neg h2, if_pos hn] at h
  by_cases h3 : szC (A.getD 1 0) < 1 ∨ 64 < szC (A.getD 1 0)
  · rw [if_pos h3] at h; omega
  rw [if_neg h3] at h
  by_cases h4 : findK c cw ms len (A.getD 0 0) (szC (A.getD 1 0)) (n == 4) ≠ 4
  · rw [if_pos h4] at h; omega
  rw [if_neg h4] at h
  by_cases h5 : mayB c ms len M = true
  · exact ⟨by simpa using h1, by omega, by omega, by omega, by omega, h5⟩
  · rw [if_neg h5] at h; omega
theorem doK_help {n : Int} {A : List Int} {c : Int} {cw : Bool} {ms : List Ar} {len : Nat} {M : List (List Int)} (h : doK n A c cw ms len M = 5) : isH n = true ∧ cnt n ≤ A.length := by
  unfold doK at h
  by_cases h1 : isH n = false
  · rw [if_pos h1] at h; omega
  rw [if_neg h1] at h
  by_cases h2 : A.length < cnt n
  · rw [if_pos h2] at h; omega
  exact ⟨by simpa using h1, by omega⟩
theorem szC_size {x : Int} (h : szC x ≤ 64) : szC x = x := by
  unfold szC at *
  split at h <;> omega
/-- what recv leaves, byte by byte: where a byte may be read stays; what is read there stays, or it lies in what was written -/
theorem recv_keeps {A S : List Int} {c : Int} {cw : Bool} {ms : List Ar} {len : Nat} {M : List (List Int)} (hl : len = ms.length) (h : doK 4 A c cw ms len M = 5) (b : Int) :
    loadE c cw ms len (doR 4 A S c cw ms len M 5) b 1 = loadE c cw ms len M b 1 ∧
    (A.getD 0 0 ≤ b ∧ b < A.getD 0 0 + szC (A.getD 1 0) ∨ loadV c cw ms len (doR 4 A S c cw ms len M 5) b 1 = loadV c cw ms len M b 1) := by
  obtain ⟨_, _, h1, h2, h3, h4⟩ := doK_fine h (.inr rfl)
  have hlen : (repL (S.getD 0 0) (szC (A.getD 1 0)).toNat).length = (szC (A.getD 1 0)).toNat := repL_length _ _
  have hk : rdK c cw ms len M (A.getD 0 0) ((repL (S.getD 0 0) (szC (A.getD 1 0)).toNat).length : Nat) true = 4 := by
    rw [hlen, Int.toNat_of_nonneg (by omega)]
    unfold rdK
    rw [if_pos h4]
    exact h3
  have hR : doR 4 A S c cw ms len M 5 = fillM M (regOf (A.getD 0 0) - 1).toNat (offOf (A.getD 0 0)).toNat (repL (S.getD 0 0) (szC (A.getD 1 0)).toNat) := by
    simp only [doR, if_true]
    unfold flM
    rw [if_pos hk]
  rw [hR]
  refine ⟨?_, ?_⟩
  · unfold loadE
    rw [fill_same hl hk]
  · by_cases hin : A.getD 0 0 ≤ b ∧ b < A.getD 0 0 + szC (A.getD 1 0)
    · exact .inl hin
    · right
      unfold loadV
      rw [(fill_other hl hk (by rw [hlen]; omega)).2]
theorem plain_keeps {n : Int} {A S : List Int} {c : Int} {cw : Bool} {ms : List Ar} {len : Nat} {M : List (List Int)} (h4 : n ≠ 4) : doR n A S c cw ms len M 5 = M := by
  simp [doR, h4]
end Go.Proofs.YthckkdkijajadaaDoor
