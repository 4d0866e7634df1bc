/- One instruction put for another: in memory, and what that changes of a program. -/
import Derived.Test.YtnpnpjpmklmklaaV0
namespace Go.Proofs.Ytnpnpjpmklmklaa
open Go.RowKit M

theorem ownX {w : World} {base n : Nat} {v : Value} {l : List In} (h : w.ownsRow base 36 6 v n (flatV l)) (hn : 0 < n) (hl : l.length = n) (hs : n ≤ 140737488351232) (hb : ∀ i, i < l.length → Bd (l.getD i z)) :
    ∃ g cap, v = .slice (some ⟨g, 0, none⟩) n cap ∧ InsAt w (some ⟨g, 0, none⟩) l ∧ base ≤ g ∧ ∀ o, w.frozen? ⟨g, o, none⟩ = false := by
  obtain ⟨g, cap, hv, hI⟩ := owns6 h hn hl hs hb
  obtain ⟨_, h' | ⟨g', cap', cur, hv', hg, hh, _⟩⟩ := h
  · omega
  · rw [hv] at hv'
    injection hv' with h1 h2 h3
    injection h1 with h1
    injection h1 with h1 _
    subst h1
    exact ⟨g, cap, hv, hI, hg, fun o => by simp [World.frozen?, hh]⟩
theorem ne_off {g a b : Nat} (h : a ≠ b) : (⟨g, a, none⟩ : Addr) ≠ ⟨g, b, none⟩ := fun e => h (by injection e)
def set6 (w : World) (g a : Nat) (x : In) : World := (((((w.setCell ⟨g, a, none⟩ (.int .i64 x.op)).setCell ⟨g, a + 1, none⟩ (.int .i64 x.dst)).setCell ⟨g, a + 2, none⟩ (.int .i64 x.src)).setCell ⟨g, a + 3, none⟩ (.int .i64 x.off)).setCell ⟨g, a + 4, none⟩ (.int .i64 x.imm)).setCell ⟨g, a + 5, none⟩ (.int .u64 x.wide)
theorem set6_other {w : World} {g a c : Nat} {x : In} (h : c < a ∨ a + 6 ≤ c) : (set6 w g a x).cell? ⟨g, c, none⟩ = w.cell? ⟨g, c, none⟩ := by
  unfold set6
  rw [World.cell?_setCell_other _ _ _ _ (ne_off (by omega)), World.cell?_setCell_other _ _ _ _ (ne_off (by omega)), World.cell?_setCell_other _ _ _ _ (ne_off (by omega)), World.cell?_setCell_other _ _ _ _ (ne_off (by omega)), World.cell?_setCell_other _ _ _ _ (ne_off (by omega)), World.cell?_setCell_other _ _ _ _ (ne_off (by omega))]
theorem set6_in {w : World} {g a : Nat} {x : In} {u0 u1 u2 u3 u4 u5 : Value} (h0 : w.cell? ⟨g, a, none⟩ = some u0) (h1 : w.cell? ⟨g, a + 1, none⟩ = some u1) (h2 : w.cell? ⟨g, a + 2, none⟩ = some u2) (h3 : w.cell? ⟨g, a + 3, none⟩ = some u3) (h4 : w.cell? ⟨g, a + 4, none⟩ = some u4) (h5 : w.cell? ⟨g, a + 5, none⟩ = some u5) :
    (set6 w g a x).cell? ⟨g, a, none⟩ = some (.int .i64 x.op) ∧ (set6 w g a x).cell? ⟨g, a + 1, none⟩ = some (.int .i64 x.dst) ∧ (set6 w g a x).cell? ⟨g, a + 2, none⟩ = some (.int .i64 x.src) ∧ (set6 w g a x).cell? ⟨g, a + 3, none⟩ = some (.int .i64 x.off) ∧ (set6 w g a x).cell? ⟨g, a + 4, none⟩ = some (.int .i64 x.imm) ∧ (set6 w g a x).cell? ⟨g, a + 5, none⟩ = some (.int .u64 x.wide) := by
  have n : ∀ {a b : Nat}, a ≠ b → (⟨g, a, none⟩ : Addr) ≠ ⟨g, b, none⟩ := ne_off
  unfold set6
  refine ⟨?_, ?_, ?_, ?_, ?_, ?_⟩
  · rw [World.cell?_setCell_other _ _ _ _ (n (by omega)), World.cell?_setCell_other _ _ _ _ (n (by omega)), World.cell?_setCell_other _ _ _ _ (n (by omega)), World.cell?_setCell_other _ _ _ _ (n (by omega)), World.cell?_setCell_other _ _ _ _ (n (by omega))]
    exact World.cell?_setCell_same _ _ _ h0
  · rw [World.cell?_setCell_other _ _ _ _ (n (by omega)), World.cell?_setCell_other _ _ _ _ (n (by omega)), World.cell?_setCell_other _ _ _ _ (n (by omega)), World.cell?_setCell_other _ _ _ _ (n (by omega))]
    refine World.cell?_setCell_same _ _ _ (u := u1) ?_
    rw [World.cell?_setCell_other _ _ _ _ (n (by omega))]
    exact h1
  · rw [World.cell?_setCell_other _ _ _ _ (n (by omega)), World.cell?_setCell_other _ _ _ _ (n (by omega)), World.cell?_setCell_other _ _ _ _ (n (by omega))]
    refine World.cell?_setCell_same _ _ _ (u := u2) ?_
    rw [World.cell?_setCell_other _ _ _ _ (n (by omega)), World.cell?_setCell_other _ _ _ _ (n (by omega))]
    exact h2
  · rw [World.cell?_setCell_other _ _ _ _ (n (by omega)), World.cell?_setCell_other _ _ _ _ (n (by omega))]
    refine World.cell?_setCell_same _ _ _ (u := u3) ?_
    rw [World.cell?_setCell_other _ _ _ _ (n (by omega)), World.cell?_setCell_other _ _ _ _ (n (by omega)), World.cell?_setCell_other _ _ _ _ (n (by omega))]
    exact h3
  · rw [World.cell?_setCell_other _ _ _ _ (n (by omega))]
    refine World.cell?_setCell_same _ _ _ (u := u4) ?_
    rw [World.cell?_setCell_other _ _ _ _ (n (by omega)), World.cell?_setCell_other _ _ _ _ (n (by omega)), World.cell?_setCell_other _ _ _ _ (n (by omega)), World.cell?_setCell_other _ _ _ _ (n (by omega))]
    exact h4
  · refine World.cell?_setCell_same _ _ _ (u := u5) ?_
    rw [World.cell?_setCell_other _ _ _ _ (n (by omega)), World.cell?_setCell_other _ _ _ _ (n (by omega)), World.cell?_setCell_other _ _ _ _ (n (by omega)), World.cell?_setCell_other _ _ _ _ (n (by omega)), World.cell?_setCell_other _ _ _ _ (n (by omega))]
    exact h5
theorem set_getD {l : List In} {i : Nat} {x : In} (hi : i < l.length) (j : Nat) : (l.set i x).getD j z = if j = i then x else l.getD j z := by
  simp only [List.getD_eq_getElem?_getD, List.getElem?_set]
  by_cases h : i = j
  · subst h; simp [hi]
  · rw [if_neg h, if_neg (fun e => h e.symm)]
theorem ins_set {w : World} {g i : Nat} {l : List In} {x : In} (h : InsAt w (some ⟨g, 0, none⟩) l) (hi : i < l.length) (hx : Bd x) : InsAt (set6 w g (i * 6) x) (some ⟨g, 0, none⟩) (l.set i x) := by
  have hsz : (set6 w g (i * 6) x).heap.size = w.heap.size := by simp [set6, World.setCell]
  refine ⟨by rw [List.length_set]; exact h.small, fun j hj => ?_, fun j hj => ?_⟩
  · rw [List.length_set] at hj
    obtain ⟨b, o, hq, hbl, c0, c1, c2, c3, c4, c5⟩ := h.cells j hj
    injection hq with hq
    injection hq with hq1 hq2
    subst hq1 hq2
    rw [set_getD hi]
    refine ⟨g, 0, rfl, by rw [hsz]; exact hbl, ?_⟩
    rw [Nat.zero_add] at c0 c1 c2 c3 c4 c5 ⊢
    by_cases e : j = i
    · subst e
      rw [if_pos rfl]
      exact set6_in c0 c1 c2 c3 c4 c5
    · rw [if_neg e]
      exact ⟨(set6_other (by omega)).trans c0, (set6_other (by omega)).trans c1, (set6_other (by omega)).trans c2, (set6_other (by omega)).trans c3, (set6_other (by omega)).trans c4, (set6_other (by omega)).trans c5⟩
  · rw [List.length_set] at hj
    rw [set_getD hi]
    split
    · exact hx
    · exact h.bd j hj
theorem below_set6 {B : Nat} {a w : World} {g c : Nat} {x : In} (h : Below B a w) (hg : B ≤ g) : Below B a (set6 w g c x) :=
  (((((h.setCell (p := ⟨g, c, none⟩) hg _).setCell (p := ⟨g, c + 1, none⟩) hg _).setCell (p := ⟨g, c + 2, none⟩) hg _).setCell (p := ⟨g, c + 3, none⟩) hg _).setCell (p := ⟨g, c + 4, none⟩) hg _).setCell (p := ⟨g, c + 5, none⟩) hg _

/-! what it changes of a program -/
def xF : In := ⟨255, 0, 0, 0, 0, 0⟩
theorem bdF : Bd xF := ⟨by decide, by decide, by decide, by decide, by decide, by decide⟩
theorem hR_same {o o' : Nat → Int} (h : ∀ j, (o' j = 24) ↔ (o j = 24)) (n : Nat) : hR o' n = hR o n := by
  induction n with
  | zero => rfl
  | succ n ih =>
    rw [hR_succ, hR_succ, ih]
    congr 1
    exact decide_eq_decide.2 (h n)
section
variable {l : List In} {i : Nat} {x : In} (hi : i < l.length) (hop : ¬ (l.getD i z).op = 24) (hx : ¬ x.op = 24) (hh : holeB l (i : Int) = false)
include hi hop hx in
theorem hole_set (k : Int) : holeB (l.set i x) k = holeB l k := by
  unfold holeB
  rw [List.length_set]
  congr 1
  refine hR_same (fun j => ?_) _
  unfold opL
  rw [set_getD hi]
  by_cases e : j = i
  · subst e; rw [if_pos rfl]; exact ⟨fun h => absurd h hx, fun h => absurd h hop⟩
  · rw [if_neg e]
include hi hop hx in
theorem place_set (k : Int) : placeB (l.set i x) k = placeB l k := by
  unfold placeB
  rw [List.length_set, hole_set hi hop hx]
include hi hop hx in
theorem succ_set {j : Nat} (hj : j ≠ i) : succL (l.set i x) (j : Int) = succL l (j : Int) := by
  unfold succL
  rw [place_set hi hop hx, Int.toNat_natCast, set_getD hi, if_neg hj]
include hi hop hx hh in
theorem bad_set {j : Nat} (hjl : j < l.length) (hj : j ≠ i) (hb : badI l j = false) : badI (l.set i x) j = false := by
  cases hhj : holeB l (j : Int)
  · have hg : mayB l j = true := by rw [badI_may hhj] at hb; simpa using hb
    unfold mayB at hg
    simp only [Bool.and_eq_true] at hg
    obtain ⟨⟨g1, g2⟩, g3⟩ := hg
    have hhs : holeB (l.set i x) (j : Int) = false := by rw [hole_set hi hop hx]; exact hhj
    rw [badI_may hhs]
    have hw : wideOk (l.set i x) j = true := by
      rcases wide_yes g2 with g24 | ⟨g24, hlt, hz⟩
      · unfold wideOk
        rw [set_getD hi, if_neg hj, g24]; rfl
      · have hne : j + 1 ≠ i := by
          intro e
          have h24 : (l.getD j z).op = 24 := by simpa using g24
          rw [holeB_nat hjl] at hhj
          rw [← e, holeB_nat hlt, hR_succ, hhj] at hh
          have : opL l j = 24 := h24
          rw [this] at hh
          simp at hh
        unfold wideOk blankB
        rw [List.length_set, decide_eq_true (show (j : Int) + 1 < (l.length : Int) by omega), show ((j : Int) + 1).toNat = j + 1 by omega, set_getD hi (j + 1), if_neg hne, hz]
        simp
    have hs : (succL (l.set i x) (j : Int)).all (placeB (l.set i x)) = true := by
      rw [succ_set hi hop hx hj]
      rw [List.all_eq_true] at g3 ⊢
      intro n hn
      rw [place_set hi hop hx]
      exact g3 n hn
    unfold mayB
    rw [set_getD hi, if_neg hj, g1, hw, hs]
    rfl
  · exact badI_hole (by rw [hole_set hi hop hx]; exact hhj)
end
theorem ins_exit : insB xE = true := by kernel_rfl
theorem ins_none : insB xF = false := by kernel_rfl
theorem alone_ok {l : List In} {i : Nat} (h : ∀ j, j < l.length → badI l j = false) (h1 : l.length ≤ 4096) (hi : i < l.length) (hop : ¬ (l.getD i z).op = 24) (hh : holeB l (i : Int) = false) : checkS (l.set i xE) = (0, 0) := by
  refine check_good (by rw [List.length_set]; exact h1) (by rw [List.length_set]; omega) fun j hj => ?_
  rw [List.length_set] at hj
  by_cases e : j = i
  · subst e
    have hhs : holeB (l.set j xE) (j : Int) = false := by rw [hole_set hi hop (by decide)]; exact hh
    refine bad_none hhs ?_ ?_ ?_
    · rw [set_getD hi, if_pos rfl]; exact ins_exit
    · unfold wideOk
      rw [set_getD hi, if_pos rfl]; rfl
    · have hs : succL (l.set j xE) (j : Int) = [] := by
        unfold succL
        split
        · rw [Int.toNat_natCast, set_getD hi, if_pos rfl]; rfl
        · rfl
      rw [hs]
      intro m hm
      exact absurd hm (Nat.not_lt_zero _)
  · exact bad_set hi hop (by decide) hh hj e (h j hj)
theorem alone_bad {l : List In} {i : Nat} (h : ∀ j, j < l.length → badI l j = false) (h1 : l.length ≤ 4096) (hi : i < l.length) (hop : ¬ (l.getD i z).op = 24) (hh : holeB l (i : Int) = false) : checkS (l.set i xF) = ((i : Int), 40) := by
  have hhs : holeB (l.set i xF) (i : Int) = false := by rw [hole_set hi hop (by decide)]; exact hh
  refine check_bad (by rw [List.length_set]; exact h1) (by rw [List.length_set]; exact hi) (bad_ins hhs ?_) fun j hj => ?_
  · rw [set_getD hi, if_pos rfl]; exact ins_none
  · exact bad_set hi hop (by decide) hh (by omega) (by omega) (h j (by omega))
end Go.Proofs.Ytnpnpjpmklmklaa
