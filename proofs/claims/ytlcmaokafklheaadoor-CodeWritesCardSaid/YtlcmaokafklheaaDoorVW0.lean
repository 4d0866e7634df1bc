/- What a round of the document's own Encode asks, in plain mathematics. -/
import Derived.Test.YtlcmaokafklheaaDoorP4
namespace Go.Proofs.YtlcmaokafklheaaDoor
open Go.RowKit M

theorem okE_plain {l : List In} {k : Nat} (hh : holeB l (k : Int) = false) : okE l k = (fitsB (l.getD k z) && (if (l.getD k z).op = 24 then decide ((l.getD k z).imm = sg32 (l.getD k z).wide) && holeB l ((k : Int) + 1) else (l.getD k z).wide == 0)) := by
  unfold okE
  rw [if_neg (by rw [hh]; simp)]
theorem fieldsE_plain {l : List In} {k : Nat} (hh : holeB l (k : Int) = false) : fieldsE l k = l.getD k z := by
  unfold fieldsE
  rw [if_neg (by rw [hh]; simp)]
theorem okE_hole {l : List In} {k : Nat} (hh : holeB l ((k : Int) + 1) = true) : okE l (k + 1) = eqB (l.getD (k + 1) z) z := by
  unfold okE
  rw [if_pos (by exact_mod_cast hh)]
theorem fieldsE_hole {l : List In} {k : Nat} (hh : holeB l ((k : Int) + 1) = true) : fieldsE l (k + 1) = restI (l.getD k z).wide := by
  unfold fieldsE
  rw [if_pos (by exact_mod_cast hh)]
  rfl
theorem hole_next {l : List In} {k : Nat} (hk : k < l.length) (hh : holeB l (k : Int) = false) : holeB l ((k : Int) + 1) = (decide (k + 1 < l.length) && decide ((l.getD k z).op = 24)) := by
  have h0 : hR (opL l) k = false := by rw [← holeB_in hk]; exact hh
  by_cases h1 : k + 1 < l.length
  · have h2 := holeB_in h1
    rw [hR_succ, h0] at h2
    rw [show ((k : Int) + 1) = ((k + 1 : Nat) : Int) by omega, h2]
    simp [h1, opL]
  · unfold holeB
    rw [decide_eq_false (show ¬ (0 ≤ (k : Int) + 1 ∧ (k : Int) + 1 < (l.length : Int)) by omega), decide_eq_false h1]
    rfl
theorem hole_after {l : List In} {k : Nat} (hh : holeB l ((k : Int) + 1) = true) : holeB l ((k : Int) + 1 + 1) = false := by
  cases h2 : holeB l ((k : Int) + 1 + 1)
  · rfl
  · have hk : k + 1 < l.length := by
      unfold holeB at hh
      simp at hh
      omega
    have hk2 : k + 1 + 1 < l.length := by
      unfold holeB at h2
      simp at h2
      omega
    rw [show ((k : Int) + 1 + 1) = ((k + 1 + 1 : Nat) : Int) by omega, holeB_in hk2, hR_succ] at h2
    rw [show ((k : Int) + 1) = ((k + 1 : Nat) : Int) by omega, holeB_in hk] at hh
    rw [hh] at h2
    simp at h2
theorem imm_wide {i w : Int} (h0 : -2147483648 ≤ i) (h1 : i ≤ 2147483647) : i % 4294967296 = w % 4294967296 ↔ i = sg32 w := by
  unfold sg32
  omega
end Go.Proofs.YtlcmaokafklheaaDoor
