/- The two ways of saying which instructions may be say the same. -/
import Derived.Test.YtlpijnnlmgoihaaME
import Derived.Test.YtlpijnnlmgoihaaRI
namespace Go.Proofs.Ytlpijnnlmgoihaa
open Go.RowKit M

theorem bit_eq {a b : Bool} (h : a = true ↔ b = true) : a = b := Bool.eq_iff_iff.2 h
theorem size_cls {op : Int} (h : ¬ sizeI op = 0) : 96 ≤ op ∧ op ≤ 123 ∧ (op % 8 = 1 ∨ op % 8 = 2 ∨ op % 8 = 3) := by
  unfold sizeI at h
  split at h
  · omega
  · split at h
    · omega
    · split at h
      · omega
      · split at h
        · omega
        · exact absurd rfl h
theorem ins_same (x : In) (hx : Bd x) : insB x = rinsB x := by
  have hw := hx.wide
  apply bit_eq
  unfold insB rinsB
  cases ha : aluB x.op
  case true =>
    have h := aluB_true.1 ha
    rw [if_neg (show ¬ x.op = 24 by omega), if_pos rfl]
    unfold oneB
    rw [if_neg (show ¬ x.op = 5 by omega), if_neg (show ¬ x.op = 133 by omega), if_neg (show ¬ x.op = 149 by omega), if_pos ha]
    unfold fitsB mayAluB raluB fieldsB boundsB zerosB operB shiftB inB
    cases hr : rg x.op
    · by_cases h1 : x.op - x.op % 16 = 128
      · simp [h1]; omega
      · by_cases h2 : x.op - x.op % 16 = 96 ∨ x.op - x.op % 16 = 112 ∨ x.op - x.op % 16 = 192
        · rw [if_neg h1, if_pos h2]
          by_cases h7 : x.op % 8 = 7
          · simp [h1, h7]; omega
          · simp [h1, h7]; omega
        · rw [if_neg h1, if_neg h2]
          simp [h1]; omega
    · have h8 : 8 ≤ x.op % 16 := by unfold rg at hr; simpa using hr
      have h1 : ¬ x.op - x.op % 16 = 128 := by omega
      by_cases h2 : x.op - x.op % 16 = 96 ∨ x.op - x.op % 16 = 112 ∨ x.op - x.op % 16 = 192
      · rw [if_neg h1, if_pos h2]
        by_cases h7 : x.op % 8 = 7
        · simp [h7]; omega
        · simp [h7]; omega
      · rw [if_neg h1, if_neg h2]
        simp; omega
  rw [if_neg (show ¬ (false : Bool) = true by simp)]
  cases hj : jmpB x.op
  case true =>
    have h := jmpB_true.1 hj
    rw [if_neg (show ¬ x.op = 24 by omega), if_pos rfl]
    unfold oneB
    rw [if_neg (show ¬ x.op = 5 by omega), if_neg (show ¬ x.op = 133 by omega), if_neg (show ¬ x.op = 149 by omega), if_neg (by rw [ha]; simp), if_pos hj]
    unfold fitsB fieldsB boundsB zerosB operB inB
    cases hr : rg x.op
    · simp; omega
    · simp; omega
  rw [if_neg (show ¬ (false : Bool) = true by simp)]
  by_cases e5 : x.op = 5
  · rw [if_neg (show ¬ x.op = 24 by omega), if_pos e5]
    unfold oneB
    rw [if_pos e5]
    unfold fitsB fieldsB boundsB zerosB inB
    simp; omega
  rw [if_neg e5]
  by_cases e133 : x.op = 133
  · rw [if_neg (show ¬ x.op = 24 by omega), if_pos e133]
    unfold oneB
    rw [if_neg e5, if_pos e133]
    unfold fitsB fieldsB boundsB zerosB inB
    simp; omega
  rw [if_neg e133]
  by_cases e149 : x.op = 149
  · rw [if_neg (show ¬ x.op = 24 by omega), if_pos e149]
    unfold oneB
    rw [if_neg e5, if_neg e133, if_pos e149]
    unfold fitsB fieldsB boundsB zerosB inB
    simp; omega
  rw [if_neg e149]
  by_cases e24 : x.op = 24
  · rw [if_pos e24, if_pos e24]
    unfold fitsB wideB rwideB inB sg32
    by_cases s0 : x.src = 0
    · simp [s0]; omega
    · by_cases s1 : x.src = 1
      · simp [s1]; omega
      · simp [s0, s1]
  rw [if_neg e24, if_neg e24]
  unfold oneB
  rw [if_neg e5, if_neg e133, if_neg e149, if_neg (by rw [ha]; simp), if_neg (by rw [hj]; simp)]
  by_cases hs : sizeI x.op = 0
  · rw [if_pos hs]; simp [hs]
  rw [if_neg hs]
  have hc := size_cls hs
  unfold fitsB accB fieldsB boundsB zerosB inB
  by_cases c1 : x.op % 8 = 1
  · simp [hs, c1]; omega
  · by_cases c3 : x.op % 8 = 3
    · simp [hs, c3]; omega
    · have c2 : x.op % 8 = 2 := by omega
      simp [hs, c2]; omega
end Go.Proofs.Ytlpijnnlmgoihaa
