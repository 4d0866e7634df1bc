/- Plain facts: what the program reckons is what the document reckons, of 64 bits, and of the lowest 32. -/
import Derived.Test.YticjhcbkkkkckaaOK
namespace Go.Proofs.Yticjhcbkkkkckaa

theorem low_any : blow (tidyA bany) = bupto low32 := by decide +kernel
theorem reck_wide {op : Int} (ho : isOp op = true) (a b : Bd) : reckB op a b true = wideB op a b := by
  unfold reckB wideB shiftB cntB
  rcases isOp_cases ho with rfl | rfl | rfl | rfl | rfl | rfl | rfl | rfl | rfl | rfl | rfl | rfl | rfl <;> simp only [Int.reduceEq, if_true, if_false]
theorem mod_mod (n : Nat) : (BitVec.ofNat 64 (n % 32) : B).toNat % 64 = n % 32 := by rw [BitVec.toNat_ofNat]; omega
theorem reck_narrow {op : Int} (ho : isOp op = true) (a b : Bd) : blow (tidyA (reckB op (blow a) (blow b) false)) = narrowB op a b := by
  have hu := blow_uh a
  unfold narrowB isShift
  generalize blow a = la at *
  generalize blow b = lb at *
  have hm := mod_mod lb.ul.toNat
  rcases isOp_cases ho with rfl | rfl | rfl | rfl | rfl | rfl | rfl | rfl | rfl | rfl | rfl | rfl | rfl
  all_goals first
    | (rw [if_neg (by decide)]; unfold reckB; simp only [Int.reduceEq, if_false]; done)
    | rw [if_pos (by decide)]
  · by_cases h : lb.ul = lb.uh
    · rw [if_neg (by simp [h]), if_pos h]
      have e : reckB 96 la lb false = wideB (if (96 : Int) = 192 then 112 else 96) la (bconst (BitVec.ofNat 64 (lb.ul.toNat % 32))) := by
        unfold reckB wideB shiftB cntB bconst
        simp only [Int.reduceEq, if_true, if_false, Bool.false_eq_true, hm]
        rw [if_pos h]
      rw [e]
    · rw [if_pos (by simp [h])]
      have e : reckB 96 la lb false = bany := by unfold reckB; simp only [if_true]; rw [if_neg h]
      rw [e, low_any]
  · by_cases h : lb.ul = lb.uh
    · rw [if_neg (by simp), if_pos h]
      have e : reckB 112 la lb false = wideB (if (112 : Int) = 192 then 112 else 112) la (bconst (BitVec.ofNat 64 (lb.ul.toNat % 32))) := by
        unfold reckB wideB shiftB cntB bconst
        simp only [Int.reduceEq, if_true, if_false, Bool.false_eq_true, hm]
        rw [if_pos h]
      rw [e]
    · rw [if_neg (by simp), if_neg h]
      have e : reckB 112 la lb false = wideB (if (112 : Int) = 192 then 112 else 112) la lb := by
        unfold reckB wideB
        simp only [Int.reduceEq, if_true, if_false]
        rw [if_neg h, if_neg h]
      rw [e]
  · by_cases h : lb.ul = lb.uh
    · by_cases h2 : 2147483647 < la.uh.toNat
      · rw [if_pos (by simp [h2])]
        have e : reckB 192 la lb false = bany := by
          unfold reckB; simp only [Int.reduceEq, if_true, if_false, Bool.false_eq_true]
          rw [if_pos h, if_pos h2]
        rw [e, low_any]
      · rw [if_neg (by simp [h, h2]), if_pos h]
        have e : reckB 192 la lb false = wideB (if (192 : Int) = 192 then 112 else 192) la (bconst (BitVec.ofNat 64 (lb.ul.toNat % 32))) := by
          unfold reckB wideB shiftB cntB bconst
          simp only [Int.reduceEq, if_true, if_false, Bool.false_eq_true, hm]
          rw [if_pos h, if_neg h2]
        rw [e]
    · rw [if_pos (by simp [h])]
      have e : reckB 192 la lb false = bany := by unfold reckB; simp only [Int.reduceEq, if_true, if_false]; rw [if_neg h]
      rw [e, low_any]
end Go.Proofs.Yticjhcbkkkkckaa
