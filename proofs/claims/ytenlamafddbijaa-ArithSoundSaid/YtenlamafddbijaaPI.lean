/- Plain facts: what the program answers at this commit: of what is not wide, Low of what is tidy, and not tidied once more. -/
import Derived.Test.YtenlamafddbijaaOK
namespace Go.Proofs.Ytenlamafddbijaa

/-- what the program answers -/
def progB (op : Int) (a b : Bd) (wide : Bool) : Bd :=
  if isOp op = false then bany else if bcheck a = false ∨ bcheck b = false then bany else if wide = true then tidyA (reckB op a b true) else blow (tidyA (reckB op (blow a) (blow b) false))
theorem low_any : blow (tidyA bany) = bupto low32 := by decide +kernel
theorem reck_wide {op : Int} (ho : isOp op = true) (a b : Bd) : reckB op a b true = wideB op a b := by
  unfold reckB wideB shiftB cntB
  rcases isOp_cases ho with rfl | rfl | rfl | rfl | rfl | rfl | rfl | rfl | rfl | rfl | rfl | rfl | rfl <;> simp only [Int.reduceEq, if_true, if_false]
theorem mod_mod (n : Nat) : (BitVec.ofNat 64 (n % 32) : B).toNat % 64 = n % 32 := by rw [BitVec.toNat_ofNat]; omega
theorem reck_narrow {op : Int} (ho : isOp op = true) (a b : Bd) : blow (tidyA (reckB op (blow a) (blow b) false)) = narrowB op a b := by
  have hu := blow_uh a
  unfold narrowB isShift
  generalize blow a = la at *
  generalize blow b = lb at *
  have hm := mod_mod lb.ul.toNat
  rcases isOp_cases ho with rfl | rfl | rfl | rfl | rfl | rfl | rfl | rfl | rfl | rfl | rfl | rfl | rfl
  all_goals first
    | (rw [if_neg (by decide)]; unfold reckB; simp only [Int.reduceEq, if_false]; done)
    | rw [if_pos (by decide)]
  · by_cases h : lb.ul = lb.uh
    · rw [if_neg (by simp [h]), if_pos h]
      have e : reckB 96 la lb false = wideB (if (96 : Int) = 192 then 112 else 96) la (bconst (BitVec.ofNat 64 (lb.ul.toNat % 32))) := by
        unfold reckB wideB shiftB cntB bconst
        simp only [Int.reduceEq, if_true, if_false, Bool.false_eq_true, hm]
        rw [if_pos h]
      rw [e]
    · rw [if_pos (by simp [h])]
      have e : reckB 96 la lb false = bany := by unfold reckB; simp only [if_true]; rw [if_neg h]
      rw [e, low_any]
  · by_cases h : lb.ul = lb.uh
    · rw [if_neg (by simp), if_pos h]
      have e : reckB 112 la lb false = wideB (if (112 : Int) = 192 then 112 else 112) la (bconst (BitVec.ofNat 64 (lb.ul.toNat % 32))) := by
        unfold reckB wideB shiftB cntB bconst
        simp only [Int.reduceEq, if_true, if_false, Bool.false_eq_true, hm]
        rw [if_pos h]
      rw [e]
    · rw [if_neg (by simp), if_neg h]
      have e : reckB 112 la lb false = wideB (if (112 : Int) = 192 then 112 else 112) la lb := by
        unfold reckB wideB
        simp only [Int.reduceEq, if_true, if_false]
        rw [if_neg h, if_neg h]
      rw [e]
  · by_cases h : lb.ul = lb.uh
    · by_cases h2 : 2147483647 < la.uh.toNat
      · rw [if_pos (by simp [h2])]
        have e : reckB 192 la lb false = bany := by
          unfold reckB; simp only [Int.reduceEq, if_true, if_false, Bool.false_eq_true]
          rw [if_pos h, if_pos h2]
        rw [e, low_any]
      · rw [if_neg (by simp [h, h2]), if_pos h]
        have e : reckB 192 la lb false = wideB (if (192 : Int) = 192 then 112 else 192) la (bconst (BitVec.ofNat 64 (lb.ul.toNat % 32))) := by
          unfold reckB wideB shiftB cntB bconst
          simp only [Int.reduceEq, if_true, if_false, Bool.false_eq_true, hm]
          rw [if_pos h, if_neg h2]
        rw [e]
    · rw [if_pos (by simp [h])]
      have e : reckB 192 la lb false = bany := by unfold reckB; simp only [Int.reduceEq, if_true, if_false]; rw [if_neg h]
      rw [e, low_any]
theorem progB_no {op : Int} (h : isOp op = false) (a b : Bd) (wide : Bool) : progB op a b wide = bany := if_pos h
theorem progB_bad {op : Int} {a b : Bd} (h : bcheck a = false ∨ bcheck b = false) (wide : Bool) : progB op a b wide = bany := by
  unfold progB
  cases isOp op with
  | false => exact if_pos rfl
  | true => rw [if_neg (by simp), if_pos h]
theorem progB_is {op : Int} (ho : isOp op = true) {a b : Bd} (ha : bcheck a = true) (hb : bcheck b = true) (wide : Bool) : progB op a b wide = if wide = true then tidyA (wideB op a b) else narrowB op a b := by
  unfold progB
  rw [if_neg (by rw [ho]; simp), if_neg (by rw [ha, hb]; simp), reck_wide ho, reck_narrow ho]
theorem progB_in {op : Int} (ho : isOp op = true) {a b : Bd} {x y : B} {wide : Bool} (ha : bcheck a = true) (hb : bcheck b = true) (hx : bin a x = true) (hy : bin b y = true) : bin (progB op a b wide) (aluW op x y wide) = true := by
  rw [progB_is ho ha hb]
  unfold aluW
  have hat := (bcheck_iff.1 ha).2
  have hbt := (bcheck_iff.1 hb).2
  cases wide
  · simp only [Bool.false_eq_true, if_false]
    exact narrowB_in ho ha hb hx hy
  · simp only [if_true]
    exact tidyA_in (wideB_check op hat hbt) (wideB_in ho hat hbt hx hy)
theorem progB_check (op : Int) (a b : Bd) (wide : Bool) : bcheck (progB op a b wide) = true := by
  cases ho : isOp op with
  | false => rw [progB_no ho]; exact any_check
  | true => cases ha : bcheck a with
    | false => rw [progB_bad (.inl ha)]; exact any_check
    | true => cases hb : bcheck b with
      | false => rw [progB_bad (.inr hb)]; exact any_check
      | true =>
        rw [progB_is ho ha hb]
        split
        · exact tidyA_check (wideB_check op (bcheck_iff.1 ha).2 (bcheck_iff.1 hb).2)
        · exact narrowB_check op ha hb
theorem progB_known {op : Int} (ho : isOp op = true) (h1 : op ≠ 144) (x y : B) (wide : Bool) (h2 : op = 48 → y ≠ 0#64 ∧ y &&& low32 ≠ 0#64) (h3 : op = 192 → wide = true) : progB op (bconst x) (bconst y) wide = bconst (aluW op x y wide) := by
  rw [progB_is ho (const_check x) (const_check y)]
  unfold aluW
  cases wide
  · simp only [Bool.false_eq_true, if_false]
    exact narrow_known ho h1 (fun h => by have := h3 h; cases this) x y (fun h => (h2 h).2)
  · simp only [if_true]
    exact wide_known ho h1 x y (fun h => (h2 h).1)
theorem upto_low : (bupto low32).uh.toNat ≤ 4294967295 ∧ 0 ≤ (bupto low32).sl.toInt := by decide
theorem tidy_low {y k : Bd} (h : tidy y = some k) (hu : k.uh.toNat ≤ 4294967295) (hc : bcheck k = true) : 0 ≤ k.sl.toInt := by
  obtain ⟨h1, h2⟩ := tidy_sync h (by omega)
  rw [h1]
  have := two k.ul
  have := (bcheck_iff.1 hc).1.1
  omega
theorem progB_low {op : Int} (ho : isOp op = true) {a b : Bd} (ha : bcheck a = true) (hb : bcheck b = true) : (progB op a b false).uh.toNat ≤ 4294967295 ∧ 0 ≤ (progB op a b false).sl.toInt := by
  rw [progB_is ho ha hb]
  simp only [Bool.false_eq_true, if_false]
  have cutA : ∀ x : Bd, tcheck x.t = true → (blow (tidyA x)).uh.toNat ≤ 4294967295 ∧ 0 ≤ (blow (tidyA x)).sl.toInt := by
    intro x hx
    have hf : ∃ a, tcheck a.t = true ∧ (tidy a = some (blow (tidyA x)) ∨ blow (tidyA x) = bupto low32) := by
      cases hd : tidy x with
      | none =>
        have : tidyA x = bany := by unfold tidyA; rw [hd]; rfl
        rw [this]
        exact any_low
      | some k =>
        have : tidyA x = k := by unfold tidyA; rw [hd]; rfl
        rw [this]
        exact blow_form k ⟨x, hx, hd⟩
    obtain ⟨y, hy, h | h⟩ := hf
    · exact ⟨blow_uh _, tidy_low h (blow_uh _) (tidy_some hy h).1⟩
    · rw [h]; exact upto_low
  have hat := (bcheck_iff.1 (blow_check ha)).2
  have hbt := (bcheck_iff.1 (blow_check hb)).2
  unfold narrowB
  split
  · split
    · exact upto_low
    · refine cutA _ (wideB_check _ hat ?_)
      split
      · exact const_ht _
      · exact hbt
  · exact cutA _ (wideB_check _ hat hbt)
end Go.Proofs.Ytenlamafddbijaa
