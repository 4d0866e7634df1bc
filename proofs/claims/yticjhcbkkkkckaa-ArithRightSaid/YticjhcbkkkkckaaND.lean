/- Words: the document's own operations. -/
import Derived.Test.YticjhcbkkkkckaaNC
namespace Go.Proofs.Yticjhcbkkkkckaa
open Go.RowKit
attribute [local go_sem] b_and b_or b_xor b_andNot b_low b_top b_most b_signed b_unsigned b_zero b_eq s_eq b_nzero b_neq s_neq b_max b_min s_max s_min
attribute [local go_sem ↓] Go.wp_at_zero Go.wp_at_succ
attribute [local go_sem] b_add b_sub b_mul b_neg b_two

theorem halves_top (x : B) (hx : x.getLsbD 63 = true) (n : Nat) : halves topB x n = x.sshiftRight n := by
  have key : ∀ n i, i < 64 → (halves topB x n).getLsbD i = if n + i < 64 then x.getLsbD (n + i) else true := by
    intro n
    induction n with
    | zero => intro i hi; rw [if_pos (by omega)]; simp [halves]
    | succ n ih =>
      intro i hi
      rw [halves, BitVec.getLsbD_or, BitVec.getLsbD_ushiftRight, top_bit hi]
      by_cases e : i = 63
      · subst e; rw [if_neg (by omega)]; simp
      · rw [ih (1 + i) (by omega), decide_eq_false e, Bool.or_false]
        by_cases h : n + 1 + i < 64
        · rw [if_pos (by omega), if_pos h]; congr 1; omega
        · rw [if_neg (by omega), if_neg h]
  apply bext
  intro i hi
  rw [key n i hi, sar_bit x n hi, hx]
theorem bit31_top {i : Nat} (hi : i < 64) : (2147483648#64 : B).getLsbD i = decide (i = 31) := by
  have : ∀ i : Fin 64, (2147483648#64 : B).getLsbD i = decide (i.val = 31) := by decide +kernel
  exact this ⟨i, hi⟩
theorem high_zero {x : B} (hx : x.toNat < 4294967296) {i : Nat} (hi : 32 ≤ i) : x.getLsbD i = false := by
  rw [BitVec.getLsbD]
  exact Nat.testBit_lt_two_pow (Nat.lt_of_lt_of_le (by simpa using hx) (Nat.pow_le_pow_right (by omega) hi : 2 ^ 32 ≤ 2 ^ i))
theorem sar32_bit (x : B) (n : Nat) {i : Nat} (hi : i < 64) : (sar32 x n).getLsbD i = (decide (i < 32) && if n + i < 32 then x.getLsbD (n + i) else x.getLsbD 31) := by
  unfold sar32
  rw [BitVec.getLsbD_setWidth, BitVec.getLsbD_sshiftRight, decide_eq_true hi, Bool.true_and]
  have hm : (x.setWidth 32).msb = x.getLsbD 31 := by simp [BitVec.msb_eq_getLsbD_last]
  by_cases h : i < 32
  · rw [hm, decide_eq_true h]
    simp only [Nat.not_le.2 h, decide_false, Bool.not_false, Bool.true_and]
    by_cases h2 : n + i < 32
    · simp [h2]
    · simp [h2]
  · simp [h, Nat.not_lt.1 h]
theorem halves_32 (x : B) (hl : x.toNat < 4294967296) (hx : x.getLsbD 31 = true) (n : Nat) : halves 2147483648#64 x n = sar32 x n := by
  have key : ∀ n i, i < 64 → (halves 2147483648#64 x n).getLsbD i = (decide (i < 32) && if n + i < 32 then x.getLsbD (n + i) else true) := by
    intro n
    induction n with
    | zero =>
      intro i hi
      by_cases h : i < 32
      · simp [halves, h]
      · simp [halves, h, high_zero hl (Nat.not_lt.1 h)]
    | succ n ih =>
      intro i hi
      rw [halves, BitVec.getLsbD_or, BitVec.getLsbD_ushiftRight, bit31_top hi]
      by_cases e : i = 31
      · subst e; rw [if_neg (by omega)]; simp
      · rw [decide_eq_false e, Bool.or_false]
        by_cases h63 : i = 63
        · subst h63
          rw [BitVec.getLsbD_of_ge _ _ (by omega)]; simp
        · rw [ih (1 + i) (by omega)]
          by_cases h : i < 31
          · rw [decide_eq_true (by omega), decide_eq_true (by omega)]
            by_cases h2 : n + 1 + i < 32
            · rw [if_pos (by omega), if_pos h2]; congr 2; omega
            · rw [if_neg (by omega), if_neg h2]
          · rw [decide_eq_false (by omega), decide_eq_false (by omega)]; rfl
  apply bext
  intro i hi
  rw [key n i hi, sar32_bit x n hi, hx]
/-- how many places -/
def sh64 (y : B) : Int := ((y.toNat % 64 : Nat) : Int)
def sh32 (y : B) : Int := ((y.toNat % 32 : Nat) : Int)
theorem b_sh64 (y : B) : wrap64 ((U y).tmod 64) = sh64 y := by
  have := y.isLt
  unfold U wrap64 sh64
  rw [Int.tmod_eq_emod_of_nonneg (by omega)]
  omega
theorem b_sh32 (y : B) : wrap64 ((U y).tmod 32) = sh32 y := by
  have := y.isLt
  unfold U wrap64 sh32
  rw [Int.tmod_eq_emod_of_nonneg (by omega)]
  omega
theorem b_quo (x y : B) : IntKind.u64.wrap ((U x).tdiv (U y)) = U (x / y) := by
  have h := (x / y).isLt
  rw [Int.tdiv_eq_ediv_of_nonneg (U_nn x), b_div]
  exact b_wrap _
theorem b_rem (x y : B) : IntKind.u64.wrap ((U x).tmod (U y)) = U (x % y) := by
  rw [Int.tmod_eq_emod_of_nonneg (U_nn x), b_mod]
  exact b_wrap _
theorem b_rem2 (x y : B) : (U x).tmod (U y) = U (x % y) := by
  rw [Int.tmod_eq_emod_of_nonneg (U_nn x), b_mod]
theorem U_ne {y : B} (h : (y == 0#64) = false) : ¬ U y = 0 := fun e => by
  have : y = 0#64 := U_inj e
  rw [this] at h
  cases h
attribute [local go_sem] b_sh64 b_sh32 b_quo b_rem b_rem2
theorem sshift_plus {x : B} (h : x.getLsbD 63 = false) (n : Nat) : x.sshiftRight n = x >>> n := by
  apply bext
  intro i hi
  rw [sar_bit x n hi, BitVec.getLsbD_ushiftRight, h]
  by_cases e : n + i < 64
  · rw [if_pos e]
  · rw [if_neg e, BitVec.getLsbD_of_ge _ _ (by omega)]
theorem low_31 {x : B} (h : (x &&& low32).getLsbD 31 = false) : (x &&& low32).toNat ≤ 2147483647 := by
  have hl := low_le x
  rw [bit31, decide_eq_false_iff_not] at h
  omega
theorem ralu_0_w (x y : B) (w : World) : Calls Try.prog 11 #[.int .i64 0, .int .u64 (U x), .int .u64 (U y), .bool true] w fun e w' => e = .returned (.tuple #[.int .u64 (U (aluW 0 x y true)), .bool true]) ∧ w = w' := by
  have HE : Hid (aluW 0 x y true = x + y) := Lib.hid rfl
  rw [HE.out]
  go_enter Try.func11, Try.ntmps11
  go_wp2_with fail
  go_ret2
  exact ⟨rfl, rfl⟩
theorem ralu_0_n (x y : B) (w : World) : Calls Try.prog 11 #[.int .i64 0, .int .u64 (U x), .int .u64 (U y), .bool false] w fun e w' => e = .returned (.tuple #[.int .u64 (U (aluW 0 x y false)), .bool true]) ∧ w = w' := by
  have HE : Hid (aluW 0 x y false = ((x &&& low32) + (y &&& low32)) &&& low32) := Lib.hid rfl
  rw [HE.out]
  go_enter Try.func11, Try.ntmps11
  go_wp2_with fail
  go_ret2
  exact ⟨rfl, rfl⟩
theorem ralu_16_w (x y : B) (w : World) : Calls Try.prog 11 #[.int .i64 16, .int .u64 (U x), .int .u64 (U y), .bool true] w fun e w' => e = .returned (.tuple #[.int .u64 (U (aluW 16 x y true)), .bool true]) ∧ w = w' := by
  have HE : Hid (aluW 16 x y true = x - y) := Lib.hid rfl
  rw [HE.out]
  go_enter Try.func11, Try.ntmps11
  go_wp2_with fail
  go_ret2
  exact ⟨rfl, rfl⟩
theorem ralu_16_n (x y : B) (w : World) : Calls Try.prog 11 #[.int .i64 16, .int .u64 (U x), .int .u64 (U y), .bool false] w fun e w' => e = .returned (.tuple #[.int .u64 (U (aluW 16 x y false)), .bool true]) ∧ w = w' := by
  have HE : Hid (aluW 16 x y false = ((x &&& low32) - (y &&& low32)) &&& low32) := Lib.hid rfl
  rw [HE.out]
  go_enter Try.func11, Try.ntmps11
  go_wp2_with fail
  go_ret2
  exact ⟨rfl, rfl⟩
theorem ralu_32_w (x y : B) (w : World) : Calls Try.prog 11 #[.int .i64 32, .int .u64 (U x), .int .u64 (U y), .bool true] w fun e w' => e = .returned (.tuple #[.int .u64 (U (aluW 32 x y true)), .bool true]) ∧ w = w' := by
  have HE : Hid (aluW 32 x y true = x * y) := Lib.hid rfl
  rw [HE.out]
  go_enter Try.func11, Try.ntmps11
  go_wp2_with fail
  go_ret2
  exact ⟨rfl, rfl⟩
theorem ralu_32_n (x y : B) (w : World) : Calls Try.prog 11 #[.int .i64 32, .int .u64 (U x), .int .u64 (U y), .bool false] w fun e w' => e = .returned (.tuple #[.int .u64 (U (aluW 32 x y false)), .bool true]) ∧ w = w' := by
  have HE : Hid (aluW 32 x y false = ((x &&& low32) * (y &&& low32)) &&& low32) := Lib.hid rfl
  rw [HE.out]
  go_enter Try.func11, Try.ntmps11
  go_wp2_with fail
  go_ret2
  exact ⟨rfl, rfl⟩
theorem ralu_48_w (x y : B) (w : World) : Calls Try.prog 11 #[.int .i64 48, .int .u64 (U x), .int .u64 (U y), .bool true] w fun e w' => e = .returned (.tuple #[.int .u64 (U (aluW 48 x y true)), .bool true]) ∧ w = w' := by
  have HE : Hid (aluW 48 x y true = x / y) := Lib.hid rfl
  rw [HE.out]
  clear HE
  cases hy : y == 0#64
  · have hn := U_ne hy
    go_enter Try.func11, Try.ntmps11
    go_wp2_with fail
    go_ret2
    exact ⟨rfl, rfl⟩
  · have hz : y = 0#64 := by simpa using hy
    have HZ := Lib.hid (show x / y = 0#64 by rw [hz]; simp)
    clear hz
    go_enter Try.func11, Try.ntmps11
    go_wp2_with fail
    go_ret2
    exact ⟨by rw [HZ.out]; rfl, rfl⟩
theorem ralu_48_n (x y : B) (w : World) : Calls Try.prog 11 #[.int .i64 48, .int .u64 (U x), .int .u64 (U y), .bool false] w fun e w' => e = .returned (.tuple #[.int .u64 (U (aluW 48 x y false)), .bool true]) ∧ w = w' := by
  have HE : Hid (aluW 48 x y false = ((x &&& low32) / (y &&& low32)) &&& low32) := Lib.hid rfl
  rw [HE.out]
  clear HE
  cases hy : (y &&& low32) == 0#64
  · have hn := U_ne hy
    go_enter Try.func11, Try.ntmps11
    go_wp2_with fail
    go_ret2
    exact ⟨rfl, rfl⟩
  · have hz : (y &&& low32) = 0#64 := by simpa using hy
    have HZ := Lib.hid (show ((x &&& low32) / (y &&& low32)) &&& low32 = 0#64 by rw [hz]; simp)
    clear hz
    go_enter Try.func11, Try.ntmps11
    go_wp2_with fail
    go_ret2
    exact ⟨by rw [HZ.out]; rfl, rfl⟩
theorem ralu_64_w (x y : B) (w : World) : Calls Try.prog 11 #[.int .i64 64, .int .u64 (U x), .int .u64 (U y), .bool true] w fun e w' => e = .returned (.tuple #[.int .u64 (U (aluW 64 x y true)), .bool true]) ∧ w = w' := by
  have HE : Hid (aluW 64 x y true = x ||| y) := Lib.hid rfl
  rw [HE.out]
  go_enter Try.func11, Try.ntmps11
  go_wp2_with fail
  go_ret2
  exact ⟨rfl, rfl⟩
theorem ralu_64_n (x y : B) (w : World) : Calls Try.prog 11 #[.int .i64 64, .int .u64 (U x), .int .u64 (U y), .bool false] w fun e w' => e = .returned (.tuple #[.int .u64 (U (aluW 64 x y false)), .bool true]) ∧ w = w' := by
  have HE : Hid (aluW 64 x y false = ((x &&& low32) ||| (y &&& low32)) &&& low32) := Lib.hid rfl
  rw [HE.out]
  go_enter Try.func11, Try.ntmps11
  go_wp2_with fail
  go_ret2
  exact ⟨rfl, rfl⟩
theorem ralu_80_w (x y : B) (w : World) : Calls Try.prog 11 #[.int .i64 80, .int .u64 (U x), .int .u64 (U y), .bool true] w fun e w' => e = .returned (.tuple #[.int .u64 (U (aluW 80 x y true)), .bool true]) ∧ w = w' := by
  have HE : Hid (aluW 80 x y true = x &&& y) := Lib.hid rfl
  rw [HE.out]
  go_enter Try.func11, Try.ntmps11
  go_wp2_with fail
  go_ret2
  exact ⟨rfl, rfl⟩
theorem ralu_80_n (x y : B) (w : World) : Calls Try.prog 11 #[.int .i64 80, .int .u64 (U x), .int .u64 (U y), .bool false] w fun e w' => e = .returned (.tuple #[.int .u64 (U (aluW 80 x y false)), .bool true]) ∧ w = w' := by
  have HE : Hid (aluW 80 x y false = ((x &&& low32) &&& (y &&& low32)) &&& low32) := Lib.hid rfl
  rw [HE.out]
  go_enter Try.func11, Try.ntmps11
  go_wp2_with fail
  go_ret2
  exact ⟨rfl, rfl⟩
theorem ralu_96_w (x y : B) (w : World) : Calls Try.prog 11 #[.int .i64 96, .int .u64 (U x), .int .u64 (U y), .bool true] w fun e w' => e = .returned (.tuple #[.int .u64 (U (aluW 96 x y true)), .bool true]) ∧ w = w' := by
  have HE : Hid (aluW 96 x y true = x <<< (y.toNat % 64)) := Lib.hid rfl
  rw [HE.out]
  have HS : Hid (∀ W, Calls Try.prog 25 #[.int .i64 96, .int .u64 (U x), .int .i64 (sh64 y), .bool true] W fun e w' => e = .returned (.int .u64 (U (x <<< (y.toNat % 64)))) ∧ W = w') := Lib.hid (fun W => rshift_left x (y.toNat % 64) (by omega) true W)
  generalize x <<< (y.toNat % 64) = r at *
  clear HE
  go_enter Try.func11, Try.ntmps11
  go_wp2_with (go_at_call 25; (with_reducible refine (HS.out _).mono ?_); rintro e w1 ⟨rfl, rfl⟩)
  go_ret2
  exact ⟨rfl, rfl⟩
theorem ralu_96_n (x y : B) (w : World) : Calls Try.prog 11 #[.int .i64 96, .int .u64 (U x), .int .u64 (U y), .bool false] w fun e w' => e = .returned (.tuple #[.int .u64 (U (aluW 96 x y false)), .bool true]) ∧ w = w' := by
  have HE : Hid (aluW 96 x y false = ((x &&& low32) <<< ((y &&& low32).toNat % 32)) &&& low32) := Lib.hid rfl
  rw [HE.out]
  have HS : Hid (∀ W, Calls Try.prog 25 #[.int .i64 96, .int .u64 (U (x &&& low32)), .int .i64 (sh32 (y &&& low32)), .bool false] W fun e w' => e = .returned (.int .u64 (U ((x &&& low32) <<< ((y &&& low32).toNat % 32)))) ∧ W = w') := Lib.hid (fun W => rshift_left (x &&& low32) ((y &&& low32).toNat % 32) (by omega) false W)
  generalize (x &&& low32) <<< ((y &&& low32).toNat % 32) = r at *
  clear HE
  go_enter Try.func11, Try.ntmps11
  go_wp2_with (go_at_call 25; (with_reducible refine (HS.out _).mono ?_); rintro e w1 ⟨rfl, rfl⟩)
  go_ret2
  exact ⟨rfl, rfl⟩
theorem ralu_112_w (x y : B) (w : World) : Calls Try.prog 11 #[.int .i64 112, .int .u64 (U x), .int .u64 (U y), .bool true] w fun e w' => e = .returned (.tuple #[.int .u64 (U (aluW 112 x y true)), .bool true]) ∧ w = w' := by
  have HE : Hid (aluW 112 x y true = x >>> (y.toNat % 64)) := Lib.hid rfl
  rw [HE.out]
  have HS : Hid (∀ W, Calls Try.prog 25 #[.int .i64 112, .int .u64 (U x), .int .i64 (sh64 y), .bool true] W fun e w' => e = .returned (.int .u64 (U (x >>> (y.toNat % 64)))) ∧ W = w') := Lib.hid (fun W => by rw [← halves_zero]; exact rshift_right x (y.toNat % 64) (by omega) true W)
  generalize x >>> (y.toNat % 64) = r at *
  clear HE
  go_enter Try.func11, Try.ntmps11
  go_wp2_with (go_at_call 25; (with_reducible refine (HS.out _).mono ?_); rintro e w1 ⟨rfl, rfl⟩)
  go_ret2
  exact ⟨rfl, rfl⟩
theorem ralu_112_n (x y : B) (w : World) : Calls Try.prog 11 #[.int .i64 112, .int .u64 (U x), .int .u64 (U y), .bool false] w fun e w' => e = .returned (.tuple #[.int .u64 (U (aluW 112 x y false)), .bool true]) ∧ w = w' := by
  have HE : Hid (aluW 112 x y false = ((x &&& low32) >>> ((y &&& low32).toNat % 32)) &&& low32) := Lib.hid rfl
  rw [HE.out]
  have HS : Hid (∀ W, Calls Try.prog 25 #[.int .i64 112, .int .u64 (U (x &&& low32)), .int .i64 (sh32 (y &&& low32)), .bool false] W fun e w' => e = .returned (.int .u64 (U ((x &&& low32) >>> ((y &&& low32).toNat % 32)))) ∧ W = w') := Lib.hid (fun W => by rw [← halves_zero]; exact rshift_right (x &&& low32) ((y &&& low32).toNat % 32) (by omega) false W)
  generalize (x &&& low32) >>> ((y &&& low32).toNat % 32) = r at *
  clear HE
  go_enter Try.func11, Try.ntmps11
  go_wp2_with (go_at_call 25; (with_reducible refine (HS.out _).mono ?_); rintro e w1 ⟨rfl, rfl⟩)
  go_ret2
  exact ⟨rfl, rfl⟩
theorem ralu_128_w (x y : B) (w : World) : Calls Try.prog 11 #[.int .i64 128, .int .u64 (U x), .int .u64 (U y), .bool true] w fun e w' => e = .returned (.tuple #[.int .u64 (U (aluW 128 x y true)), .bool true]) ∧ w = w' := by
  have HE : Hid (aluW 128 x y true = 0#64 - x) := Lib.hid rfl
  rw [HE.out]
  go_enter Try.func11, Try.ntmps11
  go_wp2_with fail
  go_ret2
  exact ⟨by rw [BitVec.zero_sub]; rfl, rfl⟩
theorem ralu_128_n (x y : B) (w : World) : Calls Try.prog 11 #[.int .i64 128, .int .u64 (U x), .int .u64 (U y), .bool false] w fun e w' => e = .returned (.tuple #[.int .u64 (U (aluW 128 x y false)), .bool true]) ∧ w = w' := by
  have HE : Hid (aluW 128 x y false = (0#64 - (x &&& low32)) &&& low32) := Lib.hid rfl
  rw [HE.out]
  go_enter Try.func11, Try.ntmps11
  go_wp2_with fail
  go_ret2
  exact ⟨by rw [BitVec.zero_sub]; rfl, rfl⟩
theorem ralu_144_w (x y : B) (w : World) : Calls Try.prog 11 #[.int .i64 144, .int .u64 (U x), .int .u64 (U y), .bool true] w fun e w' => e = .returned (.tuple #[.int .u64 (U (aluW 144 x y true)), .bool true]) ∧ w = w' := by
  have HE : Hid (aluW 144 x y true = x % y) := Lib.hid rfl
  rw [HE.out]
  clear HE
  cases hy : y == 0#64
  · have hn := U_ne hy
    go_enter Try.func11, Try.ntmps11
    go_wp2_with fail
    go_ret2
    exact ⟨rfl, rfl⟩
  · have hz : y = 0#64 := by simpa using hy
    have HZ := Lib.hid (show x % y = x by rw [hz]; simp)
    clear hz
    go_enter Try.func11, Try.ntmps11
    go_wp2_with fail
    go_ret2
    exact ⟨by rw [HZ.out]; rfl, rfl⟩
theorem ralu_144_n (x y : B) (w : World) : Calls Try.prog 11 #[.int .i64 144, .int .u64 (U x), .int .u64 (U y), .bool false] w fun e w' => e = .returned (.tuple #[.int .u64 (U (aluW 144 x y false)), .bool true]) ∧ w = w' := by
  have HE : Hid (aluW 144 x y false = ((x &&& low32) % (y &&& low32)) &&& low32) := Lib.hid rfl
  rw [HE.out]
  clear HE
  cases hy : (y &&& low32) == 0#64
  · have hn := U_ne hy
    go_enter Try.func11, Try.ntmps11
    go_wp2_with fail
    go_ret2
    exact ⟨rfl, rfl⟩
  · have hz : (y &&& low32) = 0#64 := by simpa using hy
    have HZ := Lib.hid (show ((x &&& low32) % (y &&& low32)) &&& low32 = (x &&& low32) &&& low32 by rw [hz]; simp)
    clear hz
    go_enter Try.func11, Try.ntmps11
    go_wp2_with fail
    go_ret2
    exact ⟨by rw [HZ.out]; rfl, rfl⟩
theorem ralu_160_w (x y : B) (w : World) : Calls Try.prog 11 #[.int .i64 160, .int .u64 (U x), .int .u64 (U y), .bool true] w fun e w' => e = .returned (.tuple #[.int .u64 (U (aluW 160 x y true)), .bool true]) ∧ w = w' := by
  have HE : Hid (aluW 160 x y true = x ^^^ y) := Lib.hid rfl
  rw [HE.out]
  go_enter Try.func11, Try.ntmps11
  go_wp2_with fail
  go_ret2
  exact ⟨rfl, rfl⟩
theorem ralu_160_n (x y : B) (w : World) : Calls Try.prog 11 #[.int .i64 160, .int .u64 (U x), .int .u64 (U y), .bool false] w fun e w' => e = .returned (.tuple #[.int .u64 (U (aluW 160 x y false)), .bool true]) ∧ w = w' := by
  have HE : Hid (aluW 160 x y false = ((x &&& low32) ^^^ (y &&& low32)) &&& low32) := Lib.hid rfl
  rw [HE.out]
  go_enter Try.func11, Try.ntmps11
  go_wp2_with fail
  go_ret2
  exact ⟨rfl, rfl⟩
theorem ralu_176_w (x y : B) (w : World) : Calls Try.prog 11 #[.int .i64 176, .int .u64 (U x), .int .u64 (U y), .bool true] w fun e w' => e = .returned (.tuple #[.int .u64 (U (aluW 176 x y true)), .bool true]) ∧ w = w' := by
  have HE : Hid (aluW 176 x y true = y) := Lib.hid rfl
  rw [HE.out]
  go_enter Try.func11, Try.ntmps11
  go_wp2_with fail
  go_ret2
  exact ⟨rfl, rfl⟩
theorem ralu_176_n (x y : B) (w : World) : Calls Try.prog 11 #[.int .i64 176, .int .u64 (U x), .int .u64 (U y), .bool false] w fun e w' => e = .returned (.tuple #[.int .u64 (U (aluW 176 x y false)), .bool true]) ∧ w = w' := by
  have HE : Hid (aluW 176 x y false = ((y &&& low32)) &&& low32) := Lib.hid rfl
  rw [HE.out]
  go_enter Try.func11, Try.ntmps11
  go_wp2_with fail
  go_ret2
  exact ⟨rfl, rfl⟩
theorem ralu_192_w (x y : B) (w : World) : Calls Try.prog 11 #[.int .i64 192, .int .u64 (U x), .int .u64 (U y), .bool true] w fun e w' => e = .returned (.tuple #[.int .u64 (U (aluW 192 x y true)), .bool true]) ∧ w = w' := by
  have HE : Hid (aluW 192 x y true = x.sshiftRight (y.toNat % 64)) := Lib.hid rfl
  rw [HE.out]
  clear HE
  have HS : Hid (∀ W, Calls Try.prog 25 #[.int .i64 192, .int .u64 (U x), .int .i64 (sh64 y), .bool true] W fun e w' => e = .returned (.int .u64 (U (x.sshiftRight (y.toNat % 64)))) ∧ W = w') := Lib.hid (fun W => by
    cases hs : x.getLsbD 63 with
    | true => rw [← halves_top x hs]; exact rshift_minus x _ (by omega) hs W
    | false => rw [sshift_plus hs, ← halves_zero]; exact rshift_plus x _ (by omega) hs W)
  generalize x.sshiftRight (y.toNat % 64) = r at *
  go_enter Try.func11, Try.ntmps11
  go_wp2_with (go_at_call 25; (with_reducible refine (HS.out _).mono ?_); rintro e w1 ⟨rfl, rfl⟩)
  go_ret2
  exact ⟨rfl, rfl⟩
theorem ralu_192_n (x y : B) (w : World) : Calls Try.prog 11 #[.int .i64 192, .int .u64 (U x), .int .u64 (U y), .bool false] w fun e w' => e = .returned (.tuple #[.int .u64 (U (aluW 192 x y false)), .bool true]) ∧ w = w' := by
  have HE : Hid (aluW 192 x y false = sar32 (x &&& low32) ((y &&& low32).toNat % 32)) := Lib.hid rfl
  rw [HE.out]
  clear HE
  have HS : Hid (∀ W, Calls Try.prog 25 #[.int .i64 192, .int .u64 (U (x &&& low32)), .int .i64 (sh32 (y &&& low32)), .bool false] W fun e w' => e = .returned (.int .u64 (U (sar32 (x &&& low32) ((y &&& low32).toNat % 32)))) ∧ W = w') := Lib.hid (fun W => by
    have hl := low_le x
    cases hs : (x &&& low32).getLsbD 31 with
    | true => rw [← halves_32 _ (by omega) hs]; exact rshift_minus32 _ _ (by omega) hs W
    | false => rw [sar32_shr (low_31 hs), ← halves_zero]; exact rshift_plus32 _ _ (by omega) hs W)
  have HL := Lib.hid (low_same (sar32_le (x &&& low32) ((y &&& low32).toNat % 32)))
  generalize sar32 (x &&& low32) ((y &&& low32).toNat % 32) = r at *
  go_enter Try.func11, Try.ntmps11
  go_wp2_with (go_at_call 25; (with_reducible refine (HS.out _).mono ?_); rintro e w1 ⟨rfl, rfl⟩)
  go_ret2
  exact ⟨by rw [HL.out]; rfl, rfl⟩
end Go.Proofs.Yticjhcbkkkkckaa
