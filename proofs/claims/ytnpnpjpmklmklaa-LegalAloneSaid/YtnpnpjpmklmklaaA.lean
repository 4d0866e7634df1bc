/- Contracts of the small functions of legal and of the document's answer: what an op is. -/
import Derived.Test.YtnpnpjpmklmklaaProg
import Derived.Test.YtnpnpjpmklmklaaP
import Derived.WalkKit
import Derived.Lib.Hide
import Derived.WalkSpells
import Derived.WalkLawsBesides
import Derived.BigQuiet
import Derived.Deep.QuietTactic
import Derived.IntWalk
import Derived.Deep.RegionWith
import Derived.Deep.RegionHeld3
namespace Go.Proofs.Ytnpnpjpmklmklaa
open Go.RowKit M

theorem nat_and7 (n : Nat) : n &&& 7 = n % 8 := Nat.and_two_pow_sub_one_eq_mod n 3
theorem i64_and7 (n : Int) : bits .and .i64 n 7 = n % 8 := by
  have h : (BitVec.ofInt 64 7).toNat = 2 ^ 3 - 1 := by decide
  have key : (BitVec.ofInt 64 n &&& BitVec.ofInt 64 7).toNat = (n % ((2 ^ 64 : Nat) : Int)).toNat % 2 ^ 3 := by
    rw [BitVec.toNat_and, BitVec.toNat_ofInt, h, Nat.and_two_pow_sub_one_eq_mod]
  show IntKind.i64.wrap ((BitVec.ofInt 64 n &&& BitVec.ofInt 64 7).toNat : Nat) = n % 8
  rw [key, IntKind.wrap_i64]
  omega
theorem nat_and8 (n : Nat) : n &&& 8 = if 8 ≤ n % 16 then 8 else 0 := by
  have h : n &&& 8 = (n % 16) &&& 8 := by
    rw [show (8 : Nat) = 15 &&& 8 from rfl, ← Nat.and_assoc, show n &&& 15 = n % 16 from Nat.and_two_pow_sub_one_eq_mod n 4]
    rfl
  rw [h]
  have hm : n % 16 < 16 := Nat.mod_lt _ (by decide)
  clear h
  generalize n % 16 = m at *
  revert m
  decide
theorem i64_and8 (n : Int) : bits .and .i64 n 8 = if 8 ≤ n % 16 then 8 else 0 := by
  have h : (BitVec.ofInt 64 8).toNat = 8 := by decide
  have key : (BitVec.ofInt 64 n &&& BitVec.ofInt 64 8).toNat = if 8 ≤ (n % ((2 ^ 64 : Nat) : Int)).toNat % 16 then 8 else 0 := by
    rw [BitVec.toNat_and, BitVec.toNat_ofInt, h, nat_and8]
  show IntKind.i64.wrap ((BitVec.ofInt 64 n &&& BitVec.ofInt 64 8).toNat : Nat) = _
  rw [key, IntKind.wrap_i64]
  split <;> split <;> omega
theorem nat_andNot15 (n : Nat) (h : n < 2 ^ 64) : n &&& (2 ^ 64 - 1 - 15) = n - n % 16 := by
  apply Nat.eq_of_testBit_eq
  intro i
  rw [Nat.testBit_and]
  have e : n - n % 16 = n / 16 * 2 ^ 4 := by omega
  rw [e, Nat.testBit_mul_two_pow]
  have e2 : 2 ^ 64 - 1 - 15 = (2 ^ 60 - 1) * 2 ^ 4 := by decide
  rw [e2, Nat.testBit_mul_two_pow, Nat.testBit_two_pow_sub_one]
  by_cases h4 : 4 ≤ i
  · have e3 : n / 16 = n / 2 ^ 4 := rfl
    rw [e3, Nat.testBit_div_two_pow, Nat.sub_add_cancel h4]
    by_cases h5 : i - 4 < 60
    · simp [h4, h5]
    · have : n.testBit i = false := Nat.testBit_lt_two_pow (Nat.lt_of_lt_of_le h (Nat.pow_le_pow_right (by decide) (by omega)))
      simp [this]
  · simp [h4]
theorem i64_high (n : Int) (h0 : -9223372036854775808 ≤ n) (h1 : n ≤ 9223372036854775807) : bits .andNot .i64 n 15 = n - n % 16 := by
  have h : (BitVec.ofInt 64 15).toNat = 15 := by decide
  have key : (BitVec.ofInt 64 n &&& ~~~ BitVec.ofInt 64 15).toNat = (n % ((2 ^ 64 : Nat) : Int)).toNat - (n % ((2 ^ 64 : Nat) : Int)).toNat % 16 := by
    rw [BitVec.toNat_and, BitVec.toNat_not, BitVec.toNat_ofInt, h, nat_andNot15 _ (by omega)]
  show IntKind.i64.wrap ((BitVec.ofInt 64 n &&& ~~~ BitVec.ofInt 64 15).toNat : Nat) = _
  rw [key, IntKind.wrap_i64]
  omega
theorem ret_int {k : IntKind} {a b : Int} (h : a = b) : Ending.returned (.int k a) = .returned (.int k b) := by rw [h]
theorem ret_bool {a b : Bool} (h : a = b) : Ending.returned (.bool a) = .returned (.bool b) := by rw [h]

theorem class_any (op : Int) (w : World) : Calls Try.prog 23 #[.int .i64 op] w fun e w' => e = .returned (.int .i64 (op % 8)) ∧ w = w' := by
  go_enter Try.func23, Try.ntmps23
  go_wp2
  go_ret
  exact ⟨ret_int (by first | exact i64_and7 _ | (rw [i64_and7])), rfl⟩
theorem high_any (op : Int) (w : World) (h0 : -9223372036854775808 ≤ op) (h1 : op ≤ 9223372036854775807) : Calls Try.prog 25 #[.int .i64 op] w fun e w' => e = .returned (.int .i64 (op - op % 16)) ∧ w = w' := by
  go_enter Try.func25, Try.ntmps25
  go_wp2
  go_ret
  exact ⟨ret_int (i64_high _ h0 h1), rfl⟩
theorem byReg_any (op : Int) (w : World) : Calls Try.prog 38 #[.int .i64 op] w fun e w' => e = .returned (.bool (rg op)) ∧ w = w' := by
  go_enter Try.func38, Try.ntmps38
  go_wp2
  go_ret
  refine ⟨ret_bool ?_, rfl⟩
  rw [i64_and8]
  unfold rg
  split <;> simp [*]
theorem within_any (n a b : Int) (w : World) :
    Calls Try.prog 40 #[.int .i64 n, .int .i64 a, .int .i64 b] w fun e w' => e = .returned (.bool (inB n a b)) ∧ w = w' := by
  unfold inB
  by_cases h1 : a ≤ n
  · go_enter Try.func40, Try.ntmps40
    go_wp2
    go_ret
    exact ⟨by simp [h1], rfl⟩
  · go_enter Try.func40, Try.ntmps40
    go_wp2
    go_ret
    exact ⟨by simp; omega, rfl⟩
theorem rwithin_any (n a b : Int) (w : World) :
    Calls Try.prog 35 #[.int .i64 n, .int .i64 a, .int .i64 b] w fun e w' => e = .returned (.bool (inB n a b)) ∧ w = w' := by
  unfold inB
  by_cases h1 : a ≤ n
  · go_enter Try.func35, Try.ntmps35
    go_wp2
    go_ret
    exact ⟨by simp [h1], rfl⟩
  · go_enter Try.func35, Try.ntmps35
    go_wp2
    go_ret
    exact ⟨by simp; omega, rfl⟩
theorem within_is {v : Bool} (n a b : Int) (w : World) (h : inB n a b = v) : Calls Try.prog 40 #[.int .i64 n, .int .i64 a, .int .i64 b] w fun e w' => e = .returned (.bool v) ∧ w = w' := by
  rw [← h]; exact within_any n a b w
theorem rwithin_is {v : Bool} (n a b : Int) (w : World) (h : inB n a b = v) : Calls Try.prog 35 #[.int .i64 n, .int .i64 a, .int .i64 b] w fun e w' => e = .returned (.bool v) ∧ w = w' := by
  rw [← h]; exact rwithin_any n a b w
set_option maxHeartbeats 1000000 in
theorem size_any (op : Int) (w : World) : Calls Try.prog 12 #[.int .i64 op] w fun e w' => e = .returned (.int .i64 (sizeI op)) ∧ w = w' := by
  unfold sizeI
  go_enter Try.func12, Try.ntmps12
  go_wp2
  all_goals
    go_ret
    exact ⟨ret_int (by simp_all), rfl⟩
set_option maxHeartbeats 1000000 in
theorem rsize_any (op : Int) (w : World) : Calls Try.prog 13 #[.int .i64 op] w fun e w' => e = .returned (.int .i64 (sizeI op)) ∧ w = w' := by
  unfold sizeI
  go_enter Try.func13, Try.ntmps13
  go_wp2
  all_goals
    go_ret
    exact ⟨ret_int (by simp_all), rfl⟩
end Go.Proofs.Ytnpnpjpmklmklaa
