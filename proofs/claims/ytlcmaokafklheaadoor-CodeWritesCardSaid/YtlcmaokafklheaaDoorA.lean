/- Contracts of the small functions of word, code and of the document's answer: sizes, signs, numbers, a field's bits. -/
import Derived.Test.YtlcmaokafklheaaDoorProg
import Derived.Test.YtlcmaokafklheaaDoorP
import Derived.WalkKit
import Derived.Lib.Hide
import Derived.WalkSpells
import Derived.WalkLawsBesides
import Derived.BigQuiet
import Derived.Deep.QuietTactic
import Derived.IntWalk
import Derived.Deep.RegionWith
namespace Go.Proofs.YtlcmaokafklheaaDoor
open Go.RowKit M

theorem and_low (x : Int) (h0 : 0 ≤ x) (h1 : x < 18446744073709551616) : bits .and .u64 x 4294967295 = x % 4294967296 := by
  rw [u64_and x _ h0 h1 (by omega) (by omega)]
  rw [show (4294967295 : Int).toNat = 2 ^ 32 - 1 from rfl, Nat.and_two_pow_sub_one_eq_mod]
  omega
theorem or_join (i : Nat) (a b : Int) (ha : 0 ≤ a) (hi : a.toNat < 2 ^ i) (hb : 0 ≤ b) (hz : b.toNat % 2 ^ i = 0) (h1 : a < 18446744073709551616) (h2 : b < 18446744073709551616) : bits .or .u64 a b = a + b := by
  rw [u64_or a b ha h1 hb h2, Nat.or_comm, nat_join i _ _ hz hi]
  omega
theorem ret_int {k : IntKind} {a b : Int} (h : a = b) : Ending.returned (.int k a) = .returned (.int k b) := by rw [h]

set_option maxHeartbeats 400000 in
theorem size_any (n : Int) (w : World) :
    Calls Tryd.prog 70 #[.int .i64 n] w fun e w' => e = .returned (.bool (isSize n)) ∧ w = w' := by
  unfold isSize
  go_enter Tryd.func70, Tryd.ntmps70
  go_wp2
  all_goals
    go_ret
    exact ⟨by simp [*], rfl⟩
theorem size_is {v : Bool} (n : Int) (w : World) (h : isSize n = v) : Calls Tryd.prog 70 #[.int .i64 n] w fun e w' => e = .returned (.bool v) ∧ w = w' := by
  rw [← h]; exact size_any n w
set_option maxHeartbeats 400000 in
theorem rsize_any (n : Int) (w : World) :
    Calls Tryd.prog 51 #[.int .i64 n] w fun e w' => e = .returned (.bool (isSize n)) ∧ w = w' := by
  unfold isSize
  go_enter Tryd.func51, Tryd.ntmps51
  go_wp2
  all_goals
    go_ret
    exact ⟨by simp [*], rfl⟩
theorem rsize_is {v : Bool} (n : Int) (w : World) (h : isSize n = v) : Calls Tryd.prog 51 #[.int .i64 n] w fun e w' => e = .returned (.bool v) ∧ w = w' := by
  rw [← h]; exact rsize_any n w

theorem low_any (x : Int) (w : World) (_h0 : 0 ≤ x) (_h1 : x < 18446744073709551616) :
    Calls Tryd.prog 66 #[.int .u64 x] w fun e w' => e = .returned (.int .u64 (x % 4294967296)) ∧ w = w' := by
  go_enter Tryd.func66, Tryd.ntmps66
  go_wp2
  go_ret
  exact ⟨ret_int (by go_num), rfl⟩
/-- a number's lowest 32 bits with their sign, as 64 bits without one -/
theorem sign4_any (x : Int) (w : World) (_h0 : 0 ≤ x) (_h1 : x < 18446744073709551616) :
    Calls Tryd.prog 65 #[.int .u64 x, .int .i64 4] w fun e w' => e = .returned (.int .u64 (sg32 x % 18446744073709551616)) ∧ w = w' := by
  go_enter Tryd.func65, Tryd.ntmps65
  go_wp2_with (go_at_call 70; refine (size_is _ _ (show isSize 4 = true from rfl)).mono ?_; rintro e w1 ⟨rfl, rfl⟩)
  go_ret
  refine ⟨ret_int ?_, rfl⟩
  unfold sg32 wrap64
  simp only [IntKind.wrap_u64]
  omega
theorem imm_no (n : Int) (w : World) (_h0 : -9223372036854775808 ≤ n) (_h1 : n ≤ 9223372036854775807) :
    Calls Tryd.prog 45 #[.int .i64 n, .bool false] w fun e w' => e = .returned (.int .u64 (n % 4294967296)) ∧ w = w' := by
  go_enter Tryd.func45, Tryd.ntmps45
  go_wp2_with (go_at_call 66; refine (low_any _ _ (by simp only [IntKind.wrap_u64]; omega) (by simp only [IntKind.wrap_u64]; omega)).mono ?_; rintro e w1 ⟨rfl, rfl⟩)
  go_ret
  exact ⟨ret_int (by simp only [IntKind.wrap_u64]; omega), rfl⟩
theorem rimm_no (n : Int) (w : World) (_h0 : -9223372036854775808 ≤ n) (_h1 : n ≤ 9223372036854775807) :
    Calls Tryd.prog 23 #[.int .i64 n, .bool false] w fun e w' => e = .returned (.int .u64 (n % 4294967296)) ∧ w = w' := by
  go_enter Tryd.func23, Tryd.ntmps23
  go_wp2
  go_ret
  refine ⟨ret_int ?_, rfl⟩
  rw [and_low _ (by simp only [IntKind.wrap_u64]; omega) (by simp only [IntKind.wrap_u64]; omega), IntKind.wrap_u64]
  omega
theorem signed_any (x : Int) (w : World) (h0 : 0 ≤ x) (h1 : x < 18446744073709551616) :
    Calls Tryd.prog 53 #[.int .u64 x] w fun e w' => e = .returned (.int .i64 (sg32 x)) ∧ w = w' := by
  go_enter Tryd.func53, Tryd.ntmps53
  go_wp2_with (go_at_call 65; refine (sign4_any _ _ h0 h1).mono ?_; rintro e w1 ⟨rfl, rfl⟩)
  go_ret
  refine ⟨ret_int ?_, rfl⟩
  unfold sg32 wrap64
  omega
theorem within_any (n a b : Int) (w : World) :
    Calls Tryd.prog 25 #[.int .i64 n, .int .i64 a, .int .i64 b] w fun e w' => e = .returned (.bool (decide (a ≤ n ∧ n ≤ b))) ∧ w = w' := by
  by_cases h1 : a ≤ n
  · go_enter Tryd.func25, Tryd.ntmps25
    go_wp2
    go_ret
    exact ⟨by simp [h1], rfl⟩
  · go_enter Tryd.func25, Tryd.ntmps25
    go_wp2
    go_ret
    exact ⟨by simp; omega, rfl⟩
theorem rsign4_any (x : Int) (w : World) (h0 : 0 ≤ x) (h1 : x < 18446744073709551616) :
    Calls Tryd.prog 34 #[.int .u64 x, .int .i64 4] w fun e w' => e = .returned (.int .u64 (sg32 x % 18446744073709551616)) ∧ w = w' := by
  go_enter Tryd.func34, Tryd.ntmps34
  go_wp2_with (go_at_call 51; refine (rsize_is _ _ (show isSize 4 = true from rfl)).mono ?_; rintro e w1 ⟨rfl, rfl⟩)
  all_goals
    go_ret
    refine ⟨ret_int ?_, rfl⟩
    unfold sg32
    try simp only [IntKind.wrap_u64]
    omega
theorem rsign2_any (x : Int) (w : World) (h0 : 0 ≤ x) (h1 : x < 18446744073709551616) :
    Calls Tryd.prog 34 #[.int .u64 x, .int .i64 2] w fun e w' => e = .returned (.int .u64 (sg16 x % 18446744073709551616)) ∧ w = w' := by
  go_enter Tryd.func34, Tryd.ntmps34
  go_wp2_with (go_at_call 51; refine (rsize_is _ _ (show isSize 2 = true from rfl)).mono ?_; rintro e w1 ⟨rfl, rfl⟩)
  all_goals
    go_ret
    refine ⟨ret_int ?_, rfl⟩
    unfold sg16
    try simp only [IntKind.wrap_u64]
    omega

/-- a field, by its place -/
def fOf (x : In) : Nat → Int
  | 0 => x.op
  | 1 => x.dst
  | 2 => x.src
  | 3 => x.off
  | _ => x.imm
def rowV : Nat → Value
  | 0 => .agg #[.int .i64 0, .int .i64 8, .bool false]
  | 1 => .agg #[.int .i64 8, .int .i64 4, .bool false]
  | 2 => .agg #[.int .i64 12, .int .i64 4, .bool false]
  | 3 => .agg #[.int .i64 16, .int .i64 16, .bool true]
  | _ => .agg #[.int .i64 32, .int .i64 32, .bool true]
/-- what a field adds to its slot -/
def ptF (n : Int) : Nat → Int
  | 0 => n % 256
  | 1 => n % 16 * 256
  | 2 => n % 16 * 4096
  | 3 => n % 65536 * 65536
  | _ => n % 4294967296 * 4294967296
set_option maxHeartbeats 400000 in
theorem get_row (x : Int) (w : World) (h0 : 0 ≤ x) (h1 : x < 18446744073709551616) (k : Nat) (hk : k < 5) :
    Calls Tryd.prog 64 #[rowV k, .int .u64 x] w fun e w' => e = .returned (.int .i64 (fOf (unp x) k)) ∧ Below w.heap.size w w' := by
  match k, hk with
  | 0, _ =>
    unfold rowV
    go_enter Tryd.func64, Tryd.ntmps64
    go_wp2
    go_ret
    exact ⟨ret_int (by unfold fOf unp; simp only [IntKind.wrap_u64]; unfold wrap64; first | done | omega | (unfold sg16; omega) | (unfold sg32; omega)), (Below.refl _ _).alloc (Nat.le_refl _) _⟩
  | 1, _ =>
    unfold rowV
    go_enter Tryd.func64, Tryd.ntmps64
    go_wp2
    go_ret
    exact ⟨ret_int (by unfold fOf unp; simp only [IntKind.wrap_u64]; unfold wrap64; first | done | omega | (unfold sg16; omega) | (unfold sg32; omega)), (Below.refl _ _).alloc (Nat.le_refl _) _⟩
  | 2, _ =>
    unfold rowV
    go_enter Tryd.func64, Tryd.ntmps64
    go_wp2
    go_ret
    exact ⟨ret_int (by unfold fOf unp; simp only [IntKind.wrap_u64]; unfold wrap64; first | done | omega | (unfold sg16; omega) | (unfold sg32; omega)), (Below.refl _ _).alloc (Nat.le_refl _) _⟩
  | 3, _ =>
    unfold rowV
    go_enter Tryd.func64, Tryd.ntmps64
    go_wp2
    go_ret
    exact ⟨ret_int (by unfold fOf unp; simp only [IntKind.wrap_u64]; unfold wrap64; first | done | omega | (unfold sg16; omega) | (unfold sg32; omega)), (Below.refl _ _).alloc (Nat.le_refl _) _⟩
  | 4, _ =>
    unfold rowV
    go_enter Tryd.func64, Tryd.ntmps64
    go_wp2
    go_ret
    exact ⟨ret_int (by show _ = sg32 (x / 4294967296); unfold wrap64 sg32; omega), (Below.refl _ _).alloc (Nat.le_refl _) _⟩
theorem drewN_below {w : World} {B : Nat} {W : World} (h : Below B w W) (n : Nat) : Below B w (W.drewN n) := h.trans ⟨rfl, rfl, rfl, Nat.le_refl _, fun _ _ => rfl⟩
set_option maxHeartbeats 400000 in
theorem put_row (n : Int) (w : World) (_h0 : -9223372036854775808 ≤ n) (_h1 : n ≤ 9223372036854775807) (k : Nat) (hk : k < 5) :
    Calls Tryd.prog 54 #[rowV k, .int .i64 n] w fun e w' => e = .returned (.int .u64 (ptF n k)) ∧ Below w.heap.size w w' := by
  match k, hk with
  | 0, _ =>
    unfold rowV
    go_enter Tryd.func54, Tryd.ntmps54
    go_wp2
    go_quiet (fail)
    go_wp2
    go_ret
    exact ⟨ret_int (by unfold ptF; simp only [IntKind.wrap_u64]; omega), drewN_below ((Below.refl _ _).alloc (Nat.le_refl _) _) _⟩
  | 1, _ =>
    unfold rowV
    go_enter Tryd.func54, Tryd.ntmps54
    go_wp2
    go_quiet (fail)
    go_wp2
    go_ret
    exact ⟨ret_int (by unfold ptF; simp only [IntKind.wrap_u64]; omega), drewN_below ((Below.refl _ _).alloc (Nat.le_refl _) _) _⟩
  | 2, _ =>
    unfold rowV
    go_enter Tryd.func54, Tryd.ntmps54
    go_wp2
    go_quiet (fail)
    go_wp2
    go_ret
    exact ⟨ret_int (by unfold ptF; simp only [IntKind.wrap_u64]; omega), drewN_below ((Below.refl _ _).alloc (Nat.le_refl _) _) _⟩
  | 3, _ =>
    unfold rowV
    go_enter Tryd.func54, Tryd.ntmps54
    go_wp2
    go_quiet (fail)
    go_wp2
    go_ret
    exact ⟨ret_int (by unfold ptF; simp only [IntKind.wrap_u64]; omega), drewN_below ((Below.refl _ _).alloc (Nat.le_refl _) _) _⟩
  | 4, _ =>
    unfold rowV
    go_enter Tryd.func54, Tryd.ntmps54
    go_wp2
    go_quiet (fail)
    go_wp2
    go_ret
    exact ⟨ret_int (by unfold ptF; simp only [IntKind.wrap_u64]; omega), drewN_below ((Below.refl _ _).alloc (Nat.le_refl _) _) _⟩
end Go.Proofs.YtlcmaokafklheaaDoor
