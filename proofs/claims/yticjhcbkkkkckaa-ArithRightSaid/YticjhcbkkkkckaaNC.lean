/- Words: the document's own shifts, place by place. -/
import Derived.Test.YticjhcbkkkkckaaNA
import Derived.Test.YticjhcbkkkkckaaWH
namespace Go.Proofs.Yticjhcbkkkkckaa
open Go.RowKit
attribute [local go_sem] b_and b_or b_xor b_andNot b_low b_top b_most b_signed b_unsigned b_zero b_eq s_eq b_nzero b_neq s_neq b_max b_min s_max s_min
attribute [local go_sem ↓] Go.wp_at_zero Go.wp_at_succ
attribute [local go_sem] b_add b_sub b_mul b_neg b_two

theorem neg_wide (x : B) : (U x / 9223372036854775808 == 1) = x.getLsbD 63 := by
  rw [bit63, Bool.eq_iff_iff, beq_iff_eq, decide_eq_true_iff]
  have := x.isLt
  unfold U
  omega
theorem bit31 (x : B) : x.getLsbD 31 = decide (x.toNat / 2147483648 % 2 = 1) := by
  rw [BitVec.getLsbD, Nat.testBit_eq_decide_div_mod_eq]
theorem b_half (x : B) : IntKind.u64.wrap ((U x).tdiv 2) = U (x >>> 1) := by
  have := x.isLt
  have h := BitVec.toNat_ushiftRight x 1
  rw [Nat.shiftRight_eq_div_pow] at h
  unfold U
  rw [h, IntKind.wrap_u64, Int.tdiv_eq_ediv_of_nonneg (by omega)]
  omega
theorem b_half2 (x : B) : U x / 2 = U (x >>> 1) := by
  have h := BitVec.toNat_ushiftRight x 1
  rw [Nat.shiftRight_eq_div_pow] at h
  unfold U
  rw [h]
  omega
theorem rneg_wide (x : B) (w : World) : Calls Try.prog 59 #[.int .u64 (U x), .bool true] w fun e w' => e = .returned (.bool (x.getLsbD 63)) ∧ w = w' := by
  have H := Lib.hid (neg_wide x)
  go_enter Try.func59, Try.ntmps59
  go_wp2_with fail
  go_ret
  exact ⟨ret_bool H.out.symm, rfl⟩
theorem neg_low (x : B) : (bits BinOp.and IntKind.u64 (U x / 2147483648) 1 == 1) = x.getLsbD 31 := by
  have e : U x / (2147483648 : Int) = U (x >>> 31) := by
    have h := BitVec.toNat_ushiftRight x 31
    rw [Nat.shiftRight_eq_div_pow] at h
    unfold U
    rw [h]
    omega
  have e1 : bits BinOp.and IntKind.u64 (U (x >>> 31)) 1 = U (x >>> 31 &&& 1#64) := b_and _ 1#64
  rw [e, e1, bit0, BitVec.getLsbD_ushiftRight]
  show (U (if x.getLsbD 31 = true then 1#64 else 0#64) == 1) = _
  cases x.getLsbD 31 <;> rfl
theorem rneg_low (x : B) (w : World) : Calls Try.prog 59 #[.int .u64 (U x), .bool false] w fun e w' => e = .returned (.bool (x.getLsbD 31)) ∧ w = w' := by
  have H := Lib.hid (neg_low x)
  go_enter Try.func59, Try.ntmps59
  go_wp2_with fail
  go_ret
  exact ⟨ret_bool H.out.symm, rfl⟩
/-- so many places to the right, with a word put in at the top each time -/
def halves (top x : B) : Nat → B
  | 0 => x
  | n + 1 => halves top x n >>> 1 ||| top
def dbl (x : B) : Nat → B
  | 0 => x
  | n + 1 => dbl x n * 2#64
theorem dbl_is (x : B) (n : Nat) : dbl x n = x <<< n := by
  induction n with
  | zero => simp [dbl]
  | succ n ih => rw [dbl, ih, ← shl_one, ← BitVec.shiftLeft_add]
theorem halves_zero (x : B) (n : Nat) : halves 0#64 x n = x >>> n := by
  induction n with
  | zero => simp [halves]
  | succ n ih => rw [halves, ih, ← BitVec.shiftRight_add]; simp
set_option maxHeartbeats 1000000 in
theorem rshift_left (x : B) (n : Nat) (hn : n < 64) (wide : Bool) (w : World) : Calls Try.prog 25 #[.int .i64 96, .int .u64 (U x), .int .i64 (n : Int), .bool wide] w fun e w' => e = .returned (.int .u64 (U (x <<< n))) ∧ w = w' := by
  rw [← dbl_is]
  have H1 := Lib.hid (fun W => rneg_wide x W)
  have H2 := Lib.hid (fun W => rneg_low x W)
  cases wide
  all_goals
    go_enter Try.func25, Try.ntmps25
    go_wp2_with (first
      | (go_at_call 59; (with_reducible refine (H1.out _).mono ?_); rintro e w1 ⟨rfl, rfl⟩)
      | (go_at_call 59; (with_reducible refine (H2.out _).mono ?_); rintro e w1 ⟨rfl, rfl⟩))
    all_goals
      go_loop [1, 10] (fun p i => ∃ k : Nat, k ≤ n ∧ i = .int .i64 (k : Int) ∧ p = .int .u64 (U (dbl x k))) (fun _ i => n - (intOf i).toNat)
      case atStart => exact ⟨0, Nat.zero_le _, rfl, rfl⟩
      case round =>
        obtain ⟨k, hk, rfl, rfl⟩ := hrel
        by_cases hlt : k < n
        · have hd := Lib.hid (show dbl x (k + 1) = dbl x k * 2#64 from rfl)
          generalize dbl x k = X at *
          go_wp2
          go_round
          case rel => exact ⟨k + 1, by omega, by go_num, by (rw [hd.out]; try simp)⟩
          case measure => simp [intOf]; omega
        · have hkn : k = n := by omega
          subst hkn
          go_wp2
          go_ret
          exact ⟨rfl, rfl⟩
theorem b_or0 (x : B) : bits .or .u64 (U x) 0 = U (x ||| 0#64) := b_or x 0#64
theorem b_or31 (x : B) : bits .or .u64 (U x) 2147483648 = U (x ||| 2147483648#64) := b_or x 2147483648#64
theorem b_or63 (x : B) : bits .or .u64 (U x) 9223372036854775808 = U (x ||| topB) := b_or x topB
attribute [local go_sem] b_half b_half2 b_or0 b_or31 b_or63
set_option maxHeartbeats 1000000 in
theorem rshift_right (x : B) (n : Nat) (hn : n < 64) (wide : Bool) (w : World) : Calls Try.prog 25 #[.int .i64 112, .int .u64 (U x), .int .i64 (n : Int), .bool wide] w fun e w' => e = .returned (.int .u64 (U (halves 0#64 x n))) ∧ w = w' := by
  have H1 := Lib.hid (fun W => rneg_wide x W)
  have H2 := Lib.hid (fun W => rneg_low x W)
  cases wide
  all_goals
    go_enter Try.func25, Try.ntmps25
    go_wp2_with (first
      | (go_at_call 59; (with_reducible refine (H1.out _).mono ?_); rintro e w1 ⟨rfl, rfl⟩)
      | (go_at_call 59; (with_reducible refine (H2.out _).mono ?_); rintro e w1 ⟨rfl, rfl⟩))
    all_goals
      go_loop [1, 10] (fun p i => ∃ k : Nat, k ≤ n ∧ i = .int .i64 (k : Int) ∧ p = .int .u64 (U (halves 0#64 x k))) (fun _ i => n - (intOf i).toNat)
      case atStart => exact ⟨0, Nat.zero_le _, rfl, rfl⟩
      case round =>
        obtain ⟨k, hk, rfl, rfl⟩ := hrel
        by_cases hlt : k < n
        · have hd := Lib.hid (show halves 0#64 x (k + 1) = halves 0#64 x k >>> 1 ||| 0#64 from rfl)
          generalize halves 0#64 x k = X at *
          go_wp2
          go_round
          case rel => exact ⟨k + 1, by omega, by go_num, by (rw [hd.out]; try simp)⟩
          case measure => simp [intOf]; omega
        · have hkn : k = n := by omega
          subst hkn
          go_wp2
          go_ret
          exact ⟨rfl, rfl⟩
set_option maxHeartbeats 1000000 in
theorem rshift_plus (x : B) (n : Nat) (hn : n < 64) (hs : x.getLsbD 63 = false) (w : World) : Calls Try.prog 25 #[.int .i64 192, .int .u64 (U x), .int .i64 (n : Int), .bool true] w fun e w' => e = .returned (.int .u64 (U (halves 0#64 x n))) ∧ w = w' := by
  have H1 := Lib.hid (fun W => rneg_wide x W)
  have H2 := Lib.hid (fun W => rneg_low x W)
  rw [hs] at H1
  all_goals
    go_enter Try.func25, Try.ntmps25
    go_wp2_with (first
      | (go_at_call 59; (with_reducible refine (H1.out _).mono ?_); rintro e w1 ⟨rfl, rfl⟩)
      | (go_at_call 59; (with_reducible refine (H2.out _).mono ?_); rintro e w1 ⟨rfl, rfl⟩))
    all_goals
      go_loop [1, 10] (fun p i => ∃ k : Nat, k ≤ n ∧ i = .int .i64 (k : Int) ∧ p = .int .u64 (U (halves 0#64 x k))) (fun _ i => n - (intOf i).toNat)
      case atStart => exact ⟨0, Nat.zero_le _, rfl, rfl⟩
      case round =>
        obtain ⟨k, hk, rfl, rfl⟩ := hrel
        by_cases hlt : k < n
        · have hd := Lib.hid (show halves 0#64 x (k + 1) = halves 0#64 x k >>> 1 ||| 0#64 from rfl)
          generalize halves 0#64 x k = X at *
          go_wp2
          go_round
          case rel => exact ⟨k + 1, by omega, by go_num, by (rw [hd.out]; try simp)⟩
          case measure => simp [intOf]; omega
        · have hkn : k = n := by omega
          subst hkn
          go_wp2
          go_ret
          exact ⟨rfl, rfl⟩
set_option maxHeartbeats 1000000 in
theorem rshift_minus (x : B) (n : Nat) (hn : n < 64) (hs : x.getLsbD 63 = true) (w : World) : Calls Try.prog 25 #[.int .i64 192, .int .u64 (U x), .int .i64 (n : Int), .bool true] w fun e w' => e = .returned (.int .u64 (U (halves topB x n))) ∧ w = w' := by
  have H1 := Lib.hid (fun W => rneg_wide x W)
  have H2 := Lib.hid (fun W => rneg_low x W)
  rw [hs] at H1
  all_goals
    go_enter Try.func25, Try.ntmps25
    go_wp2_with (first
      | (go_at_call 59; (with_reducible refine (H1.out _).mono ?_); rintro e w1 ⟨rfl, rfl⟩)
      | (go_at_call 59; (with_reducible refine (H2.out _).mono ?_); rintro e w1 ⟨rfl, rfl⟩))
    all_goals
      go_loop [1, 10] (fun p i => ∃ k : Nat, k ≤ n ∧ i = .int .i64 (k : Int) ∧ p = .int .u64 (U (halves topB x k))) (fun _ i => n - (intOf i).toNat)
      case atStart => exact ⟨0, Nat.zero_le _, rfl, rfl⟩
      case round =>
        obtain ⟨k, hk, rfl, rfl⟩ := hrel
        by_cases hlt : k < n
        · have hd := Lib.hid (show halves topB x (k + 1) = halves topB x k >>> 1 ||| topB from rfl)
          generalize halves topB x k = X at *
          go_wp2
          go_round
          case rel => exact ⟨k + 1, by omega, by go_num, by (rw [hd.out]; try simp)⟩
          case measure => simp [intOf]; omega
        · have hkn : k = n := by omega
          subst hkn
          go_wp2
          go_ret
          exact ⟨rfl, rfl⟩
set_option maxHeartbeats 1000000 in
theorem rshift_plus32 (x : B) (n : Nat) (hn : n < 64) (hs : x.getLsbD 31 = false) (w : World) : Calls Try.prog 25 #[.int .i64 192, .int .u64 (U x), .int .i64 (n : Int), .bool false] w fun e w' => e = .returned (.int .u64 (U (halves 0#64 x n))) ∧ w = w' := by
  have H1 := Lib.hid (fun W => rneg_wide x W)
  have H2 := Lib.hid (fun W => rneg_low x W)
  rw [hs] at H2
  all_goals
    go_enter Try.func25, Try.ntmps25
    go_wp2_with (first
      | (go_at_call 59; (with_reducible refine (H1.out _).mono ?_); rintro e w1 ⟨rfl, rfl⟩)
      | (go_at_call 59; (with_reducible refine (H2.out _).mono ?_); rintro e w1 ⟨rfl, rfl⟩))
    all_goals
      go_loop [1, 10] (fun p i => ∃ k : Nat, k ≤ n ∧ i = .int .i64 (k : Int) ∧ p = .int .u64 (U (halves 0#64 x k))) (fun _ i => n - (intOf i).toNat)
      case atStart => exact ⟨0, Nat.zero_le _, rfl, rfl⟩
      case round =>
        obtain ⟨k, hk, rfl, rfl⟩ := hrel
        by_cases hlt : k < n
        · have hd := Lib.hid (show halves 0#64 x (k + 1) = halves 0#64 x k >>> 1 ||| 0#64 from rfl)
          generalize halves 0#64 x k = X at *
          go_wp2
          go_round
          case rel => exact ⟨k + 1, by omega, by go_num, by (rw [hd.out]; try simp)⟩
          case measure => simp [intOf]; omega
        · have hkn : k = n := by omega
          subst hkn
          go_wp2
          go_ret
          exact ⟨rfl, rfl⟩
set_option maxHeartbeats 1000000 in
theorem rshift_minus32 (x : B) (n : Nat) (hn : n < 64) (hs : x.getLsbD 31 = true) (w : World) : Calls Try.prog 25 #[.int .i64 192, .int .u64 (U x), .int .i64 (n : Int), .bool false] w fun e w' => e = .returned (.int .u64 (U (halves 2147483648#64 x n))) ∧ w = w' := by
  have H1 := Lib.hid (fun W => rneg_wide x W)
  have H2 := Lib.hid (fun W => rneg_low x W)
  rw [hs] at H2
  all_goals
    go_enter Try.func25, Try.ntmps25
    go_wp2_with (first
      | (go_at_call 59; (with_reducible refine (H1.out _).mono ?_); rintro e w1 ⟨rfl, rfl⟩)
      | (go_at_call 59; (with_reducible refine (H2.out _).mono ?_); rintro e w1 ⟨rfl, rfl⟩))
    all_goals
      go_loop [1, 10] (fun p i => ∃ k : Nat, k ≤ n ∧ i = .int .i64 (k : Int) ∧ p = .int .u64 (U (halves 2147483648#64 x k))) (fun _ i => n - (intOf i).toNat)
      case atStart => exact ⟨0, Nat.zero_le _, rfl, rfl⟩
      case round =>
        obtain ⟨k, hk, rfl, rfl⟩ := hrel
        by_cases hlt : k < n
        · have hd := Lib.hid (show halves 2147483648#64 x (k + 1) = halves 2147483648#64 x k >>> 1 ||| 2147483648#64 from rfl)
          generalize halves 2147483648#64 x k = X at *
          go_wp2
          go_round
          case rel => exact ⟨k + 1, by omega, by go_num, by (rw [hd.out]; try simp)⟩
          case measure => simp [intOf]; omega
        · have hkn : k = n := by omega
          subst hkn
          go_wp2
          go_ret
          exact ⟨rfl, rfl⟩
end Go.Proofs.Yticjhcbkkkkckaa
