/- Known bits: package tnum's shifts. -/
import Derived.Test.YticjhcbkkkkckaaNE
namespace Go.Proofs.Yticjhcbkkkkckaa
open Go.RowKit
attribute [local go_sem] b_and b_or b_xor b_andNot b_low b_top b_most b_signed b_unsigned b_zero b_eq s_eq b_nzero b_neq s_neq b_max b_min s_max s_min
attribute [local go_sem ↓] Go.wp_at_zero Go.wp_at_succ
attribute [local go_sem] b_add b_sub b_mul b_neg b_two

theorem shl_clamp (x : B) (n : Nat) : IntKind.u64.wrap (U x * 2 ^ (min n 64)) = U (x <<< n) := by
  have hx := x.isLt
  rw [IntKind.wrap_u64]
  unfold U
  rw [BitVec.toNat_shiftLeft, Nat.shiftLeft_eq]
  by_cases h : n ≤ 64
  · rw [Nat.min_eq_left h]
    have : (x.toNat : Int) * 2 ^ n = ((x.toNat * 2 ^ n : Nat) : Int) := by push_cast; rfl
    rw [this]
    omega
  · rw [Nat.min_eq_right (by omega)]
    have e : 2 ^ n = 2 ^ 64 * 2 ^ (n - 64) := by rw [← Nat.pow_add]; congr 1; omega
    rw [e, ← Nat.mul_assoc, Nat.mul_comm x.toNat, Nat.mul_assoc, Nat.mul_mod_right]
    omega
theorem shr_clamp (x : B) (n : Nat) : (U x).fdiv (2 ^ (min n 64)) = U (x >>> n) := by
  have hx := x.isLt
  have hp : (0 : Int) ≤ 2 ^ (min n 64) := Int.le_of_lt (Int.pow_pos (by omega))
  rw [Int.fdiv_eq_ediv_of_nonneg _ hp]
  unfold U
  rw [shr_nat]
  by_cases h : n ≤ 64
  · rw [Nat.min_eq_left h]
    push_cast; rfl
  · rw [Nat.min_eq_right (by omega)]
    have e : x.toNat / 2 ^ n = 0 := Nat.div_eq_of_lt (Nat.lt_of_lt_of_le hx (Nat.pow_le_pow_right (by omega) (by omega)))
    rw [e]
    omega
theorem sar_clamp (x : B) (n : Nat) : (S x).fdiv (2 ^ (min n 64)) = S (x.sshiftRight n) := by
  have hb := S_bd x
  have hp : (0 : Int) ≤ 2 ^ (min n 64) := Int.le_of_lt (Int.pow_pos (by omega))
  rw [Int.fdiv_eq_ediv_of_nonneg _ hp]
  unfold S at *
  rw [sar_int]
  by_cases h : n ≤ 64
  · rw [Nat.min_eq_left h]
  · rw [Nat.min_eq_right (by omega)]
    have e : ∀ k : Nat, 64 ≤ k → x.toInt / 2 ^ k = if x.toInt < 0 then -1 else 0 := by
      intro k hk
      have hk2 : (9223372036854775808 : Int) ≤ 2 ^ k := by
        have : (2 : Int) ^ 63 ≤ 2 ^ k := by
          have := Nat.pow_le_pow_right (n := 2) (by omega) (show 63 ≤ k by omega)
          exact_mod_cast this
        exact Int.le_trans (by decide) this
      generalize (2 : Int) ^ k = P at *
      split
      · exact Int.ediv_eq_neg_one_of_neg_of_le (by assumption) (by omega)
      · exact Int.ediv_eq_zero_of_lt (by omega) (by omega)
    rw [e 64 (by omega), e n (by omega)]
theorem sh_shl (x y : B) (k : IntKind) : Op.shift .shl .u64 (U x) k (U y) = pure (.int .u64 (U (x <<< y.toNat))) := by
  have hn := U_nn y
  have e : (U y).toNat = y.toNat := rfl
  unfold Op.shift
  rw [if_neg (by omega), e]
  exact congrArg (fun n => pure (Value.int .u64 n)) (shl_clamp x y.toNat)
theorem sh_shr (x y : B) (k : IntKind) : Op.shift .shr .u64 (U x) k (U y) = pure (.int .u64 (U (x >>> y.toNat))) := by
  have hn := U_nn y
  have e : (U y).toNat = y.toNat := rfl
  unfold Op.shift
  rw [if_neg (by omega), e]
  exact congrArg (fun n => pure (Value.int .u64 n)) (shr_clamp x y.toNat)
theorem sh_sar (x y : B) (k : IntKind) : Op.shift .shr .i64 (S x) k (U y) = pure (.int .i64 (S (x.sshiftRight y.toNat))) := by
  have hn := U_nn y
  have e : (U y).toNat = y.toNat := rfl
  unfold Op.shift
  rw [if_neg (by omega), e]
  exact congrArg (fun n => pure (Value.int .i64 n)) (sar_clamp x y.toNat)
theorem sh_shlN (x : B) (n : Nat) (k : IntKind) : Op.shift .shl .u64 (U x) k (n : Int) = pure (.int .u64 (U (x <<< n))) := by
  unfold Op.shift
  rw [if_neg (by omega), Int.toNat_natCast]
  exact congrArg (fun n => pure (Value.int .u64 n)) (shl_clamp x n)
attribute [local go_sem] sh_shl sh_shr sh_sar sh_shlN

theorem rtshift_any (op : Int) (a : Tn) (n : Int) (h0 : -9223372036854775808 ≤ n) (h1 : n ≤ 9223372036854775807) (w : World) : Calls Try.prog 93 #[.int .i64 op, .agg #[.int .u64 (U a.v), .int .u64 (U a.m)], .int .i64 n] w fun e w' => e = .returned (.agg #[.int .u64 (U (tshift op a n).v), .int .u64 (U (tshift op a n).m)]) ∧ Below w.heap.size w w' := by
  by_cases e1 : op = 96
  · subst e1; exact rtshift_96 a n h0 h1 w
  by_cases e2 : op = 112
  · subst e2; exact rtshift_112 a n h0 h1 w
  by_cases e3 : op = 192
  · subst e3; exact rtshift_192 a n h0 h1 w
  exact rtshift_no e1 e2 e3 a n w
theorem tsigned_any (x k : B) (w : World) : Calls Try.prog 103 #[.int .u64 (U x), .int .u64 (U k)] w fun e w' => e = .returned (.int .u64 (U (x.sshiftRight k.toNat))) ∧ w = w' := by
  go_enter Try.func103, Try.ntmps103
  go_wp2_with fail
  go_ret
  exact ⟨rfl, rfl⟩
theorem shW_lt (n : Int) : (shW n).toNat = shN n := by
  have h := shW_nat n
  have hl := shN_lt n
  unfold shW at *
  rw [BitVec.toNat_ofNat] at *
  omega
theorem tshift_96 (a : Tn) (n : Int) (h0 : -9223372036854775808 ≤ n) (h1 : n ≤ 9223372036854775807) (w : World) : Calls Try.prog 97 #[.int .i64 96, .agg #[.int .u64 (U a.v), .int .u64 (U a.m)], .int .i64 n] w fun e w' => e = .returned (.agg #[.int .u64 (U (tshl a (shN n)).v), .int .u64 (U (tshl a (shN n)).m)]) ∧ Below w.heap.size w w' := by
  have hs := shW_is n h0 h1
  rw [← shW_lt]
  clear h0 h1
  generalize shW n = k at *
  go_enter Try.func97, Try.ntmps97
  go_wp2_with fail
  exact bodyPost_ret (v := .agg #[.int .u64 (U (tshl a k.toNat).v), .int .u64 (U (tshl a k.toNat).m)]) (by simp [results, Try.results97, go_sem, tshl]) rfl ⟨rfl, b2⟩
theorem tshift_112 (a : Tn) (n : Int) (h0 : -9223372036854775808 ≤ n) (h1 : n ≤ 9223372036854775807) (w : World) : Calls Try.prog 97 #[.int .i64 112, .agg #[.int .u64 (U a.v), .int .u64 (U a.m)], .int .i64 n] w fun e w' => e = .returned (.agg #[.int .u64 (U (tshr a (shN n)).v), .int .u64 (U (tshr a (shN n)).m)]) ∧ Below w.heap.size w w' := by
  have hs := shW_is n h0 h1
  rw [← shW_lt]
  clear h0 h1
  generalize shW n = k at *
  go_enter Try.func97, Try.ntmps97
  go_wp2_with fail
  exact bodyPost_ret (v := .agg #[.int .u64 (U (tshr a k.toNat).v), .int .u64 (U (tshr a k.toNat).m)]) (by simp [results, Try.results97, go_sem, tshr]) rfl ⟨rfl, b2⟩
theorem tshift_no {op : Int} (h1 : ¬ op = 96) (h2 : ¬ op = 112) (h3 : ¬ op = 192) (a : Tn) (n : Int) (w : World) : Calls Try.prog 97 #[.int .i64 op, .agg #[.int .u64 (U a.v), .int .u64 (U a.m)], .int .i64 n] w fun e w' => e = .returned (.agg #[.int .u64 (U (tshift op a n).v), .int .u64 (U (tshift op a n).m)]) ∧ Below w.heap.size w w' := by
  have HE : Hid (tshift op a n = a) := Lib.hid (by unfold tshift; rw [if_neg h1, if_neg h2, if_neg h3])
  rw [HE.out]
  have e1 : (op == 96) = false := by simpa using h1
  have e2 : (op == 112) = false := by simpa using h2
  have e3 : (op == 192) = false := by simpa using h3
  clear h1 h2 h3 HE
  go_enter Try.func97, Try.ntmps97
  go_wp2_with fail
  exact bodyPost_ret (v := .agg #[.int .u64 (U a.v), .int .u64 (U a.m)]) (by simp [results, Try.results97, go_sem]) rfl ⟨rfl, b2⟩
end Go.Proofs.Yticjhcbkkkkckaa
