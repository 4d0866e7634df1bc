/- Known bits: what all from one number to another have. -/
import Derived.Test.YtdipmlamjjpcoaaWC
import Derived.Test.YtdipmlamjjpcoaaWS
import Derived.Lib.BitFns
namespace Go.Proofs.Ytdipmlamjjpcoaa
open Go.RowKit
attribute [local go_sem] b_and b_or b_xor b_andNot b_low b_top b_most b_signed b_unsigned b_zero b_eq s_eq b_nzero b_neq s_neq b_max b_min s_max s_min
attribute [local go_sem ↓] Go.wp_at_zero Go.wp_at_succ

theorem lenN_half {n : Nat} (h : n ≠ 0) : lenN n = lenN (n / 2) + 1 := by
  unfold lenN
  rw [if_neg h]
  by_cases h2 : n / 2 = 0
  · rw [if_pos h2]
    have : n = 1 := by omega
    subst this
    decide
  · rw [if_neg h2]
    have : Nat.log2 n = Nat.log2 (n / 2) + 1 := by rw [Nat.log2_def, if_pos (by omega)]
    omega
theorem bitLen_is : ∀ (k n : Nat), n < 2 ^ k → n < 18446744073709551616 → Lib.bitLen n = lenN n := by
  intro k
  induction k with
  | zero => intro n h _; have : n = 0 := by simpa using h
            subst this; decide
  | succ k ih =>
    intro n h h64
    by_cases h0 : n = 0
    · subst h0; decide
    · rw [Lib.bitLen_half n h0 (by simpa using h64), lenN_half h0, ih (n / 2) (by rw [Nat.pow_succ] at h; omega) (by omega)]
      omega
theorem bitLen_U (x : B) : Lib.bitLen (U x).toNat = lenN x.toNat := bitLen_is 64 _ (by have := x.isLt; exact this) (by have := x.isLt; exact this)
theorem pow_wrap {n : Nat} (hn : n ≤ 64) : IntKind.u64.wrap (IntKind.u64.wrap (2 ^ n) - 1) = U (BitVec.ofNat 64 (2 ^ n - 1)) := by
  have : ∀ n : Fin 65, IntKind.u64.wrap (IntKind.u64.wrap (2 ^ n.val) - 1) = U (BitVec.ofNat 64 (2 ^ n.val - 1)) := by decide +kernel
  exact this ⟨n, by omega⟩
/-- the document's own: bit by bit -/
def fillR (n k x : Nat) : Prop := k + lenN x = lenN n
theorem fillR_start (n : Nat) : fillR n 0 n := by unfold fillR; omega
theorem fillR_round {n k x : Nat} (h : fillR n k x) (hx : x ≠ 0) : fillR n (k + 1) (x / 2) := by
  unfold fillR at *
  have := lenN_half hx
  omega
theorem fillR_end {n k : Nat} (h : fillR n k 0) : k = lenN n := by
  unfold fillR at h
  have : lenN 0 = 0 := by decide
  omega
def mskN (k : Nat) : Nat := 2 ^ k - 1
theorem msk_succ (k : Nat) : mskN (k + 1) = mskN k * 2 + 1 := by
  unfold mskN
  have : 0 < 2 ^ k := Nat.two_pow_pos k
  rw [Nat.pow_succ]; omega
theorem msk_lt {k : Nat} (h : k < 64) : mskN k * 2 + 1 < 18446744073709551616 := by
  rw [← msk_succ]
  unfold mskN
  have : 2 ^ (k + 1) ≤ 2 ^ 64 := Nat.pow_le_pow_right (by omega) (by omega)
  have : 0 < 2 ^ (k + 1) := Nat.two_pow_pos _
  omega
theorem msk_le {k : Nat} (h : k ≤ 64) : mskN k < 18446744073709551616 := by
  unfold mskN
  have : 2 ^ k ≤ 2 ^ 64 := Nat.pow_le_pow_right (by omega) h
  have : 0 < 2 ^ k := Nat.two_pow_pos k
  omega
theorem U_ofNat {n : Nat} (h : n < 18446744073709551616) : U (BitVec.ofNat 64 n) = (n : Int) := by
  unfold U; rw [BitVec.toNat_ofNat]; omega
theorem fillR_lt {n k x : Nat} (h : fillR n k x) (hx : x ≠ 0) (hn : n < 18446744073709551616) : k < 64 := by
  unfold fillR at h
  have := lenN_half hx
  have := lenN_le hn
  omega
theorem int_eq {k : IntKind} {a b : Int} (h : a = b) : Value.int k a = Value.int k b := by rw [h]
end Go.Proofs.Ytdipmlamjjpcoaa
