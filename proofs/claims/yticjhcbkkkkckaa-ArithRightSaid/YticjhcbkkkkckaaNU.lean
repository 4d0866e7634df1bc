/- Known bits: package tnum's product. -/
import Derived.Test.YticjhcbkkkkckaaNH
namespace Go.Proofs.Yticjhcbkkkkckaa
open Go.RowKit
attribute [local go_sem] b_and b_or b_xor b_andNot b_low b_top b_most b_signed b_unsigned b_zero b_eq s_eq b_nzero b_neq s_neq b_max b_min s_max s_min
attribute [local go_sem ↓] Go.wp_at_zero Go.wp_at_succ
attribute [local go_sem] b_add b_sub b_mul b_neg b_two sh_shl sh_shr sh_sar sh_shlN

theorem sh_oneN (n : Nat) (k : IntKind) : Op.shift .shl .u64 1 k (n : Int) = pure (.int .u64 (U (1#64 <<< n))) := sh_shlN 1#64 n k
attribute [local go_sem] sh_oneN
theorem b_pow (i : Nat) : IntKind.u64.wrap (2 ^ i) = U (1#64 <<< i) := by
  unfold U
  rw [IntKind.wrap_u64, BitVec.toNat_shiftLeft, Nat.shiftLeft_eq, show (1#64 : B).toNat = 1 from rfl, Nat.one_mul]
  have : ((2 : Int) ^ i) = ((2 ^ i : Nat) : Int) := by simp
  rw [this]
  omega
theorem b_shlN (x : B) (i : Nat) : IntKind.u64.wrap (U x * 2 ^ i) = U (x <<< i) := by
  unfold U
  rw [IntKind.wrap_u64, BitVec.toNat_shiftLeft, Nat.shiftLeft_eq]
  have : ((2 : Int) ^ i) = ((2 ^ i : Nat) : Int) := by simp
  rw [this, ← Int.natCast_mul]
  omega
def bitB (x : B) (i : Nat) : Bool := x.getLsbD i
theorem bit_at (x : B) {i : Nat} (hi : i < 64) : (x &&& 1#64 <<< i == 0#64) = !bitB x i := by
  unfold bitB
  have h : x &&& 1#64 <<< i = if x.getLsbD i = true then 1#64 <<< i else 0#64 := by
    apply BitVec.eq_of_getLsbD_eq
    intro j hj
    rw [BitVec.getLsbD_and, BitVec.getLsbD_shiftLeft]
    by_cases e : j = i
    · subst e; cases x.getLsbD j <;> simp
    · have e2 : (1#64).getLsbD (j - i) = false ∨ j < i := by
        by_cases hlt : j < i
        · exact .inr hlt
        · left; rw [BitVec.getLsbD_one]; simp; omega
      cases hx : x.getLsbD i <;> rcases e2 with e2 | e2 <;> simp [e2, BitVec.getLsbD_shiftLeft]
  have h1 : (1#64 <<< i : B) ≠ 0#64 := by
    intro e
    have := congrArg (fun y : B => y.getLsbD i) e
    simp [hi] at this
  rw [h]
  cases x.getLsbD i
  · simp
  · simp [h1]
/-- after so many bits -/
def at_ (a b q r : Tn) (i : Nat) : Prop := ∃ f, left f ⟨a.v >>> i, a.m >>> i⟩ ⟨b.v <<< i, b.m <<< i⟩ q r
def lenT (a : Tn) : Nat := lenN (a.v ||| a.m).toNat
theorem lenT_le (a : Tn) : lenT a ≤ 64 := lenN_le (a.v ||| a.m).isLt
theorem shr_zero {x : B} {i : Nat} (h : x.toNat < 2 ^ i) : x >>> i = 0#64 := by
  apply BitVec.eq_of_toNat_eq
  rw [shr_nat]
  exact Nat.div_eq_of_lt h
theorem at_start (a b r : Tn) (h : tmulQ 64 a b ⟨0#64, 0#64⟩ = r) : at_ a b ⟨0#64, 0#64⟩ r 0 := by
  refine ⟨64, ?_⟩
  simp only [BitVec.ushiftRight_zero, BitVec.shiftLeft_zero]
  exact ⟨h, a.v.isLt, a.m.isLt⟩
theorem or_le (x y : B) : x.toNat ≤ (x ||| y).toNat ∧ y.toNat ≤ (x ||| y).toNat := by
  rw [BitVec.toNat_or]
  exact ⟨Nat.left_le_or, Nat.right_le_or⟩
theorem at_end {a b q r : Tn} (h : at_ a b q r (lenT a)) : q = r := by
  obtain ⟨f, h⟩ := h
  have hl := lenN_lt (a.v ||| a.m).toNat
  have ho := or_le a.v a.m
  unfold lenT at h
  exact left_end h (shr_zero (by omega)) (shr_zero (by omega))
theorem lenN_pow {n : Nat} (h : n ≠ 0) : 2 ^ lenN n ≤ 2 * n := by
  unfold lenN
  rw [if_neg h, Nat.pow_succ]
  have := Nat.log2_self_le h
  omega
theorem at_next {a b q r : Tn} {i : Nat} (h : at_ a b q r i) (hi : i < lenT a) : at_ a b (if bitB a.v i = true then tadd q ⟨0#64, b.m <<< i⟩ else if bitB a.m i = true then tadd q ⟨0#64, (b.v ||| b.m) <<< i⟩ else q) r (i + 1) := by
  obtain ⟨f, h⟩ := h
  have h0 : ¬ ((⟨a.v >>> i, a.m >>> i⟩ : Tn).v = 0#64 ∧ (⟨a.v >>> i, a.m >>> i⟩ : Tn).m = 0#64) := by
    rintro ⟨e1, e2⟩
    have e : (a.v ||| a.m) >>> i = 0#64 := by
      rw [BitVec.ushiftRight_or_distrib]
      show a.v >>> i ||| a.m >>> i = 0#64
      rw [show a.v >>> i = 0#64 from e1, show a.m >>> i = 0#64 from e2]; rfl
    have e' := congrArg BitVec.toNat e
    rw [shr_nat] at e'
    unfold lenT at hi
    generalize hn : (a.v ||| a.m).toNat = n at *
    have hlt : n < 2 ^ i := by
      have hz : n / 2 ^ i = 0 := e'
      rcases Nat.div_eq_zero_iff.1 hz with h | h
      · have := Nat.two_pow_pos i; omega
      · exact h
    by_cases hn0 : n = 0
    · subst hn0; simp [lenN] at hi
    · have h1 := lenN_pow hn0
      have h2 : 2 ^ (i + 1) ≤ 2 ^ lenN n := Nat.pow_le_pow_right (by omega) hi
      rw [Nat.pow_succ] at h2
      omega
  obtain ⟨f', hs⟩ := left_step h h0
  refine ⟨f', ?_⟩
  unfold halfA dblB stepQ bit0B at hs
  simp only [BitVec.getLsbD_ushiftRight, Nat.add_zero] at hs
  rw [← shl_one, ← shl_one, ← BitVec.shiftLeft_add, ← BitVec.shiftLeft_add, ← BitVec.shiftRight_add, ← BitVec.shiftRight_add, ← BitVec.shiftLeft_or_distrib] at hs
  exact hs
end Go.Proofs.Yticjhcbkkkkckaa
