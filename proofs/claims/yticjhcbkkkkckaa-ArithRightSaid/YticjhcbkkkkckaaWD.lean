/- Known bits: what all from one number to another have. -/
import Derived.Test.YticjhcbkkkkckaaWC
import Derived.Test.YticjhcbkkkkckaaWS
import Derived.Lib.BitFns
namespace Go.Proofs.Yticjhcbkkkkckaa
open Go.RowKit
attribute [local go_sem] b_and b_or b_xor b_andNot b_low b_top b_most b_signed b_unsigned b_zero b_eq s_eq b_nzero b_neq s_neq b_max b_min s_max s_min
attribute [local go_sem ↓] Go.wp_at_zero Go.wp_at_succ

theorem lenN_half {n : Nat} (h : n ≠ 0) : lenN n = lenN (n / 2) + 1 := by
  unfold lenN
  rw [if_neg h]
  by_cases h2 : n / 2 = 0
  · rw [if_pos h2]
    have : n = 1 := by omega
    subst this
    decide
  · rw [if_neg h2]
    have : Nat.log2 n = Nat.log2 (n / 2) + 1 := by rw [Nat.log2_def, if_pos (by omega)]
    omega
theorem bitLen_is : ∀ (k n : Nat), n < 2 ^ k → n < 18446744073709551616 → Lib.bitLen n = lenN n := by
  intro k
  induction k with
  | zero => intro n h _; have : n = 0 := by simpa using h
            subst this; decide
  | succ k ih =>
    intro n h h64
    by_cases h0 : n = 0
    · subst h0; decide
    · rw [Lib.bitLen_half n h0 (by simpa using h64), lenN_half h0, ih (n / 2) (by rw [Nat.pow_succ] at h; omega) (by omega)]
      omega
theorem bitLen_U (x : B) : Lib.bitLen (U x).toNat = lenN x.toNat := bitLen_is 64 _ (by have := x.isLt; exact this) (by have := x.isLt; exact this)
theorem len64_any (x : B) (w : World) : Calls Try.prog 96 #[.int .u64 (U x)] w fun e w' => e = .returned (.int .i64 (lenN x.toNat : Int)) ∧ w = w' := by
  have h := Try.bits_Len64 (U x) w (U_bd x).1 (by have := U_bd x; omega)
  rw [bitLen_U] at h
  exact h.mono fun e w' ⟨h1, h2⟩ => ⟨h1, h2.symm⟩
theorem pow_wrap {n : Nat} (hn : n ≤ 64) : IntKind.u64.wrap (IntKind.u64.wrap (2 ^ n) - 1) = U (BitVec.ofNat 64 (2 ^ n - 1)) := by
  have : ∀ n : Fin 65, IntKind.u64.wrap (IntKind.u64.wrap (2 ^ n.val) - 1) = U (BitVec.ofNat 64 (2 ^ n.val - 1)) := by decide +kernel
  exact this ⟨n, by omega⟩
theorem lowest_any (n : Nat) (hn : n ≤ 64) (w : World) : Calls Try.prog 104 #[.int .i64 (n : Int)] w fun e w' => e = .returned (.int .u64 (U (BitVec.ofNat 64 (2 ^ n - 1)))) ∧ w = w' := by
  have hw := Lib.hid (pow_wrap hn)
  go_enter Try.func104, Try.ntmps104
  go_wp2
  go_ret
  exact ⟨by rw [hw.out]; rfl, rfl⟩
theorem trange_any (x y : B) (w : World) : Calls Try.prog 101 #[.int .u64 (U x), .int .u64 (U y)] w fun e w' => e = .returned (.agg #[.int .u64 (U (rangeT x y).v), .int .u64 (U (rangeT x y).m)]) ∧ Below w.heap.size w w' := by
  have H1 := Lib.hid (fun W => len64_any (x ^^^ y) W)
  have H2 := Lib.hid (fun W => lowest_any _ (lenN_le (x ^^^ y).isLt) W)
  have H3 := Lib.hid (fun W => partly_any x (BitVec.ofNat 64 (2 ^ lenN (x ^^^ y).toNat - 1)) W)
  unfold rangeT fillN
  generalize BitVec.ofNat 64 (2 ^ lenN (x ^^^ y).toNat - 1) = m at *
  generalize lenN (x ^^^ y).toNat = n at *
  generalize tof x m = z at *
  go_enter Try.func101, Try.ntmps101
  go_wp2_with (first
    | (go_at_call 96; refine (H1.out _).mono ?_; rintro e w1 ⟨rfl, rfl⟩)
    | (go_at_call 104; refine (H2.out _).mono ?_; rintro e w1 ⟨rfl, rfl⟩)
    | (go_at_call 77; refine (H3.out _).mono ?_; rintro e w1 ⟨rfl, hb⟩; have B1 := Lib.hid (bl1 hb); have K1 := bcell hb; clear hb))
  have hz := B1.out.2
  exact bodyPost_ret (v := .agg #[.int .u64 (U z.v), .int .u64 (U z.m)]) (by simp [results, Try.results101, go_sem, K1]) rfl ⟨rfl, (B1.out.1.setCell (by simp) _).setCell (by simp) _⟩
/-- the document's own: bit by bit -/
def fillR (n k x : Nat) : Prop := k + lenN x = lenN n
theorem fillR_start (n : Nat) : fillR n 0 n := by unfold fillR; omega
theorem fillR_round {n k x : Nat} (h : fillR n k x) (hx : x ≠ 0) : fillR n (k + 1) (x / 2) := by
  unfold fillR at *
  have := lenN_half hx
  omega
theorem fillR_end {n k : Nat} (h : fillR n k 0) : k = lenN n := by
  unfold fillR at h
  have : lenN 0 = 0 := by decide
  omega
def mskN (k : Nat) : Nat := 2 ^ k - 1
theorem msk_succ (k : Nat) : mskN (k + 1) = mskN k * 2 + 1 := by
  unfold mskN
  have : 0 < 2 ^ k := Nat.two_pow_pos k
  rw [Nat.pow_succ]; omega
theorem msk_lt {k : Nat} (h : k < 64) : mskN k * 2 + 1 < 18446744073709551616 := by
  rw [← msk_succ]
  unfold mskN
  have : 2 ^ (k + 1) ≤ 2 ^ 64 := Nat.pow_le_pow_right (by omega) (by omega)
  have : 0 < 2 ^ (k + 1) := Nat.two_pow_pos _
  omega
theorem msk_le {k : Nat} (h : k ≤ 64) : mskN k < 18446744073709551616 := by
  unfold mskN
  have : 2 ^ k ≤ 2 ^ 64 := Nat.pow_le_pow_right (by omega) h
  have : 0 < 2 ^ k := Nat.two_pow_pos k
  omega
theorem U_ofNat {n : Nat} (h : n < 18446744073709551616) : U (BitVec.ofNat 64 n) = (n : Int) := by
  unfold U; rw [BitVec.toNat_ofNat]; omega
theorem fillR_lt {n k x : Nat} (h : fillR n k x) (hx : x ≠ 0) (hn : n < 18446744073709551616) : k < 64 := by
  unfold fillR at h
  have := lenN_half hx
  have := lenN_le hn
  omega
theorem int_eq {k : IntKind} {a b : Int} (h : a = b) : Value.int k a = Value.int k b := by rw [h]
set_option maxHeartbeats 1000000 in
theorem rtrange_any (x y : B) (w : World) : Calls Try.prog 82 #[.int .u64 (U x), .int .u64 (U y)] w fun e w' => e = .returned (.agg #[.int .u64 (U (rangeT x y).v), .int .u64 (U (rangeT x y).m)]) ∧ Below w.heap.size w w' := by
  have hn := (x ^^^ y).isLt
  have hx : U (x ^^^ y) = ((x ^^^ y).toNat : Int) := rfl
  unfold rangeT fillN
  generalize hN : (x ^^^ y).toNat = n at *
  have HM := Lib.hid (show U (BitVec.ofNat 64 (2 ^ lenN n - 1)) = (mskN (lenN n) : Int) from U_ofNat (n := mskN (lenN n)) (msk_le (lenN_le hn)))
  have HZ : Hid (tof x (BitVec.ofNat 64 (2 ^ lenN n - 1)) = ⟨x &&& ~~~BitVec.ofNat 64 (2 ^ lenN n - 1), BitVec.ofNat 64 (2 ^ lenN n - 1)⟩) := Lib.hid rfl
  generalize BitVec.ofNat 64 (2 ^ lenN n - 1) = m at *
  generalize tof x m = z at *
  have HX := Lib.hid hx
  have HN := Lib.hid (show n < 18446744073709551616 from hn)
  clear hx hN hn
  go_enter Try.func82, Try.ntmps82
  go_wp2
  go_loop [5, 6] (fun p q => ∃ k X : Nat, fillR n k X ∧ p = .int .u64 (X : Int) ∧ X < 18446744073709551616 ∧ q = .int .u64 (mskN k : Int)) (fun p _ => (intOf p).toNat)
  case atStart => exact ⟨0, n, fillR_start n, int_eq HX.out, HN.out, rfl⟩
  case round =>
    obtain ⟨k, X, hf, rfl, hX, rfl⟩ := hrel
    by_cases h0 : X = 0
    · subst h0
      have hk := fillR_end hf
      subst hk
      rw [← HM.out]
      go_wp2
      exact bodyPost_ret (v := .agg #[.int .u64 (U z.v), .int .u64 (U z.m)]) (by rw [HZ.out]; simp [results, Try.results82, go_sem]) rfl ⟨rfl, b1⟩
    · have hlt := msk_lt (fillR_lt hf h0 HN.out)
      have hs := Lib.hid (msk_succ k)
      have hf2 := Lib.hid (fillR_round hf h0)
      clear hf
      generalize mskN k = M at *
      have hp : (0 : Int) < (X : Int) := by omega
      go_wp2
      go_round
      case rel => exact ⟨k + 1, X / 2, hf2.out, int_eq (by omega), by omega, int_eq (by rw [hs.out]; omega)⟩
      case measure => simp [intOf]; omega
end Go.Proofs.Yticjhcbkkkkckaa
