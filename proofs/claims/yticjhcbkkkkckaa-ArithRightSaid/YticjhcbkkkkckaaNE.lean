/- Words: the document's own Alu, whole; known bits shifted. -/
import Derived.Test.YticjhcbkkkkckaaND
import Derived.Test.YticjhcbkkkkckaaNB
namespace Go.Proofs.Yticjhcbkkkkckaa
open Go.RowKit
attribute [local go_sem] b_and b_or b_xor b_andNot b_low b_top b_most b_signed b_unsigned b_zero b_eq s_eq b_nzero b_neq s_neq b_max b_min s_max s_min
attribute [local go_sem ↓] Go.wp_at_zero Go.wp_at_succ
attribute [local go_sem] b_add b_sub b_mul b_neg b_two b_sh64 b_sh32 b_quo b_rem b_rem2

theorem ralu_yes {op : Int} (h : isOp op = true) (x y : B) (wide : Bool) (w : World) : Calls Try.prog 11 #[.int .i64 op, .int .u64 (U x), .int .u64 (U y), .bool wide] w fun e w' => e = .returned (.tuple #[.int .u64 (U (aluW op x y wide)), .bool true]) ∧ w = w' := by
  rcases isOp_cases h with rfl | rfl | rfl | rfl | rfl | rfl | rfl | rfl | rfl | rfl | rfl | rfl | rfl
  all_goals cases wide
  · exact ralu_0_n x y w
  · exact ralu_0_w x y w
  · exact ralu_16_n x y w
  · exact ralu_16_w x y w
  · exact ralu_32_n x y w
  · exact ralu_32_w x y w
  · exact ralu_48_n x y w
  · exact ralu_48_w x y w
  · exact ralu_64_n x y w
  · exact ralu_64_w x y w
  · exact ralu_80_n x y w
  · exact ralu_80_w x y w
  · exact ralu_96_n x y w
  · exact ralu_96_w x y w
  · exact ralu_112_n x y w
  · exact ralu_112_w x y w
  · exact ralu_128_n x y w
  · exact ralu_128_w x y w
  · exact ralu_144_n x y w
  · exact ralu_144_w x y w
  · exact ralu_160_n x y w
  · exact ralu_160_w x y w
  · exact ralu_176_n x y w
  · exact ralu_176_w x y w
  · exact ralu_192_n x y w
  · exact ralu_192_w x y w
theorem isOp_no {op : Int} (h : isOp op = false) : (op == 0) = false ∧ (op == 16) = false ∧ (op == 32) = false ∧ (op == 48) = false ∧ (op == 64) = false ∧ (op == 80) = false ∧ (op == 96) = false ∧ (op == 112) = false ∧ (op == 128) = false ∧ (op == 144) = false ∧ (op == 160) = false ∧ (op == 176) = false ∧ (op == 192) = false := by
  simp [isOp] at h
  simp [h]
theorem ralu_no {op : Int} (h : isOp op = false) (x y : B) (wide : Bool) (w : World) : Calls Try.prog 11 #[.int .i64 op, .int .u64 (U x), .int .u64 (U y), .bool wide] w fun e w' => e = .returned (.tuple #[.int .u64 0, .bool false]) ∧ w = w' := by
  obtain ⟨h0, h16, h32, h48, h64, h80, h96, h112, h128, h144, h160, h176, h192⟩ := isOp_no h
  clear h
  cases wide
  all_goals
    go_enter Try.func11, Try.ntmps11
    go_wp2_with fail
    go_ret2
    exact ⟨rfl, rfl⟩
/-- what the document's Alu answers -/
def aluU (op : Int) (x y : B) (wide : Bool) : B := if isOp op = true then aluW op x y wide else 0#64
theorem ralu_any (op : Int) (x y : B) (wide : Bool) (w : World) : Calls Try.prog 11 #[.int .i64 op, .int .u64 (U x), .int .u64 (U y), .bool wide] w fun e w' => e = .returned (.tuple #[.int .u64 (U (aluU op x y wide)), .bool (isOp op)]) ∧ w = w' := by
  unfold aluU
  cases h : isOp op with
  | true => exact ralu_yes h x y wide w
  | false => exact ralu_no h x y wide w
/-- known bits shifted by n places, n a number with a sign -/
def shN (n : Int) : Nat := (n % 64).toNat
def tshift (op : Int) (a : Tn) (n : Int) : Tn := if op = 96 then tshl a (shN n) else if op = 112 then tshr a (shN n) else if op = 192 then tsar a (shN n) else a
theorem shN_lt (n : Int) : shN n < 64 := by unfold shN; omega
/-- n modulo 64, as a word -/
def shW (n : Int) : B := BitVec.ofNat 64 (shN n)
theorem shW_is (n : Int) (_h0 : -9223372036854775808 ≤ n) (_h1 : n ≤ 9223372036854775807) : (IntKind.u64.wrap n).tmod 64 = U (shW n) := by
  have hl := shN_lt n
  have e : U (shW n) = (shN n : Int) := U_ofNat (by omega)
  rw [e, IntKind.wrap_u64, Int.tmod_eq_emod_of_nonneg (by omega)]
  unfold shN
  omega
theorem shW_nat (n : Int) : (shW n).toNat % 64 = shN n := by
  have hl := shN_lt n
  unfold shW
  rw [BitVec.toNat_ofNat]
  omega
theorem rtshift_no {op : Int} (h1 : ¬ op = 96) (h2 : ¬ op = 112) (h3 : ¬ op = 192) (a : Tn) (n : Int) (w : World) : Calls Try.prog 93 #[.int .i64 op, .agg #[.int .u64 (U a.v), .int .u64 (U a.m)], .int .i64 n] w fun e w' => e = .returned (.agg #[.int .u64 (U (tshift op a n).v), .int .u64 (U (tshift op a n).m)]) ∧ Below w.heap.size w w' := by
  have HE : Hid (tshift op a n = a) := Lib.hid (by unfold tshift; rw [if_neg h1, if_neg h2, if_neg h3])
  rw [HE.out]
  have e1 : (op == 96) = false := by simpa using h1
  have e2 : (op == 112) = false := by simpa using h2
  have e3 : (op == 192) = false := by simpa using h3
  have g1 : (op != 96) = true := by simpa using h1
  have g2 : (op != 112) = true := by simpa using h2
  have g3 : (op != 192) = true := by simpa using h3
  clear h1 h2 h3 HE
  go_enter Try.func93, Try.ntmps93
  go_wp2_with fail
  exact bodyPost_ret (v := .agg #[.int .u64 (U a.v), .int .u64 (U a.m)]) (by simp [results, Try.results93, go_sem]) rfl ⟨rfl, b2⟩
theorem sh_alu (op : Int) (x : B) (n : Int) {r : B} (h : aluW op x (shW n) true = r) (ho : isOp op = true) (W : World) : Calls Try.prog 11 #[.int .i64 op, .int .u64 (U x), .int .u64 (U (shW n)), .bool true] W fun e w' => e = .returned (.tuple #[.int .u64 (U r), .bool true]) ∧ W = w' := by
  have := ralu_yes ho x (shW n) true W
  rwa [h] at this
theorem rtshift_96 (a : Tn) (n : Int) (h0 : -9223372036854775808 ≤ n) (h1 : n ≤ 9223372036854775807) (w : World) : Calls Try.prog 93 #[.int .i64 96, .agg #[.int .u64 (U a.v), .int .u64 (U a.m)], .int .i64 n] w fun e w' => e = .returned (.agg #[.int .u64 (U (tshl a (shN n)).v), .int .u64 (U (tshl a (shN n)).m)]) ∧ Below w.heap.size w w' := by
  have hs := shW_is n h0 h1
  have HV := Lib.hid (fun W => sh_alu 96 a.v n (show aluW 96 a.v (shW n) true = a.v <<< shN n from by show a.v <<< ((shW n).toNat % 64) = _; rw [shW_nat]) rfl W)
  have HM := Lib.hid (fun W => sh_alu 96 a.m n (show aluW 96 a.m (shW n) true = a.m <<< shN n from by show a.m <<< ((shW n).toNat % 64) = _; rw [shW_nat]) rfl W)
  have HE : Hid (tshl a (shN n) = ⟨a.v <<< shN n, a.m <<< shN n⟩) := Lib.hid rfl
  rw [HE.out]
  generalize a.v <<< shN n = r at *
  generalize a.m <<< shN n = q at *
  clear HE h0 h1
  go_enter Try.func93, Try.ntmps93
  go_wp2_with (first
    | (go_at_call 11; (with_reducible refine (HV.out _).mono ?_); rintro e w1 ⟨rfl, rfl⟩)
    | (go_at_call 11; (with_reducible refine (HM.out _).mono ?_); rintro e w1 ⟨rfl, rfl⟩))
  exact bodyPost_ret (v := .agg #[.int .u64 (U ((⟨r, q⟩ : Tn)).v), .int .u64 (U ((⟨r, q⟩ : Tn)).m)]) (by simp [results, Try.results93, go_sem]) rfl ⟨rfl, b2⟩
theorem rtshift_112 (a : Tn) (n : Int) (h0 : -9223372036854775808 ≤ n) (h1 : n ≤ 9223372036854775807) (w : World) : Calls Try.prog 93 #[.int .i64 112, .agg #[.int .u64 (U a.v), .int .u64 (U a.m)], .int .i64 n] w fun e w' => e = .returned (.agg #[.int .u64 (U (tshr a (shN n)).v), .int .u64 (U (tshr a (shN n)).m)]) ∧ Below w.heap.size w w' := by
  have hs := shW_is n h0 h1
  have HV := Lib.hid (fun W => sh_alu 112 a.v n (show aluW 112 a.v (shW n) true = a.v >>> shN n from by show a.v >>> ((shW n).toNat % 64) = _; rw [shW_nat]) rfl W)
  have HM := Lib.hid (fun W => sh_alu 112 a.m n (show aluW 112 a.m (shW n) true = a.m >>> shN n from by show a.m >>> ((shW n).toNat % 64) = _; rw [shW_nat]) rfl W)
  have HE : Hid (tshr a (shN n) = ⟨a.v >>> shN n, a.m >>> shN n⟩) := Lib.hid rfl
  rw [HE.out]
  generalize a.v >>> shN n = r at *
  generalize a.m >>> shN n = q at *
  clear HE h0 h1
  go_enter Try.func93, Try.ntmps93
  go_wp2_with (first
    | (go_at_call 11; (with_reducible refine (HV.out _).mono ?_); rintro e w1 ⟨rfl, rfl⟩)
    | (go_at_call 11; (with_reducible refine (HM.out _).mono ?_); rintro e w1 ⟨rfl, rfl⟩))
  exact bodyPost_ret (v := .agg #[.int .u64 (U ((⟨r, q⟩ : Tn)).v), .int .u64 (U ((⟨r, q⟩ : Tn)).m)]) (by simp [results, Try.results93, go_sem]) rfl ⟨rfl, b2⟩
theorem rtshift_192 (a : Tn) (n : Int) (h0 : -9223372036854775808 ≤ n) (h1 : n ≤ 9223372036854775807) (w : World) : Calls Try.prog 93 #[.int .i64 192, .agg #[.int .u64 (U a.v), .int .u64 (U a.m)], .int .i64 n] w fun e w' => e = .returned (.agg #[.int .u64 (U (tsar a (shN n)).v), .int .u64 (U (tsar a (shN n)).m)]) ∧ Below w.heap.size w w' := by
  have hs := shW_is n h0 h1
  have HV := Lib.hid (fun W => sh_alu 192 a.v n (show aluW 192 a.v (shW n) true = a.v.sshiftRight (shN n) from by show a.v.sshiftRight ((shW n).toNat % 64) = _; rw [shW_nat]) rfl W)
  have HM := Lib.hid (fun W => sh_alu 192 a.m n (show aluW 192 a.m (shW n) true = a.m.sshiftRight (shN n) from by show a.m.sshiftRight ((shW n).toNat % 64) = _; rw [shW_nat]) rfl W)
  have HE : Hid (tsar a (shN n) = ⟨a.v.sshiftRight (shN n), a.m.sshiftRight (shN n)⟩) := Lib.hid rfl
  rw [HE.out]
  generalize a.v.sshiftRight (shN n) = r at *
  generalize a.m.sshiftRight (shN n) = q at *
  clear HE h0 h1
  go_enter Try.func93, Try.ntmps93
  go_wp2_with (first
    | (go_at_call 11; (with_reducible refine (HV.out _).mono ?_); rintro e w1 ⟨rfl, rfl⟩)
    | (go_at_call 11; (with_reducible refine (HM.out _).mono ?_); rintro e w1 ⟨rfl, rfl⟩))
  exact bodyPost_ret (v := .agg #[.int .u64 (U ((⟨r, q⟩ : Tn)).v), .int .u64 (U ((⟨r, q⟩ : Tn)).m)]) (by simp [results, Try.results93, go_sem]) rfl ⟨rfl, b2⟩
end Go.Proofs.Yticjhcbkkkkckaa
