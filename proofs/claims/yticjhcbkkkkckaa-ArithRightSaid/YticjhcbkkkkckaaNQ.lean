/- Bounds: the document's own answers for words of 64 bits, whole. -/
import Derived.Test.YticjhcbkkkkckaaNP
namespace Go.Proofs.Yticjhcbkkkkckaa
open Go.RowKit
attribute [local go_sem] b_and b_or b_xor b_andNot b_low b_top b_most b_signed b_unsigned b_zero b_eq s_eq b_nzero b_neq s_neq b_max b_min s_max s_min
attribute [local go_sem ↓] Go.wp_at_zero Go.wp_at_succ

def m64 (x : B) : B := BitVec.ofNat 64 (x.toNat % 64)
theorem m64_nat (x : B) : (m64 x).toNat = x.toNat % 64 := by unfold m64; rw [BitVec.toNat_ofNat]; omega
theorem m64_lt (x : B) : (m64 x).toNat < 64 := by rw [m64_nat]; omega
theorem b_m64 (x : B) : IntKind.u64.wrap ((U x).tmod 64) = U (m64 x) := by
  have h := m64_nat x
  rw [Int.tmod_eq_emod_of_nonneg (U_nn x), IntKind.wrap_u64]
  unfold U; omega
theorem b_m64' (x : B) : (U x).tmod 64 = U (m64 x) := by
  have h := m64_nat x
  rw [Int.tmod_eq_emod_of_nonneg (U_nn x)]
  unfold U; omega
attribute [local go_sem] b_m64 b_m64'
set_option maxRecDepth 100000 in
set_option maxHeartbeats 1000000 in
theorem rwide_176 (a b : Bd) (w : World) : Calls Try.prog 23 #[.int .i64 176, .agg #[.int .u64 (U a.ul), .int .u64 (U a.uh), .int .i64 (S a.sl), .int .i64 (S a.sh), .int .u64 (U a.t.v), .int .u64 (U a.t.m)], .agg #[.int .u64 (U b.ul), .int .u64 (U b.uh), .int .i64 (S b.sl), .int .i64 (S b.sh), .int .u64 (U b.t.v), .int .u64 (U b.t.m)]] w fun e w' => e = .returned (.agg #[.int .u64 (U (wideB 176 a b).ul), .int .u64 (U (wideB 176 a b).uh), .int .i64 (S (wideB 176 a b).sl), .int .i64 (S (wideB 176 a b).sh), .int .u64 (U (wideB 176 a b).t.v), .int .u64 (U (wideB 176 a b).t.m)]) ∧ Below w.heap.size w w' := by
  rw [show wideB 176 a b = b by unfold wideB; simp only [Int.reduceEq, if_true, if_false]]
  have HV := Lib.hid (fun W => rbvalue_any b W)
  generalize (bvalue b).1 = k at *
  generalize (bvalue b).2 = o at *
  go_enter Try.func23, Try.ntmps23
  go_wp2_with (go_at_call 52; (with_reducible refine (HV.out _).mono ?_); rintro e w1 ⟨rfl, hb⟩; have B1 := Lib.hid (bl3 hb).1; have X1 := Lib.hid ((box_ab w a b _ _ _).1.next hb); have X2 := Lib.hid ((box_ab w a b _ _ _).2.next hb); have X3 := Lib.hid ((box_z w _ _ _).next hb); clear hb; have z1 := X3.out.lt; have p1 := X1.out.six; have p2 := X2.out.six; have p3 := X3.out.six0)
  exact bodyPost_ret (v := .agg #[.int .u64 (U b.ul), .int .u64 (U b.uh), .int .i64 (S b.sl), .int .i64 (S b.sh), .int .u64 (U b.t.v), .int .u64 (U b.t.m)]) (by simp [results, Try.results23, go_sem, p3]) rfl ⟨rfl, by repeat (first | with_reducible exact B1.out | with_reducible refine Below.setCell ?_ (by simp; omega) _)⟩
theorem shiftB_m (op : Int) (a : Bd) (x : B) : shiftB op a (x.toNat % 64) = shiftB op a (m64 x).toNat := by rw [m64_nat]
theorem rwide_shift (op : Int) (hop : op = 96 ∨ op = 112 ∨ op = 192) (a b : Bd) (h : b.ul = b.uh) (w : World) : Calls Try.prog 23 #[.int .i64 op, .agg #[.int .u64 (U a.ul), .int .u64 (U a.uh), .int .i64 (S a.sl), .int .i64 (S a.sh), .int .u64 (U a.t.v), .int .u64 (U a.t.m)], .agg #[.int .u64 (U b.ul), .int .u64 (U b.uh), .int .i64 (S b.sl), .int .i64 (S b.sh), .int .u64 (U b.t.v), .int .u64 (U b.t.m)]] w fun e w' => e = .returned (.agg #[.int .u64 (U (shiftB op a (b.ul.toNat % 64)).ul), .int .u64 (U (shiftB op a (b.ul.toNat % 64)).uh), .int .i64 (S (shiftB op a (b.ul.toNat % 64)).sl), .int .i64 (S (shiftB op a (b.ul.toNat % 64)).sh), .int .u64 (U (shiftB op a (b.ul.toNat % 64)).t.v), .int .u64 (U (shiftB op a (b.ul.toNat % 64)).t.m)]) ∧ Below w.heap.size w w' := by
  have HV := Lib.hid (fun W => rbvalue_any b W)
  rw [val_1 h] at HV
  rw [shiftB_m]
  have HC := Lib.hid (fun W => rshift_any op (by rcases hop with rfl | rfl | rfl <;> rfl) a (m64 b.ul) (m64_lt _) W)
  generalize shiftB op a (m64 b.ul).toNat = c at *
  clear h
  rcases hop with rfl | rfl | rfl
  all_goals
    go_enter Try.func23, Try.ntmps23
    go_wp2_with (first
      | (go_at_call 58; (with_reducible refine (HC.out _).mono ?_); rintro e w2 ⟨rfl, hb⟩; have B2 := Lib.hid (bnext B1.out hb); have s2 := hb.size; have q3 := (X3.out.next hb).six0; clear hb p1 p2 p3)
      | (go_at_call 52; (with_reducible refine (HV.out _).mono ?_); rintro e w1 ⟨rfl, hb⟩; have B1 := Lib.hid (bl3 hb).1; have X1 := Lib.hid ((box_ab w a b _ _ _).1.next hb); have X2 := Lib.hid ((box_ab w a b _ _ _).2.next hb); have X3 := Lib.hid ((box_z w _ _ _).next hb); clear hb; have z1 := X3.out.lt; have p1 := X1.out.six; have p2 := X2.out.six; have p3 := X3.out.six0))
    exact bodyPost_ret (by simp [results, Try.results23, go_sem, q3]) rfl ⟨rfl, by repeat (first | with_reducible exact B2.out | with_reducible refine Below.setCell ?_ (by simp; omega) _ | with_reducible refine Below.alloc ?_ (by have := B2.out.size; simp; omega) _)⟩
theorem rwide_112n (a b : Bd) (h : ¬ b.ul = b.uh) (w : World) : Calls Try.prog 23 #[.int .i64 112, .agg #[.int .u64 (U a.ul), .int .u64 (U a.uh), .int .i64 (S a.sl), .int .i64 (S a.sh), .int .u64 (U a.t.v), .int .u64 (U a.t.m)], .agg #[.int .u64 (U b.ul), .int .u64 (U b.uh), .int .i64 (S b.sl), .int .i64 (S b.sh), .int .u64 (U b.t.v), .int .u64 (U b.t.m)]] w fun e w' => e = .returned (.agg #[.int .u64 (U (uptoU a.uh).ul), .int .u64 (U (uptoU a.uh).uh), .int .i64 (S (uptoU a.uh).sl), .int .i64 (S (uptoU a.uh).sh), .int .u64 (U (uptoU a.uh).t.v), .int .u64 (U (uptoU a.uh).t.m)]) ∧ Below w.heap.size w w' := by
  have HV := Lib.hid (fun W => rbvalue_any b W)
  rw [val_0 h] at HV
  have HC := Lib.hid (fun W => rbany_any W)
  have HE : Hid (uptoU a.uh = { bany with uh := a.uh }) := Lib.hid rfl
  rw [HE.out]
  clear HE
  generalize bany = c at *
  clear h
  go_enter Try.func23, Try.ntmps23
  go_wp2_with (first
    | (go_at_call 15; (with_reducible refine (HC.out _).mono ?_); rintro e w2 ⟨rfl, hb⟩; have B2 := Lib.hid (bnext B1.out hb); have z2 := X1.out.lt; have s2 := hb.size; have q1 := (X1.out.next hb).six; have q3 := (X3.out.next hb).six0; clear hb p1 p2 p3)
    | (go_at_call 52; (with_reducible refine (HV.out _).mono ?_); rintro e w1 ⟨rfl, hb⟩; have B1 := Lib.hid (bl3 hb).1; have X1 := Lib.hid ((box_ab w a b _ _ _).1.next hb); have X2 := Lib.hid ((box_ab w a b _ _ _).2.next hb); have X3 := Lib.hid ((box_z w _ _ _).next hb); clear hb; have z1 := X3.out.lt; have p1 := X1.out.six; have p2 := X2.out.six; have p3 := X3.out.six0))
  exact bodyPost_ret (by simp [results, Try.results23, go_sem, q3]) rfl ⟨rfl, by repeat (first | with_reducible exact B2.out | with_reducible refine Below.setCell ?_ (by simp; omega) _ | with_reducible refine Below.alloc ?_ (by have := B2.out.size; simp; omega) _)⟩
theorem rwide_none (op : Int) (hop : op = 96 ∨ op = 192) (a b : Bd) (h : ¬ b.ul = b.uh) (w : World) : Calls Try.prog 23 #[.int .i64 op, .agg #[.int .u64 (U a.ul), .int .u64 (U a.uh), .int .i64 (S a.sl), .int .i64 (S a.sh), .int .u64 (U a.t.v), .int .u64 (U a.t.m)], .agg #[.int .u64 (U b.ul), .int .u64 (U b.uh), .int .i64 (S b.sl), .int .i64 (S b.sh), .int .u64 (U b.t.v), .int .u64 (U b.t.m)]] w fun e w' => e = .returned (.agg #[.int .u64 (U bany.ul), .int .u64 (U bany.uh), .int .i64 (S bany.sl), .int .i64 (S bany.sh), .int .u64 (U bany.t.v), .int .u64 (U bany.t.m)]) ∧ Below w.heap.size w w' := by
  have HV := Lib.hid (fun W => rbvalue_any b W)
  rw [val_0 h] at HV
  have HC := Lib.hid (fun W => rbany_any W)
  generalize bany = c at *
  clear h
  rcases hop with rfl | rfl
  all_goals
    go_enter Try.func23, Try.ntmps23
    go_wp2_with (first
      | (go_at_call 15; (with_reducible refine (HC.out _).mono ?_); rintro e w2 ⟨rfl, hb⟩; have B2 := Lib.hid (bnext B1.out hb); have s2 := hb.size; have q3 := (X3.out.next hb).six0; clear hb p1 p2 p3)
      | (go_at_call 52; (with_reducible refine (HV.out _).mono ?_); rintro e w1 ⟨rfl, hb⟩; have B1 := Lib.hid (bl3 hb).1; have X1 := Lib.hid ((box_ab w a b _ _ _).1.next hb); have X2 := Lib.hid ((box_ab w a b _ _ _).2.next hb); have X3 := Lib.hid ((box_z w _ _ _).next hb); clear hb; have z1 := X3.out.lt; have p1 := X1.out.six; have p2 := X2.out.six; have p3 := X3.out.six0))
    exact bodyPost_ret (by simp [results, Try.results23, go_sem, q3]) rfl ⟨rfl, by repeat (first | with_reducible exact B2.out | with_reducible refine Below.setCell ?_ (by simp; omega) _ | with_reducible refine Below.alloc ?_ (by have := B2.out.size; simp; omega) _)⟩
end Go.Proofs.Yticjhcbkkkkckaa
