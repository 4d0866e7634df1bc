/- Bounds: the document's own products. -/
import Derived.Test.YticjhcbkkkkckaaNJ
namespace Go.Proofs.Yticjhcbkkkkckaa
open Go.RowKit
attribute [local go_sem] b_and b_or b_xor b_andNot b_low b_top b_most b_signed b_unsigned b_zero b_eq s_eq b_nzero b_neq s_neq b_max b_min s_max s_min
attribute [local go_sem ↓] Go.wp_at_zero Go.wp_at_succ
attribute [local go_sem] b_add b_sub b_mul b_neg b_two

set_option maxRecDepth 100000 in
set_option maxHeartbeats 1000000 in
theorem rparts_32 (a b : Bd) (w : World) : Calls Try.prog 56 #[.int .i64 32, .agg #[.int .u64 (U a.ul), .int .u64 (U a.uh), .int .i64 (S a.sl), .int .i64 (S a.sh), .int .u64 (U a.t.v), .int .u64 (U a.t.m)], .agg #[.int .u64 (U b.ul), .int .u64 (U b.uh), .int .i64 (S b.sl), .int .i64 (S b.sh), .int .u64 (U b.t.v), .int .u64 (U b.t.m)]] w fun e w' => e = .returned (.agg #[.int .u64 (U (mulB a b).ul), .int .u64 (U (mulB a b).uh), .int .i64 (S (mulB a b).sl), .int .i64 (S (mulB a b).sh), .int .u64 (U (mulB a b).t.v), .int .u64 (U (mulB a b).t.m)]) ∧ Below w.heap.size w w' := by
  have HA := Lib.hid (fun W => rbany_any W)
  have HV := Lib.hid (fun W => rbvalue_any b W)
  have HT := Lib.hid (fun W => rtmul_any a.t b.t W)
  have HE : Hid (mulB a b = ⟨if a.uh.toNat ≤ 4294967295 ∧ b.uh.toNat ≤ 4294967295 then a.ul * b.ul else bany.ul, if a.uh.toNat ≤ 4294967295 ∧ b.uh.toNat ≤ 4294967295 then a.uh * b.uh else bany.uh, bany.sl, bany.sh, tmul a.t b.t⟩) := Lib.hid rfl
  rw [HE.out]
  clear HE
  generalize tmul a.t b.t = t at *
  generalize bany = ca at *
  generalize (bvalue b).1 = k at *
  generalize (bvalue b).2 = o at *
  have hc : (U a.uh ≤ 4294967295 ∧ U b.uh ≤ 4294967295 ∧ a.uh.toNat ≤ 4294967295 ∧ b.uh.toNat ≤ 4294967295) ∨ (U a.uh ≤ 4294967295 ∧ 4294967295 < U b.uh ∧ ¬ (a.uh.toNat ≤ 4294967295 ∧ b.uh.toNat ≤ 4294967295)) ∨ (4294967295 < U a.uh ∧ ¬ (a.uh.toNat ≤ 4294967295 ∧ b.uh.toNat ≤ 4294967295)) := by unfold U; omega
  rcases hc with ⟨d1, d2, c1⟩ | ⟨d1, d2, c1⟩ | ⟨d1, c1⟩
  all_goals
    first
      | rw [if_pos c1, if_pos c1]
      | rw [if_neg c1, if_neg c1]
    clear c1
    go_enter Try.func56, Try.ntmps56
    go_wp2_with (first
      | (go_at_call 89; (with_reducible refine (HT.out _).mono ?_); rintro e w3 ⟨rfl, hb⟩; have B3 := Lib.hid (bnext B2.out hb); have z3 := Y3'.out.lt; have z4 := Y4'.out.lt; have s3 := hb.size; have y1 := (Y1'.out.next hb).six; have y2 := (Y2'.out.next hb).six; have y3 := (Y3'.out.next hb).six0; have y4 := (Y4'.out.next hb).six; clear hb q1 q2 q3 q4)
      | (go_at_call 52; (with_reducible refine (HV.out _).mono ?_); rintro e w2 ⟨rfl, hb⟩; have B2 := Lib.hid (bnext B1.out (bl1 hb).1); have Y1' := Lib.hid (X1.out.next (bl1 hb).1); have Y2' := Lib.hid (X2.out.next (bl1 hb).1); have Y3' := Lib.hid (X3.out.next (bl1 hb).1); have Y4' := Lib.hid ((Box.new w1 (bv ca) 26 rfl).next hb); have z1 := X3.out.lt; clear hb p1 p2 p3; have q1 := Y1'.out.six; have q2 := Y2'.out.six; have q3 := Y3'.out.six0; have q4 := Y4'.out.six)
      | (go_at_call 15; (with_reducible refine (HA.out _).mono ?_); rintro e w1 ⟨rfl, hb⟩; have B1 := Lib.hid (bl3 hb).1; have X1 := Lib.hid ((box_ab w a b _ _ _).1.next hb); have X2 := Lib.hid ((box_ab w a b _ _ _).2.next hb); have X3 := Lib.hid ((box_z w _ _ _).next hb); clear hb; have p1 := X1.out.six; have p2 := X2.out.six; have p3 := X3.out.six0))
    exact bodyPost_ret (by simp [results, Try.results56, go_sem, y3]) rfl ⟨rfl, by repeat (first | with_reducible exact B3.out | with_reducible refine Below.setCell ?_ (by simp; omega) _)⟩
end Go.Proofs.Yticjhcbkkkkckaa
