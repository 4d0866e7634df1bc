/- Bounds: the document's own And, Or, Xor. -/
import Derived.Test.YticjhcbkkkkckaaNI
namespace Go.Proofs.Yticjhcbkkkkckaa
open Go.RowKit
attribute [local go_sem] b_and b_or b_xor b_andNot b_low b_top b_most b_signed b_unsigned b_zero b_eq s_eq b_nzero b_neq s_neq b_max b_min s_max s_min
attribute [local go_sem ↓] Go.wp_at_zero Go.wp_at_succ

set_option maxRecDepth 100000 in
set_option maxHeartbeats 1000000 in
theorem rbits_80 (a b : Bd) (w : World) : Calls Try.prog 57 #[.int .i64 80, .agg #[.int .u64 (U a.ul), .int .u64 (U a.uh), .int .i64 (S a.sl), .int .i64 (S a.sh), .int .u64 (U a.t.v), .int .u64 (U a.t.m)], .agg #[.int .u64 (U b.ul), .int .u64 (U b.uh), .int .i64 (S b.sl), .int .i64 (S b.sh), .int .u64 (U b.t.v), .int .u64 (U b.t.m)]] w fun e w' => e = .returned (.agg #[.int .u64 (U (andB a b).ul), .int .u64 (U (andB a b).uh), .int .i64 (S (andB a b).sl), .int .i64 (S (andB a b).sh), .int .u64 (U (andB a b).t.v), .int .u64 (U (andB a b).t.m)]) ∧ Below w.heap.size w w' := by
  have HA := Lib.hid (fun W => rbany_any W)
  have HT := Lib.hid (fun W => rtand_any a.t b.t W)
  have HE : Hid (andB a b = ⟨bany.ul, umin a.uh b.uh, bany.sl, bany.sh, tand a.t b.t⟩) := Lib.hid rfl
  rw [HE.out]
  clear HE
  generalize tand a.t b.t = t at *
  generalize bany = ca at *
  go_enter Try.func57, Try.ntmps57
  go_wp2_with (first
    | (go_at_call 90; (with_reducible refine (HT.out _).mono ?_); rintro e w2 ⟨rfl, hb⟩; have B2 := Lib.hid (bnext B1.out (bl1 hb).1); have z1 := X3.out.lt; have z2 := size_2 hb; have s2 := hb.size; have q1 := (X1.out.next (bl1 hb).1).six; have q2 := (X2.out.next (bl1 hb).1).six; have q3 := (X3.out.next (bl1 hb).1).six0; have q4 := ((Box.new w1 (bv ca) 26 rfl).next hb).six; clear hb p1 p2 p3)
    | (go_at_call 15; (with_reducible refine (HA.out _).mono ?_); rintro e w1 ⟨rfl, hb⟩; have B1 := Lib.hid (bl3 hb).1; have X1 := Lib.hid ((box_ab w a b _ _ _).1.next hb); have X2 := Lib.hid ((box_ab w a b _ _ _).2.next hb); have X3 := Lib.hid ((box_z w _ _ _).next hb); clear hb; have p1 := X1.out.six; have p2 := X2.out.six; have p3 := X3.out.six0))
  exact bodyPost_ret (by simp [results, Try.results57, go_sem, q3]) rfl ⟨rfl, by repeat (first | with_reducible exact B2.out | with_reducible refine Below.setCell ?_ (by simp; omega) _)⟩
set_option maxRecDepth 100000 in
set_option maxHeartbeats 1000000 in
theorem rbits_64 (a b : Bd) (w : World) : Calls Try.prog 57 #[.int .i64 64, .agg #[.int .u64 (U a.ul), .int .u64 (U a.uh), .int .i64 (S a.sl), .int .i64 (S a.sh), .int .u64 (U a.t.v), .int .u64 (U a.t.m)], .agg #[.int .u64 (U b.ul), .int .u64 (U b.uh), .int .i64 (S b.sl), .int .i64 (S b.sh), .int .u64 (U b.t.v), .int .u64 (U b.t.m)]] w fun e w' => e = .returned (.agg #[.int .u64 (U (orB a b).ul), .int .u64 (U (orB a b).uh), .int .i64 (S (orB a b).sl), .int .i64 (S (orB a b).sh), .int .u64 (U (orB a b).t.v), .int .u64 (U (orB a b).t.m)]) ∧ Below w.heap.size w w' := by
  have HA := Lib.hid (fun W => rbany_any W)
  have HT := Lib.hid (fun W => rtor_any a.t b.t W)
  have HE : Hid (orB a b = ⟨umax a.ul b.ul, bany.uh, bany.sl, bany.sh, tor a.t b.t⟩) := Lib.hid rfl
  rw [HE.out]
  clear HE
  generalize tor a.t b.t = t at *
  generalize bany = ca at *
  go_enter Try.func57, Try.ntmps57
  go_wp2_with (first
    | (go_at_call 91; (with_reducible refine (HT.out _).mono ?_); rintro e w2 ⟨rfl, hb⟩; have B2 := Lib.hid (bnext B1.out (bl1 hb).1); have z1 := X3.out.lt; have z2 := size_2 hb; have s2 := hb.size; have q1 := (X1.out.next (bl1 hb).1).six; have q2 := (X2.out.next (bl1 hb).1).six; have q3 := (X3.out.next (bl1 hb).1).six0; have q4 := ((Box.new w1 (bv ca) 26 rfl).next hb).six; clear hb p1 p2 p3)
    | (go_at_call 15; (with_reducible refine (HA.out _).mono ?_); rintro e w1 ⟨rfl, hb⟩; have B1 := Lib.hid (bl3 hb).1; have X1 := Lib.hid ((box_ab w a b _ _ _).1.next hb); have X2 := Lib.hid ((box_ab w a b _ _ _).2.next hb); have X3 := Lib.hid ((box_z w _ _ _).next hb); clear hb; have p1 := X1.out.six; have p2 := X2.out.six; have p3 := X3.out.six0))
  exact bodyPost_ret (by simp [results, Try.results57, go_sem, q3]) rfl ⟨rfl, by repeat (first | with_reducible exact B2.out | with_reducible refine Below.setCell ?_ (by simp; omega) _)⟩
set_option maxRecDepth 100000 in
set_option maxHeartbeats 1000000 in
theorem rbits_160 (a b : Bd) (w : World) : Calls Try.prog 57 #[.int .i64 160, .agg #[.int .u64 (U a.ul), .int .u64 (U a.uh), .int .i64 (S a.sl), .int .i64 (S a.sh), .int .u64 (U a.t.v), .int .u64 (U a.t.m)], .agg #[.int .u64 (U b.ul), .int .u64 (U b.uh), .int .i64 (S b.sl), .int .i64 (S b.sh), .int .u64 (U b.t.v), .int .u64 (U b.t.m)]] w fun e w' => e = .returned (.agg #[.int .u64 (U (xorB a b).ul), .int .u64 (U (xorB a b).uh), .int .i64 (S (xorB a b).sl), .int .i64 (S (xorB a b).sh), .int .u64 (U (xorB a b).t.v), .int .u64 (U (xorB a b).t.m)]) ∧ Below w.heap.size w w' := by
  have HA := Lib.hid (fun W => rbany_any W)
  have HT := Lib.hid (fun W => rtxor_any a.t b.t W)
  have HE : Hid (xorB a b = ⟨bany.ul, bany.uh, bany.sl, bany.sh, txor a.t b.t⟩) := Lib.hid rfl
  rw [HE.out]
  clear HE
  generalize txor a.t b.t = t at *
  generalize bany = ca at *
  go_enter Try.func57, Try.ntmps57
  go_wp2_with (first
    | (go_at_call 92; (with_reducible refine (HT.out _).mono ?_); rintro e w2 ⟨rfl, hb⟩; have B2 := Lib.hid (bnext B1.out (bl1 hb).1); have z1 := X3.out.lt; have z2 := size_2 hb; have s2 := hb.size; have q1 := (X1.out.next (bl1 hb).1).six; have q2 := (X2.out.next (bl1 hb).1).six; have q3 := (X3.out.next (bl1 hb).1).six0; have q4 := ((Box.new w1 (bv ca) 26 rfl).next hb).six; clear hb p1 p2 p3)
    | (go_at_call 15; (with_reducible refine (HA.out _).mono ?_); rintro e w1 ⟨rfl, hb⟩; have B1 := Lib.hid (bl3 hb).1; have X1 := Lib.hid ((box_ab w a b _ _ _).1.next hb); have X2 := Lib.hid ((box_ab w a b _ _ _).2.next hb); have X3 := Lib.hid ((box_z w _ _ _).next hb); clear hb; have p1 := X1.out.six; have p2 := X2.out.six; have p3 := X3.out.six0))
  exact bodyPost_ret (by simp [results, Try.results57, go_sem, q3]) rfl ⟨rfl, by repeat (first | with_reducible exact B2.out | with_reducible refine Below.setCell ?_ (by simp; omega) _)⟩
end Go.Proofs.Yticjhcbkkkkckaa
