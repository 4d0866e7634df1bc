/- Bounds: the document's own products, quotients, rests. -/
import Derived.Test.YticjhcbkkkkckaaNJ
namespace Go.Proofs.Yticjhcbkkkkckaa
open Go.RowKit
attribute [local go_sem] b_and b_or b_xor b_andNot b_low b_top b_most b_signed b_unsigned b_zero b_eq s_eq b_nzero b_neq s_neq b_max b_min s_max s_min
attribute [local go_sem ↓] Go.wp_at_zero Go.wp_at_succ
attribute [local go_sem] b_add b_sub b_mul b_neg b_two b_div

attribute [local go_sem] b_quo
theorem val_1 {b : Bd} (h : b.ul = b.uh) : bvalue b = (b.ul, true) := by unfold bvalue; rw [if_pos h]
theorem val_0 {b : Bd} (h : ¬ b.ul = b.uh) : bvalue b = (0#64, false) := by unfold bvalue; rw [if_neg h]
theorem divB_ways (a b : Bd) : (bvalue b = (b.ul, true) ∧ 0 < U b.ul ∧ divB a b = ⟨a.ul / b.ul, a.uh / b.ul, bany.sl, bany.sh, bany.t⟩) ∨ (∃ k, bvalue b = (k, true) ∧ U k ≤ 0 ∧ divB a b = ⟨bany.ul, a.uh, bany.sl, bany.sh, bany.t⟩) ∨ (∃ k, bvalue b = (k, false) ∧ divB a b = ⟨bany.ul, a.uh, bany.sl, bany.sh, bany.t⟩) := by
  by_cases h : b.ul = b.uh
  · by_cases h2 : 0 < b.ul.toNat
    · exact .inl ⟨val_1 h, by unfold U; omega, if_pos ⟨h, h2⟩⟩
    · exact .inr (.inl ⟨_, val_1 h, by unfold U; omega, if_neg (fun e => h2 e.2)⟩)
  · exact .inr (.inr ⟨_, val_0 h, if_neg (fun e => h e.1)⟩)
set_option maxRecDepth 100000 in
set_option maxHeartbeats 1000000 in
theorem rparts_48 (a b : Bd) (w : World) : Calls Try.prog 56 #[.int .i64 48, .agg #[.int .u64 (U a.ul), .int .u64 (U a.uh), .int .i64 (S a.sl), .int .i64 (S a.sh), .int .u64 (U a.t.v), .int .u64 (U a.t.m)], .agg #[.int .u64 (U b.ul), .int .u64 (U b.uh), .int .i64 (S b.sl), .int .i64 (S b.sh), .int .u64 (U b.t.v), .int .u64 (U b.t.m)]] w fun e w' => e = .returned (.agg #[.int .u64 (U (divB a b).ul), .int .u64 (U (divB a b).uh), .int .i64 (S (divB a b).sl), .int .i64 (S (divB a b).sh), .int .u64 (U (divB a b).t.v), .int .u64 (U (divB a b).t.m)]) ∧ Below w.heap.size w w' := by
  have HA := Lib.hid (fun W => rbany_any W)
  have HV := Lib.hid (fun W => rbvalue_any b W)
  rcases divB_ways a b with ⟨h1, h2, h3⟩ | ⟨k, h1, h2, h3⟩ | ⟨k, h1, h3⟩
  · rw [h1] at HV
    rw [h3]
    have hn : ¬ U b.ul = 0 := by omega
    generalize bany = ca at *
    clear h1 h3
    go_enter Try.func56, Try.ntmps56
    go_wp2_with (first
      | (go_at_call 52; (with_reducible refine (HV.out _).mono ?_); rintro e w2 ⟨rfl, hb⟩; have B2 := Lib.hid (bnext B1.out (bl1 hb).1); have z1 := X3.out.lt; have z2 := size_2 hb; have s2 := hb.size; have q1 := (X1.out.next (bl1 hb).1).six; have q2 := (X2.out.next (bl1 hb).1).six; have q3 := (X3.out.next (bl1 hb).1).six0; have q4 := ((Box.new w1 (bv ca) 26 rfl).next hb).six; clear hb p1 p2 p3)
      | (go_at_call 15; (with_reducible refine (HA.out _).mono ?_); rintro e w1 ⟨rfl, hb⟩; have B1 := Lib.hid (bl3 hb).1; have X1 := Lib.hid ((box_ab w a b _ _ _).1.next hb); have X2 := Lib.hid ((box_ab w a b _ _ _).2.next hb); have X3 := Lib.hid ((box_z w _ _ _).next hb); clear hb; have p1 := X1.out.six; have p2 := X2.out.six; have p3 := X3.out.six0))
    exact bodyPost_ret (by simp [results, Try.results56, go_sem, q3]) rfl ⟨rfl, by repeat (first | with_reducible exact B2.out | with_reducible refine Below.setCell ?_ (by simp; omega) _)⟩
  · rw [h1] at HV
    rw [h3]
    generalize bany = ca at *
    clear h1 h3
    go_enter Try.func56, Try.ntmps56
    go_wp2_with (first
      | (go_at_call 52; (with_reducible refine (HV.out _).mono ?_); rintro e w2 ⟨rfl, hb⟩; have B2 := Lib.hid (bnext B1.out (bl1 hb).1); have z1 := X3.out.lt; have z2 := size_2 hb; have s2 := hb.size; have q1 := (X1.out.next (bl1 hb).1).six; have q2 := (X2.out.next (bl1 hb).1).six; have q3 := (X3.out.next (bl1 hb).1).six0; have q4 := ((Box.new w1 (bv ca) 26 rfl).next hb).six; clear hb p1 p2 p3)
      | (go_at_call 15; (with_reducible refine (HA.out _).mono ?_); rintro e w1 ⟨rfl, hb⟩; have B1 := Lib.hid (bl3 hb).1; have X1 := Lib.hid ((box_ab w a b _ _ _).1.next hb); have X2 := Lib.hid ((box_ab w a b _ _ _).2.next hb); have X3 := Lib.hid ((box_z w _ _ _).next hb); clear hb; have p1 := X1.out.six; have p2 := X2.out.six; have p3 := X3.out.six0))
    exact bodyPost_ret (by simp [results, Try.results56, go_sem, q3]) rfl ⟨rfl, by repeat (first | with_reducible exact B2.out | with_reducible refine Below.setCell ?_ (by simp; omega) _)⟩
  · rw [h1] at HV
    rw [h3]
    generalize bany = ca at *
    clear h1 h3
    go_enter Try.func56, Try.ntmps56
    go_wp2_with (first
      | (go_at_call 52; (with_reducible refine (HV.out _).mono ?_); rintro e w2 ⟨rfl, hb⟩; have B2 := Lib.hid (bnext B1.out (bl1 hb).1); have z1 := X3.out.lt; have z2 := size_2 hb; have s2 := hb.size; have q1 := (X1.out.next (bl1 hb).1).six; have q2 := (X2.out.next (bl1 hb).1).six; have q3 := (X3.out.next (bl1 hb).1).six0; have q4 := ((Box.new w1 (bv ca) 26 rfl).next hb).six; clear hb p1 p2 p3)
      | (go_at_call 15; (with_reducible refine (HA.out _).mono ?_); rintro e w1 ⟨rfl, hb⟩; have B1 := Lib.hid (bl3 hb).1; have X1 := Lib.hid ((box_ab w a b _ _ _).1.next hb); have X2 := Lib.hid ((box_ab w a b _ _ _).2.next hb); have X3 := Lib.hid ((box_z w _ _ _).next hb); clear hb; have p1 := X1.out.six; have p2 := X2.out.six; have p3 := X3.out.six0))
    exact bodyPost_ret (by simp [results, Try.results56, go_sem, q3]) rfl ⟨rfl, by repeat (first | with_reducible exact B2.out | with_reducible refine Below.setCell ?_ (by simp; omega) _)⟩
theorem b_dec (x : B) : IntKind.u64.wrap (U x - 1) = U (x - 1#64) := b_sub x 1#64
attribute [local go_sem] b_dec
set_option maxRecDepth 100000 in
set_option maxHeartbeats 1000000 in
theorem rparts_144 (a b : Bd) (w : World) : Calls Try.prog 56 #[.int .i64 144, .agg #[.int .u64 (U a.ul), .int .u64 (U a.uh), .int .i64 (S a.sl), .int .i64 (S a.sh), .int .u64 (U a.t.v), .int .u64 (U a.t.m)], .agg #[.int .u64 (U b.ul), .int .u64 (U b.uh), .int .i64 (S b.sl), .int .i64 (S b.sh), .int .u64 (U b.t.v), .int .u64 (U b.t.m)]] w fun e w' => e = .returned (.agg #[.int .u64 (U (modB a b).ul), .int .u64 (U (modB a b).uh), .int .i64 (S (modB a b).sl), .int .i64 (S (modB a b).sh), .int .u64 (U (modB a b).t.v), .int .u64 (U (modB a b).t.m)]) ∧ Below w.heap.size w w' := by
  have HA := Lib.hid (fun W => rbany_any W)
  have HV := Lib.hid (fun W => rbvalue_any b W)
  have HE : Hid (modB a b = ⟨bany.ul, if 0 < b.ul.toNat then umin a.uh (b.uh - 1#64) else a.uh, bany.sl, bany.sh, bany.t⟩) := Lib.hid rfl
  rw [HE.out]
  clear HE
  generalize bany = ca at *
  generalize (bvalue b).1 = k at *
  generalize (bvalue b).2 = o at *
  by_cases h : 0 < b.ul.toNat
  · rw [if_pos h]
    have h2 : 0 < U b.ul := by unfold U; omega
    clear h
    go_enter Try.func56, Try.ntmps56
    go_wp2_with (first
      | (go_at_call 52; (with_reducible refine (HV.out _).mono ?_); rintro e w2 ⟨rfl, hb⟩; have B2 := Lib.hid (bnext B1.out (bl1 hb).1); have z1 := X3.out.lt; have z2 := size_2 hb; have s2 := hb.size; have q1 := (X1.out.next (bl1 hb).1).six; have q2 := (X2.out.next (bl1 hb).1).six; have q3 := (X3.out.next (bl1 hb).1).six0; have q4 := ((Box.new w1 (bv ca) 26 rfl).next hb).six; clear hb p1 p2 p3)
      | (go_at_call 15; (with_reducible refine (HA.out _).mono ?_); rintro e w1 ⟨rfl, hb⟩; have B1 := Lib.hid (bl3 hb).1; have X1 := Lib.hid ((box_ab w a b _ _ _).1.next hb); have X2 := Lib.hid ((box_ab w a b _ _ _).2.next hb); have X3 := Lib.hid ((box_z w _ _ _).next hb); clear hb; have p1 := X1.out.six; have p2 := X2.out.six; have p3 := X3.out.six0))
    exact bodyPost_ret (by simp [results, Try.results56, go_sem, q3]) rfl ⟨rfl, by repeat (first | with_reducible exact B2.out | with_reducible refine Below.setCell ?_ (by simp; omega) _)⟩
  · rw [if_neg h]
    have h2 : U b.ul ≤ 0 := by unfold U; omega
    clear h
    go_enter Try.func56, Try.ntmps56
    go_wp2_with (first
      | (go_at_call 52; (with_reducible refine (HV.out _).mono ?_); rintro e w2 ⟨rfl, hb⟩; have B2 := Lib.hid (bnext B1.out (bl1 hb).1); have z1 := X3.out.lt; have z2 := size_2 hb; have s2 := hb.size; have q1 := (X1.out.next (bl1 hb).1).six; have q2 := (X2.out.next (bl1 hb).1).six; have q3 := (X3.out.next (bl1 hb).1).six0; have q4 := ((Box.new w1 (bv ca) 26 rfl).next hb).six; clear hb p1 p2 p3)
      | (go_at_call 15; (with_reducible refine (HA.out _).mono ?_); rintro e w1 ⟨rfl, hb⟩; have B1 := Lib.hid (bl3 hb).1; have X1 := Lib.hid ((box_ab w a b _ _ _).1.next hb); have X2 := Lib.hid ((box_ab w a b _ _ _).2.next hb); have X3 := Lib.hid ((box_z w _ _ _).next hb); clear hb; have p1 := X1.out.six; have p2 := X2.out.six; have p3 := X3.out.six0))
    exact bodyPost_ret (by simp [results, Try.results56, go_sem, q3]) rfl ⟨rfl, by repeat (first | with_reducible exact B2.out | with_reducible refine Below.setCell ?_ (by simp; omega) _)⟩
end Go.Proofs.Yticjhcbkkkkckaa
