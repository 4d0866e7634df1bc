/- Bounds: the document's own Low. -/
import Derived.Test.YticjhcbkkkkckaaWJ
namespace Go.Proofs.Yticjhcbkkkkckaa
open Go.RowKit
attribute [local go_sem] b_and b_or b_xor b_andNot b_low b_top b_most b_signed b_unsigned b_zero b_eq s_eq b_nzero b_neq s_neq b_max b_min s_max s_min
attribute [local go_sem ↓] Go.wp_at_zero Go.wp_at_succ

theorem box_a (w : World) (a : Bd) (t : TypeId) (o : Obj) : Box ((w.alloc (.cells #[.int .u64 (U a.ul), .int .u64 (U a.uh), .int .i64 (S a.sl), .int .i64 (S a.sh), .int .u64 (U a.t.v), .int .u64 (U a.t.m)] t)).alloc o) w.heap.size (bv a) := (Box.new w (bv a) t rfl).alloc _
theorem box_z2 (w : World) (o : Obj) (t : TypeId) : Box ((w.alloc o).alloc (.cells #[.int .u64 0, .int .u64 0, .int .i64 0, .int .i64 0, .int .u64 0, .int .u64 0] t)) (w.heap.size + 1) (bv bzero) :=
  Box.new (w.alloc o) (bv bzero) t (by simp)
theorem blow_1 {b : Bd} (h : U b.uh ≤ 4294967295) : blow b = b := by
  unfold blow U at *
  rw [if_pos (by omega)]
theorem blow_2 {b : Bd} (h : 4294967295 < U b.uh) {o : Option Bd} (ho : tidy { bupto low32 with t := tlow b.t } = o) : blow b = o.getD (bupto low32) := by
  unfold blow U at *
  rw [if_neg (by omega), ho]
set_option maxRecDepth 100000 in
set_option maxHeartbeats 2000000 in
theorem rblow_any (b : Bd) (w : World) : Calls Try.prog 51 #[.agg #[.int .u64 (U b.ul), .int .u64 (U b.uh), .int .i64 (S b.sl), .int .i64 (S b.sh), .int .u64 (U b.t.v), .int .u64 (U b.t.m)]] w fun e w' => e = .returned (.agg #[.int .u64 (U (blow b).ul), .int .u64 (U (blow b).uh), .int .i64 (S (blow b).sl), .int .i64 (S (blow b).sh), .int .u64 (U (blow b).t.v), .int .u64 (U (blow b).t.m)]) ∧ Below w.heap.size w w' := by
  by_cases h : U b.uh ≤ 4294967295
  · rw [blow_1 h]
    go_enter Try.func51, Try.ntmps51
    go_wp2_with fail
    exact bodyPost_ret (v := .agg #[.int .u64 (U b.ul), .int .u64 (U b.uh), .int .i64 (S b.sl), .int .i64 (S b.sh), .int .u64 (U b.t.v), .int .u64 (U b.t.m)]) (by simp [results, Try.results51, go_sem]) rfl ⟨rfl, b2⟩
  have h' : 4294967295 < U b.uh := by omega
  clear h
  have HP := Lib.hid (fun W => rupto_any low32 W)
  rw [U_sizes.2.2] at HP
  have HL := Lib.hid (fun W => rtlow_any b.t W)
  have HS := Lib.hid (fun W => rbsize_any 4 W)
  rw [show bsize 4 = bupto low32 from rfl] at HS
  have HT := Lib.hid (fun W => rtidy_any { bupto low32 with t := tlow b.t } W)
  have HO := Lib.hid (blow_2 h' rfl)
  generalize tlow b.t = t at *
  generalize hO : tidy { bupto low32 with t := t } = o at *
  clear hO
  rw [HO.out]
  generalize bupto low32 = D at *
  cases o with
  | none =>
    simp only [tidyV] at HT
    show Calls Try.prog 51 #[.agg #[.int .u64 (U b.ul), .int .u64 (U b.uh), .int .i64 (S b.sl), .int .i64 (S b.sh), .int .u64 (U b.t.v), .int .u64 (U b.t.m)]] w fun e w' => e = .returned (.agg #[.int .u64 (U D.ul), .int .u64 (U D.uh), .int .i64 (S D.sl), .int .i64 (S D.sh), .int .u64 (U D.t.v), .int .u64 (U D.t.m)]) ∧ Below w.heap.size w w'
    go_enter Try.func51, Try.ntmps51
    go_wp2_with (first
      | (go_at_call 53; refine (HS.out _).mono ?_; rintro e w4 ⟨rfl, hb⟩; have B4 := Lib.hid (bnext B3.out (bl1 hb).1); have Z4 := (Z3.out.next (bl1 hb).1).six0; clear hb; obtain ⟨g1, g2, g3⟩ := Z4)
      | (go_at_call 50; refine (HT.out _).mono ?_; rintro e w3 ⟨rfl, hb⟩; have B3 := Lib.hid (bnext (below_set2 B2.out (by omega)) hb); have Z3 := Lib.hid ((Z2.out.far2 (by omega)).next hb); clear hb g1 g2 g3 x1 x2 x3)
      | (go_at_call 84; refine (HL.out _).mono ?_; rintro e w2 ⟨rfl, hb⟩; have B2 := Lib.hid (bnext B1.out (bl1 hb).1); have Z2 := Lib.hid (Z1.out.next (bl1 hb).1); have X2 := ((Box.new w1 (bv D) 26 rfl).next hb).six; have z2 := size_2 hb; have Z2' := Z2.out.six0; clear hb; obtain ⟨x1, x2, x3⟩ := X2; obtain ⟨g1, g2, g3⟩ := Z2')
      | (go_at_call 83; refine (HP.out _).mono ?_; rintro e w1 ⟨rfl, hb⟩; have B1 := Lib.hid (bl2 hb).1; have X1 := ((box_a w b _ _).next hb).six; have Z1 := Lib.hid ((box_z2 w _ _).next hb); have z1 := Z1.out.lt; clear hb; obtain ⟨p1, p2, p3⟩ := X1))
    exact bodyPost_ret (v := .agg #[.int .u64 (U D.ul), .int .u64 (U D.uh), .int .i64 (S D.sl), .int .i64 (S D.sh), .int .u64 (U D.t.v), .int .u64 (U D.t.m)]) (by simp [results, Try.results51, go_sem, g1]) rfl ⟨rfl, set6 B4.out (by omega)⟩
  | some c =>
    simp only [tidyV] at HT
    show Calls Try.prog 51 #[.agg #[.int .u64 (U b.ul), .int .u64 (U b.uh), .int .i64 (S b.sl), .int .i64 (S b.sh), .int .u64 (U b.t.v), .int .u64 (U b.t.m)]] w fun e w' => e = .returned (.agg #[.int .u64 (U c.ul), .int .u64 (U c.uh), .int .i64 (S c.sl), .int .i64 (S c.sh), .int .u64 (U c.t.v), .int .u64 (U c.t.m)]) ∧ Below w.heap.size w w'
    go_enter Try.func51, Try.ntmps51
    go_wp2_with (first
      | (go_at_call 50; refine (HT.out _).mono ?_; rintro e w3 ⟨rfl, hb⟩; have B3 := Lib.hid (bnext (below_set2 B2.out (by omega)) hb); have Z3 := ((Z2.out.far2 (by omega)).next hb).six0; clear hb g1 g2 g3 x1 x2 x3; obtain ⟨g1, g2, g3⟩ := Z3)
      | (go_at_call 84; refine (HL.out _).mono ?_; rintro e w2 ⟨rfl, hb⟩; have B2 := Lib.hid (bnext B1.out (bl1 hb).1); have Z2 := Lib.hid (Z1.out.next (bl1 hb).1); have X2 := ((Box.new w1 (bv D) 26 rfl).next hb).six; have z2 := size_2 hb; have Z2' := Z2.out.six0; clear hb; obtain ⟨x1, x2, x3⟩ := X2; obtain ⟨g1, g2, g3⟩ := Z2')
      | (go_at_call 83; refine (HP.out _).mono ?_; rintro e w1 ⟨rfl, hb⟩; have B1 := Lib.hid (bl2 hb).1; have X1 := ((box_a w b _ _).next hb).six; have Z1 := Lib.hid ((box_z2 w _ _).next hb); have z1 := Z1.out.lt; clear hb; obtain ⟨p1, p2, p3⟩ := X1))
    exact bodyPost_ret (v := .agg #[.int .u64 (U c.ul), .int .u64 (U c.uh), .int .i64 (S c.sl), .int .i64 (S c.sh), .int .u64 (U c.t.v), .int .u64 (U c.t.m)]) (by simp [results, Try.results51, go_sem, g1, g3]) rfl ⟨rfl, (set6 B3.out (by omega)).alloc (by simp; have := B3.out.size; omega) _⟩
end Go.Proofs.Yticjhcbkkkkckaa
