/- Bounds: contracts of package bound: Tidy, Size. -/
import Derived.Test.YtaolcmmdefchmaaVC
namespace Go.Proofs.Ytaolcmmdefchmaa
open Go.RowKit
attribute [local go_sem] b_and b_or b_xor b_andNot b_low b_top b_most b_signed b_unsigned b_zero b_eq s_eq b_nzero b_neq s_neq b_max b_min s_max s_min
attribute [local go_sem ↓] Go.wp_at_zero Go.wp_at_succ

theorem tidy_bind (b : Bd) : tidy b = (tidy1 b).bind tidy1 := rfl
set_option maxRecDepth 100000 in
set_option maxHeartbeats 2000000 in
theorem btidy_any (b : Bd) (w : World) : Calls Try.prog 12 #[.agg #[.int .u64 (U b.ul), .int .u64 (U b.uh), .int .i64 (S b.sl), .int .i64 (S b.sh), .int .u64 (U b.t.v), .int .u64 (U b.t.m)]] w fun e w' => e = .returned (tidyV (tidy b)) ∧ Below w.heap.size w w' := by
  have H1 := Lib.hid (fun W => narrow_any b W)
  rw [tidy_bind]
  generalize hO : tidy1 b = o at *
  have HO := Lib.hid hO
  clear hO
  cases o with
  | none =>
    show Calls Try.prog 12 #[.agg #[.int .u64 (U b.ul), .int .u64 (U b.uh), .int .i64 (S b.sl), .int .i64 (S b.sh), .int .u64 (U b.t.v), .int .u64 (U b.t.m)]] w fun e w' => e = .returned (.tuple #[.agg #[.int .u64 (U bzero.ul), .int .u64 (U bzero.uh), .int .i64 (S bzero.sl), .int .i64 (S bzero.sh), .int .u64 (U bzero.t.v), .int .u64 (U bzero.t.m)], .bool false]) ∧ Below w.heap.size w w'
    simp only [tidyV] at H1
    go_enter Try.func12, Try.ntmps12
    go_wp2_with (go_at_call 33; refine (H1.out _).mono ?_; rintro e w1 ⟨rfl, hb⟩; have B1 := Lib.hid (bl2 hb).1; have f1' := ((box_a w b _ _).next hb).six; have g1' := ((box_z2 w _ _).next hb).six0; clear hb; obtain ⟨f1, f2, f3⟩ := f1'; obtain ⟨g1, g2, g3⟩ := g1')
    exact bodyPost_ret (v := .tuple #[.agg #[.int .u64 (U bzero.ul), .int .u64 (U bzero.uh), .int .i64 (S bzero.sl), .int .i64 (S bzero.sh), .int .u64 (U bzero.t.v), .int .u64 (U bzero.t.m)], .bool false]) (by simp [results, Try.results12, go_sem, g1, g3]) rfl ⟨rfl, (set6 B1.out (by omega)).alloc (by simp; have := B1.out.size; omega) _⟩
  | some c =>
    simp only [tidyV] at H1
    by_cases hc : c = b
    · have he : ∀ W, (binOp .eql 26 (.agg #[.int .u64 (U c.ul), .int .u64 (U c.uh), .int .i64 (S c.sl), .int .i64 (S c.sh), .int .u64 (U c.t.v), .int .u64 (U c.t.m)]) (.agg #[.int .u64 (U b.ul), .int .u64 (U b.uh), .int .i64 (S b.sl), .int .i64 (S b.sh), .int .u64 (U b.t.v), .int .u64 (U b.t.m)])).run Try.prog W = .ok (.bool true) W := fun W => by rw [eqD c b W, decide_eq_true hc]
      have HE : Hid (tidyV ((some c).bind tidy1) = .tuple #[.agg #[.int .u64 (U c.ul), .int .u64 (U c.uh), .int .i64 (S c.sl), .int .i64 (S c.sh), .int .u64 (U c.t.v), .int .u64 (U c.t.m)], .bool true]) := Lib.hid (by
        show tidyV (tidy1 c) = _
        rw [hc, HO.out, ← hc]; rfl)
      clear hc
      go_enter Try.func12, Try.ntmps12
      go_wp2_with (go_at_call 33; refine (H1.out _).mono ?_; rintro e w1 ⟨rfl, hb⟩; have B1 := Lib.hid (bl2 hb).1; have f1' := ((box_a w b _ _).next hb).six; have g1' := ((box_z2 w _ _).next hb).six0; clear hb; obtain ⟨f1, f2, f3⟩ := f1'; obtain ⟨g1, g2, g3⟩ := g1')
      exact bodyPost_ret (v := .tuple #[.agg #[.int .u64 (U c.ul), .int .u64 (U c.uh), .int .i64 (S c.sl), .int .i64 (S c.sh), .int .u64 (U c.t.v), .int .u64 (U c.t.m)], .bool true]) (by simp [results, Try.results12, go_sem, g1, g3]) rfl ⟨by rw [HE.out], (set6 B1.out (by omega)).alloc (by simp; have := B1.out.size; omega) _⟩
    · have he : ∀ W, (binOp .eql 26 (.agg #[.int .u64 (U c.ul), .int .u64 (U c.uh), .int .i64 (S c.sl), .int .i64 (S c.sh), .int .u64 (U c.t.v), .int .u64 (U c.t.m)]) (.agg #[.int .u64 (U b.ul), .int .u64 (U b.uh), .int .i64 (S b.sl), .int .i64 (S b.sh), .int .u64 (U b.t.v), .int .u64 (U b.t.m)])).run Try.prog W = .ok (.bool false) W := fun W => by rw [eqD c b W, decide_eq_false hc]
      clear hc
      have H2 := Lib.hid (fun W => narrow_any c W)
      show Calls Try.prog 12 #[.agg #[.int .u64 (U b.ul), .int .u64 (U b.uh), .int .i64 (S b.sl), .int .i64 (S b.sh), .int .u64 (U b.t.v), .int .u64 (U b.t.m)]] w fun e w' => e = .returned (tidyV (tidy1 c)) ∧ Below w.heap.size w w'
      generalize tidy1 c = p at *
      cases p with
      | none =>
        simp only [tidyV] at H2
        show Calls Try.prog 12 #[.agg #[.int .u64 (U b.ul), .int .u64 (U b.uh), .int .i64 (S b.sl), .int .i64 (S b.sh), .int .u64 (U b.t.v), .int .u64 (U b.t.m)]] w fun e w' => e = .returned (.tuple #[.agg #[.int .u64 (U bzero.ul), .int .u64 (U bzero.uh), .int .i64 (S bzero.sl), .int .i64 (S bzero.sh), .int .u64 (U bzero.t.v), .int .u64 (U bzero.t.m)], .bool false]) ∧ Below w.heap.size w w'
        go_enter Try.func12, Try.ntmps12
        go_wp2_with (first
          | (go_at_call 33; with_reducible refine (H1.out _).mono ?_; rintro e w1 ⟨rfl, hb⟩; have B1 := Lib.hid (bl2 hb).1; have Y2 := Lib.hid ((box_z2 w _ _).next hb); have f1' := ((box_a w b _ _).next hb).six; clear hb; obtain ⟨f1, f2, f3⟩ := f1'; obtain ⟨g1, g2, g3⟩ := Y2.out.six0)
          | (go_at_call 33; with_reducible refine (H2.out _).mono ?_; rintro e w2 ⟨rfl, hb⟩; have B2 := Lib.hid (bnext B1.out (bl1 hb).1); clear g1 g2 g3; obtain ⟨g1, g2, g3⟩ := (Y2.out.next (bl1 hb).1).six0; clear hb))
        exact bodyPost_ret (v := .tuple #[.agg #[.int .u64 (U bzero.ul), .int .u64 (U bzero.uh), .int .i64 (S bzero.sl), .int .i64 (S bzero.sh), .int .u64 (U bzero.t.v), .int .u64 (U bzero.t.m)], .bool false]) (by simp [results, Try.results12, go_sem, g1]) rfl ⟨rfl, set6 B2.out (by omega)⟩
      | some d =>
        simp only [tidyV] at H2
        show Calls Try.prog 12 #[.agg #[.int .u64 (U b.ul), .int .u64 (U b.uh), .int .i64 (S b.sl), .int .i64 (S b.sh), .int .u64 (U b.t.v), .int .u64 (U b.t.m)]] w fun e w' => e = .returned (.tuple #[.agg #[.int .u64 (U d.ul), .int .u64 (U d.uh), .int .i64 (S d.sl), .int .i64 (S d.sh), .int .u64 (U d.t.v), .int .u64 (U d.t.m)], .bool true]) ∧ Below w.heap.size w w'
        go_enter Try.func12, Try.ntmps12
        go_wp2_with (first
          | (go_at_call 33; with_reducible refine (H1.out _).mono ?_; rintro e w1 ⟨rfl, hb⟩; have B1 := Lib.hid (bl2 hb).1; have Y2 := Lib.hid ((box_z2 w _ _).next hb); have f1' := ((box_a w b _ _).next hb).six; clear hb; obtain ⟨f1, f2, f3⟩ := f1'; obtain ⟨g1, g2, g3⟩ := Y2.out.six0)
          | (go_at_call 33; with_reducible refine (H2.out _).mono ?_; rintro e w2 ⟨rfl, hb⟩; have B2 := Lib.hid (bnext B1.out (bl1 hb).1); clear g1 g2 g3; obtain ⟨g1, g2, g3⟩ := (Y2.out.next (bl1 hb).1).six0; clear hb))
        exact bodyPost_ret (v := .tuple #[.agg #[.int .u64 (U d.ul), .int .u64 (U d.uh), .int .i64 (S d.sl), .int .i64 (S d.sh), .int .u64 (U d.t.v), .int .u64 (U d.t.m)], .bool true]) (by simp [results, Try.results12, go_sem, g1]) rfl ⟨rfl, set6 B2.out (by omega)⟩
theorem bsize_any (n : Int) (w : World) : Calls Try.prog 24 #[.int .i64 n] w fun e w' => e = .returned (.agg #[.int .u64 (U (bsize n).ul), .int .u64 (U (bsize n).uh), .int .i64 (S (bsize n).sl), .int .i64 (S (bsize n).sh), .int .u64 (U (bsize n).t.v), .int .u64 (U (bsize n).t.m)]) ∧ Below w.heap.size w w' := by
  have HA := Lib.hid (fun W => bany_any W)
  have H1 : Hid (∀ W, Calls Try.prog 47 #[.int .u64 255, .agg #[.int .u64 0, .int .u64 255]] W fun e w' => e = .returned (.agg #[.int .u64 (U (bupto 255#64).ul), .int .u64 (U (bupto 255#64).uh), .int .i64 (S (bupto 255#64).sl), .int .i64 (S (bupto 255#64).sh), .int .u64 (U (bupto 255#64).t.v), .int .u64 (U (bupto 255#64).t.m)]) ∧ Below W.heap.size W w') := Lib.hid (fun W => upto_any 255#64 ⟨0#64, 255#64⟩ W)
  have H2 : Hid (∀ W, Calls Try.prog 47 #[.int .u64 65535, .agg #[.int .u64 0, .int .u64 65535]] W fun e w' => e = .returned (.agg #[.int .u64 (U (bupto 65535#64).ul), .int .u64 (U (bupto 65535#64).uh), .int .i64 (S (bupto 65535#64).sl), .int .i64 (S (bupto 65535#64).sh), .int .u64 (U (bupto 65535#64).t.v), .int .u64 (U (bupto 65535#64).t.m)]) ∧ Below W.heap.size W w') := Lib.hid (fun W => upto_any 65535#64 ⟨0#64, 65535#64⟩ W)
  have H4 : Hid (∀ W, Calls Try.prog 47 #[.int .u64 4294967295, .agg #[.int .u64 0, .int .u64 4294967295]] W fun e w' => e = .returned (.agg #[.int .u64 (U (bupto low32).ul), .int .u64 (U (bupto low32).uh), .int .i64 (S (bupto low32).sl), .int .i64 (S (bupto low32).sh), .int .u64 (U (bupto low32).t.v), .int .u64 (U (bupto low32).t.m)]) ∧ Below W.heap.size W w') := Lib.hid (fun W => upto_any low32 ⟨0#64, low32⟩ W)
  generalize hd1 : bupto 255#64 = D1 at *
  generalize hd2 : bupto 65535#64 = D2 at *
  generalize hd4 : bupto low32 = D4 at *
  generalize hda : bany = DA at *
  have HS : Hid (bsize n = if n = 1 then D1 else if n = 2 then D2 else if n = 4 then D4 else DA) := Lib.hid (by unfold bsize; rw [hd1, hd2, hd4, hda])
  clear hd1 hd2 hd4 hda
  by_cases e1 : n = 1
  · have HE : Hid (bsize n = D1) := Lib.hid (HS.out.trans (if_pos e1))
    rw [HE.out]
    subst e1
    go_enter Try.func24, Try.ntmps24
    go_wp2_with (go_at_call 47; refine (H1.out _).mono ?_; rintro e w1 ⟨rfl, hb⟩; have B1 := Lib.hid (bl1 hb); have K1 := bcell hb; clear hb)
    have hz := B1.out.2
    exact bodyPost_ret (v := .agg #[.int .u64 (U D1.ul), .int .u64 (U D1.uh), .int .i64 (S D1.sl), .int .i64 (S D1.sh), .int .u64 (U D1.t.v), .int .u64 (U D1.t.m)]) (by simp [results, Try.results24, go_sem, K1]) rfl ⟨rfl, set6 B1.out.1 (by omega)⟩
  by_cases e2 : n = 2
  · have HE : Hid (bsize n = D2) := Lib.hid (HS.out.trans ((if_neg e1).trans (if_pos e2)))
    rw [HE.out]
    subst e2
    clear e1
    go_enter Try.func24, Try.ntmps24
    go_wp2_with (go_at_call 47; refine (H2.out _).mono ?_; rintro e w1 ⟨rfl, hb⟩; have B1 := Lib.hid (bl1 hb); have K1 := bcell hb; clear hb)
    have hz := B1.out.2
    exact bodyPost_ret (v := .agg #[.int .u64 (U D2.ul), .int .u64 (U D2.uh), .int .i64 (S D2.sl), .int .i64 (S D2.sh), .int .u64 (U D2.t.v), .int .u64 (U D2.t.m)]) (by simp [results, Try.results24, go_sem, K1]) rfl ⟨rfl, set6 B1.out.1 (by omega)⟩
  by_cases e4 : n = 4
  · have HE : Hid (bsize n = D4) := Lib.hid (HS.out.trans ((if_neg e1).trans ((if_neg e2).trans (if_pos e4))))
    rw [HE.out]
    subst e4
    clear e1 e2
    go_enter Try.func24, Try.ntmps24
    go_wp2_with (go_at_call 47; refine (H4.out _).mono ?_; rintro e w1 ⟨rfl, hb⟩; have B1 := Lib.hid (bl1 hb); have K1 := bcell hb; clear hb)
    have hz := B1.out.2
    exact bodyPost_ret (v := .agg #[.int .u64 (U D4.ul), .int .u64 (U D4.uh), .int .i64 (S D4.sl), .int .i64 (S D4.sh), .int .u64 (U D4.t.v), .int .u64 (U D4.t.m)]) (by simp [results, Try.results24, go_sem, K1]) rfl ⟨rfl, set6 B1.out.1 (by omega)⟩
  have HE : Hid (bsize n = DA) := Lib.hid (HS.out.trans ((if_neg e1).trans ((if_neg e2).trans (if_neg e4))))
  rw [HE.out]
  have b1' : (n != 1) = true := by simpa using e1
  have b2' : (n != 2) = true := by simpa using e2
  have b4' : (n != 4) = true := by simpa using e4
  clear e1 e2 e4
  go_enter Try.func24, Try.ntmps24
  go_wp2_with (go_at_call 13; refine (HA.out _).mono ?_; rintro e w1 ⟨rfl, hb⟩; have B1 := Lib.hid (bl1 hb); have K1 := bcell hb; clear hb)
  have hz := B1.out.2
  exact bodyPost_ret (v := .agg #[.int .u64 (U DA.ul), .int .u64 (U DA.uh), .int .i64 (S DA.sl), .int .i64 (S DA.sh), .int .u64 (U DA.t.v), .int .u64 (U DA.t.m)]) (by simp [results, Try.results24, go_sem, K1]) rfl ⟨rfl, set6 B1.out.1 (by omega)⟩
end Go.Proofs.Ytaolcmmdefchmaa
