/- Bounds: the document's own answers, but for Tidy. -/
import Derived.Test.YtdipmlamjjpcoaaWF
namespace Go.Proofs.Ytdipmlamjjpcoaa
open Go.RowKit
attribute [local go_sem] b_and b_or b_xor b_andNot b_low b_top b_most b_signed b_unsigned b_zero b_eq s_eq b_nzero b_neq s_neq b_max b_min s_max s_min
attribute [local go_sem ↓] Go.wp_at_zero Go.wp_at_succ

theorem U_most : U (18446744073709551615#64) = 18446744073709551615 ∧ S topB = -9223372036854775808 ∧ S mostB = 9223372036854775807 ∧ S 0#64 = 0 := by decide +kernel
theorem rbany_any (w : World) : Calls Try.prog 14 #[] w fun e w' => e = .returned (.agg #[.int .u64 (U bany.ul), .int .u64 (U bany.uh), .int .i64 (S bany.sl), .int .i64 (S bany.sh), .int .u64 (U bany.t.v), .int .u64 (U bany.t.m)]) ∧ Below w.heap.size w w' := by
  have H := Lib.hid (fun W => rtany_any W)
  have HU := Lib.hid U_most
  go_enter Try.func14, Try.ntmps14
  go_wp2_with (go_at_call 40; refine (H.out _).mono ?_; rintro e w1 ⟨rfl, hb⟩; have B1 := Lib.hid (bl1 hb); have K1 := bcell hb; clear hb)
  have hz := B1.out.2
  exact bodyPost_ret (v := .agg #[.int .u64 (U bany.ul), .int .u64 (U bany.uh), .int .i64 (S bany.sl), .int .i64 (S bany.sh), .int .u64 (U bany.t.v), .int .u64 (U bany.t.m)]) (by simp [results, Try.results14, go_sem, K1, bany, HU.out, U_0]) rfl ⟨rfl, set6 B1.out.1 (by omega)⟩
theorem rbconst_any (x : B) (w : World) : Calls Try.prog 31 #[.int .u64 (U x)] w fun e w' => e = .returned (.agg #[.int .u64 (U (bconst x).ul), .int .u64 (U (bconst x).uh), .int .i64 (S (bconst x).sl), .int .i64 (S (bconst x).sh), .int .u64 (U (bconst x).t.v), .int .u64 (U (bconst x).t.m)]) ∧ Below w.heap.size w w' := by
  have H := Lib.hid (fun W => rtconst_any x W)
  have HE := Lib.hid (show (tconst x).v = x ∧ (tconst x).m = 0#64 from ⟨rfl, rfl⟩)
  generalize tconst x = y at *
  go_enter Try.func31, Try.ntmps31
  go_wp2_with (go_at_call 54; refine (H.out _).mono ?_; rintro e w1 ⟨rfl, hb⟩; have B1 := Lib.hid (bl1 hb); have K1 := bcell hb; clear hb)
  have hz := B1.out.2
  exact bodyPost_ret (v := .agg #[.int .u64 (U (bconst x).ul), .int .u64 (U (bconst x).uh), .int .i64 (S (bconst x).sl), .int .i64 (S (bconst x).sh), .int .u64 (U (bconst x).t.v), .int .u64 (U (bconst x).t.m)]) (by simp [results, Try.results31, go_sem, K1, bconst, HE.out]) rfl ⟨rfl, set6 B1.out.1 (by omega)⟩
theorem rupto_any (x : B) (w : World) : Calls Try.prog 39 #[.int .u64 (U x)] w fun e w' => e = .returned (.agg #[.int .u64 (U (bupto x).ul), .int .u64 (U (bupto x).uh), .int .i64 (S (bupto x).sl), .int .i64 (S (bupto x).sh), .int .u64 (U (bupto x).t.v), .int .u64 (U (bupto x).t.m)]) ∧ Below w.heap.size w w' := by
  go_enter Try.func39, Try.ntmps39
  go_wp2_with fail
  exact bodyPost_ret (v := .agg #[.int .u64 (U (bupto x).ul), .int .u64 (U (bupto x).uh), .int .i64 (S (bupto x).sl), .int .i64 (S (bupto x).sh), .int .u64 (U (bupto x).t.v), .int .u64 (U (bupto x).t.m)]) (by simp [results, Try.results39, go_sem, bupto, U_0, S_0]) rfl ⟨rfl, b1⟩
end Go.Proofs.Ytdipmlamjjpcoaa
