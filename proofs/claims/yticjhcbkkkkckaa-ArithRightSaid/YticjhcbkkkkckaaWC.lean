/- Known bits: meet and join. -/
import Derived.Test.YticjhcbkkkkckaaWB
namespace Go.Proofs.Yticjhcbkkkkckaa
open Go.RowKit
attribute [local go_sem] b_and b_or b_xor b_andNot b_low b_top b_most b_signed b_unsigned b_zero b_eq s_eq b_nzero b_neq s_neq b_max b_min s_max s_min
attribute [local go_sem ↓] Go.wp_at_zero Go.wp_at_succ

def tzero : Tn := ⟨0#64, 0#64⟩
theorem tmeet_any (a b : Tn) (w : World) : Calls Try.prog 100 #[.agg #[.int .u64 (U a.v), .int .u64 (U a.m)], .agg #[.int .u64 (U b.v), .int .u64 (U b.m)]] w fun e w' => e = .returned (.tuple #[.agg #[.int .u64 (U (if tagree a b = true then tmeetT a b else tzero).v), .int .u64 (U (if tagree a b = true then tmeetT a b else tzero).m)], .bool (tagree a b)]) ∧ Below w.heap.size w w' := by
  have H := Lib.hid (fun W => partly_any (a.v ||| b.v) (a.m &&& b.m) W)
  unfold tmeetT tagree
  generalize tof (a.v ||| b.v) (a.m &&& b.m) = y at *
  cases hc : ((a.v ^^^ b.v) &&& ~~~(a.m ||| b.m) == 0#64)
  · go_enter Try.func100, Try.ntmps100
    go_wp2_with fail
    exact bodyPost_ret (v := .tuple #[.agg #[.int .u64 (U tzero.v), .int .u64 (U tzero.m)], .bool false]) (by simp [results, Try.results100, go_sem, tzero, U_0]) rfl ⟨rfl, b3⟩
  · go_enter Try.func100, Try.ntmps100
    go_wp2_with (go_at_call 77; refine (H.out _).mono ?_; rintro e w1 ⟨rfl, hb⟩; have B1 := Lib.hid (bl3 hb); have K1 := bcell hb; clear hb)
    have hz := B1.out.2
    exact bodyPost_ret (v := .tuple #[.agg #[.int .u64 (U y.v), .int .u64 (U y.m)], .bool true]) (by simp [results, Try.results100, go_sem, K1]) rfl ⟨rfl, (B1.out.1.setCell (by simp; omega) _).setCell (by simp; omega) _⟩
set_option maxHeartbeats 1000000 in
theorem rtmeet_any (a b : Tn) (w : World) : Calls Try.prog 81 #[.agg #[.int .u64 (U a.v), .int .u64 (U a.m)], .agg #[.int .u64 (U b.v), .int .u64 (U b.m)]] w fun e w' => e = .returned (.tuple #[.agg #[.int .u64 (U (tmeetT a b).v), .int .u64 (U (tmeetT a b).m)], .bool (tagree a b)]) ∧ Below w.heap.size w w' := by
  have H := Lib.hid (fun W => rof_any (a.v ||| b.v) (a.m &&& b.m) W)
  unfold tmeetT tagree
  generalize tof (a.v ||| b.v) (a.m &&& b.m) = y at *
  go_enter Try.func81, Try.ntmps81
  go_wp2_with fail
  go_region_held3 (fun W => W.cell? ⟨w.heap.size, 0, none⟩ = some (.int .u64 (U a.v)) ∧ W.cell? ⟨w.heap.size, 1, none⟩ = some (.int .u64 (U a.m)) ∧ W.cell? ⟨w.heap.size + 1, 0, none⟩ = some (.int .u64 (U b.v)) ∧ W.cell? ⟨w.heap.size + 1, 1, none⟩ = some (.int .u64 (U b.m)))
    (first | with_reducible exact K1 | with_reducible exact two_set2 K1 | go_keep)
    (first | (go_at_call 102; refine (H.out _).mono ?_; rintro e w1 ⟨rfl, hb⟩; have B1 := Lib.hid (bl3 (bdrewA3 hb)); have K1 := two_below (two_new3 w a b _ _ _) (by simp) (bdrewA3 hb); have K2 := bcell hb; unfold Two at K1; clear hb))
  go_wp2
  have hz := B1.out.2
  exact bodyPost_ret (v := .tuple #[.agg #[.int .u64 (U y.v), .int .u64 (U y.m)], .bool ((a.v ^^^ b.v) &&& ~~~(a.m ||| b.m) == 0#64)]) (by simp [results, Try.results81, go_sem, K2]) rfl ⟨rfl, (B1.out.1.setCell (by simp; omega) _).setCell (by simp; omega) _⟩
end Go.Proofs.Yticjhcbkkkkckaa
