/- Bounds: the document's own Low. -/
import Derived.Test.YtdipmlamjjpcoaaWJ
namespace Go.Proofs.Ytdipmlamjjpcoaa
open Go.RowKit
attribute [local go_sem] b_and b_or b_xor b_andNot b_low b_top b_most b_signed b_unsigned b_zero b_eq s_eq b_nzero b_neq s_neq b_max b_min s_max s_min
attribute [local go_sem ↓] Go.wp_at_zero Go.wp_at_succ

theorem box_a (w : World) (a : Bd) (t : TypeId) (o : Obj) : Box ((w.alloc (.cells #[.int .u64 (U a.ul), .int .u64 (U a.uh), .int .i64 (S a.sl), .int .i64 (S a.sh), .int .u64 (U a.t.v), .int .u64 (U a.t.m)] t)).alloc o) w.heap.size (bv a) := (Box.new w (bv a) t rfl).alloc _
theorem box_z2 (w : World) (o : Obj) (t : TypeId) : Box ((w.alloc o).alloc (.cells #[.int .u64 0, .int .u64 0, .int .i64 0, .int .i64 0, .int .u64 0, .int .u64 0] t)) (w.heap.size + 1) (bv bzero) :=
  Box.new (w.alloc o) (bv bzero) t (by simp)
theorem blow_1 {b : Bd} (h : U b.uh ≤ 4294967295) : blow b = b := by
  unfold blow U at *
  rw [if_pos (by omega)]
theorem blow_2 {b : Bd} (h : 4294967295 < U b.uh) {o : Option Bd} (ho : tidy { bupto low32 with t := tlow b.t } = o) : blow b = o.getD (bupto low32) := by
  unfold blow U at *
  rw [if_neg (by omega), ho]
end Go.Proofs.Ytdipmlamjjpcoaa
