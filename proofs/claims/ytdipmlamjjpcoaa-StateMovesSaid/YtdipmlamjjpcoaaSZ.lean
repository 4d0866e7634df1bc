/- Package state's own contracts, all eight. -/
import Derived.Test.YtdipmlamjjpcoaaGL
import Derived.Test.YtdipmlamjjpcoaaKS
import Derived.Test.YtdipmlamjjpcoaaKT
namespace Go.Proofs.Ytdipmlamjjpcoaa
open Go.RowKit
attribute [local go_sem] b_and b_or b_xor b_andNot b_low b_top b_most b_signed b_unsigned b_zero b_eq s_eq b_nzero b_neq s_neq b_max b_min s_max s_min
attribute [local go_sem ↓] Go.wp_at_zero Go.wp_at_succ

theorem sready_any (A : AbA) (s : Ab) (low high : Int) (_hl : (Lit.int .i64 low).wf = true) (_hh : (Lit.int .i64 high).wf = true) (w : World) (h : AbAt w A s) : Calls Try.prog 21 #[.agg #[.slice A.p1 s.regs.length A.c1, .slice A.p2 s.set.length A.c2, .slice A.p3 s.saved.length A.c3], .int .i64 low, .int .i64 high] w fun e w' => e = .returned (.bool (readyS s low high)) ∧ Below w.heap.size w w' := srdy_any A s low high w h
end Go.Proofs.Ytdipmlamjjpcoaa
