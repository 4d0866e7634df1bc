/- Package arith's Alu, whole, as it answers at this commit. -/
import Derived.Test.YtenlamafddbijaaOL
import Derived.Test.YtenlamafddbijaaOM
import Derived.Test.YtenlamafddbijaaON
import Derived.Test.YtenlamafddbijaaOO
import Derived.Test.YtenlamafddbijaaPI
namespace Go.Proofs.Ytenlamafddbijaa
open Go.RowKit

theorem aalu_any (op : Int) (hw : (Lit.int .i64 op).wf = true) (a b : Bd) (full : Bool) (w : World) : Calls Try.prog 8 #[.int .i64 op, .agg #[.int .u64 (U a.ul), .int .u64 (U a.uh), .int .i64 (S a.sl), .int .i64 (S a.sh), .int .u64 (U a.t.v), .int .u64 (U a.t.m)], .agg #[.int .u64 (U b.ul), .int .u64 (U b.uh), .int .i64 (S b.sl), .int .i64 (S b.sh), .int .u64 (U b.t.v), .int .u64 (U b.t.m)], .bool full] w fun e w' => e = .returned (.tuple #[.agg #[.int .u64 (U (progB op a b full).ul), .int .u64 (U (progB op a b full).uh), .int .i64 (S (progB op a b full).sl), .int .i64 (S (progB op a b full).sh), .int .u64 (U (progB op a b full).t.v), .int .u64 (U (progB op a b full).t.m)], .bool (isOp op)]) ∧ Below w.heap.size w w' := by
  cases ho : isOp op with
  | false => rw [progB_no ho]; exact alu_no op hw ho a b full w
  | true => cases ha : bcheck a with
    | false => rw [progB_bad (.inl ha)]; exact alu_bad1 op hw ho a b ha full w
    | true => cases hb : bcheck b with
      | false => rw [progB_bad (.inr hb)]; exact alu_bad2 op hw ho a b ha hb full w
      | true =>
        have e : progB op a b full = if full = true then tidyA (reckB op a b true) else blow (tidyA (reckB op (blow a) (blow b) false)) := by
          unfold progB
          rw [if_neg (by rw [ho]; simp), if_neg (by rw [ha, hb]; simp)]
        rw [e]
        cases full with
        | true =>
          rw [if_pos rfl]
          rcases isOp_cases ho with rfl | rfl | rfl | rfl | rfl | rfl | rfl | rfl | rfl | rfl | rfl | rfl | rfl
          · exact alu_t0 a b ha hb w
          · exact alu_t16 a b ha hb w
          · exact alu_t32 a b ha hb w
          · exact alu_t48 a b ha hb w
          · exact alu_t64 a b ha hb w
          · exact alu_t80 a b ha hb w
          · exact alu_t96 a b ha hb w
          · exact alu_t112 a b ha hb w
          · exact alu_t128 a b ha hb w
          · exact alu_t144 a b ha hb w
          · exact alu_t160 a b ha hb w
          · exact alu_t176 a b ha hb w
          · exact alu_t192 a b ha hb w
        | false =>
          rw [if_neg (by simp)]
          rcases isOp_cases ho with rfl | rfl | rfl | rfl | rfl | rfl | rfl | rfl | rfl | rfl | rfl | rfl | rfl
          · exact alu_f0 a b ha hb w
          · exact alu_f16 a b ha hb w
          · exact alu_f32 a b ha hb w
          · exact alu_f48 a b ha hb w
          · exact alu_f64 a b ha hb w
          · exact alu_f80 a b ha hb w
          · exact alu_f96 a b ha hb w
          · exact alu_f112 a b ha hb w
          · exact alu_f128 a b ha hb w
          · exact alu_f144 a b ha hb w
          · exact alu_f160 a b ha hb w
          · exact alu_f176 a b ha hb w
          · exact alu_f192 a b ha hb w
end Go.Proofs.Ytenlamafddbijaa
