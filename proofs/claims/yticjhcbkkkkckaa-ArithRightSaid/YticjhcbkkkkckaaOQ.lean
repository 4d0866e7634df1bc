/- Package arith's Alu, whole. -/
import Derived.Test.YticjhcbkkkkckaaOL
import Derived.Test.YticjhcbkkkkckaaOM
import Derived.Test.YticjhcbkkkkckaaON
import Derived.Test.YticjhcbkkkkckaaOO
import Derived.Test.YticjhcbkkkkckaaPI
namespace Go.Proofs.Yticjhcbkkkkckaa
open Go.RowKit

theorem aluB_out {op : Int} {a b : Bd} (h : bcheck a = false ∨ bcheck b = false) (wide : Bool) : aluB op a b wide = bany := by
  unfold aluB
  cases isOp op with
  | false => exact if_pos rfl
  | true => rw [if_neg (by simp), if_pos h]
theorem aalu_any (op : Int) (hw : (Lit.int .i64 op).wf = true) (a b : Bd) (full : Bool) (w : World) : Calls Try.prog 8 #[.int .i64 op, .agg #[.int .u64 (U a.ul), .int .u64 (U a.uh), .int .i64 (S a.sl), .int .i64 (S a.sh), .int .u64 (U a.t.v), .int .u64 (U a.t.m)], .agg #[.int .u64 (U b.ul), .int .u64 (U b.uh), .int .i64 (S b.sl), .int .i64 (S b.sh), .int .u64 (U b.t.v), .int .u64 (U b.t.m)], .bool full] w fun e w' => e = .returned (.tuple #[.agg #[.int .u64 (U (aluB op a b full).ul), .int .u64 (U (aluB op a b full).uh), .int .i64 (S (aluB op a b full).sl), .int .i64 (S (aluB op a b full).sh), .int .u64 (U (aluB op a b full).t.v), .int .u64 (U (aluB op a b full).t.m)], .bool (isOp op)]) ∧ Below w.heap.size w w' := by
  cases ho : isOp op with
  | false => rw [show aluB op a b full = bany from if_pos ho]; exact alu_no op hw ho a b full w
  | true => cases ha : bcheck a with
    | false => rw [aluB_out (.inl ha)]; exact alu_bad1 op hw ho a b ha full w
    | true => cases hb : bcheck b with
      | false => rw [aluB_out (.inr hb)]; exact alu_bad2 op hw ho a b ha hb full w
      | true =>
        have e : aluB op a b full = if full = true then tidyA (reckB op a b true) else tidyA (blow (tidyA (reckB op (blow a) (blow b) false))) := by
          rw [reck_wide ho, reck_narrow ho]
          unfold aluB
          rw [if_neg (by rw [ho]; simp), if_neg (by rw [ha, hb]; simp)]
          cases full <;> rfl
        rw [e]
        cases full with
        | true =>
          rw [if_pos rfl]
          rcases isOp_cases ho with rfl | rfl | rfl | rfl | rfl | rfl | rfl | rfl | rfl | rfl | rfl | rfl | rfl
          · exact alu_t0 a b ha hb w
          · exact alu_t16 a b ha hb w
          · exact alu_t32 a b ha hb w
          · exact alu_t48 a b ha hb w
          · exact alu_t64 a b ha hb w
          · exact alu_t80 a b ha hb w
          · exact alu_t96 a b ha hb w
          · exact alu_t112 a b ha hb w
          · exact alu_t128 a b ha hb w
          · exact alu_t144 a b ha hb w
          · exact alu_t160 a b ha hb w
          · exact alu_t176 a b ha hb w
          · exact alu_t192 a b ha hb w
        | false =>
          rw [if_neg (by simp)]
          rcases isOp_cases ho with rfl | rfl | rfl | rfl | rfl | rfl | rfl | rfl | rfl | rfl | rfl | rfl | rfl
          · exact alu_f0 a b ha hb w
          · exact alu_f16 a b ha hb w
          · exact alu_f32 a b ha hb w
          · exact alu_f48 a b ha hb w
          · exact alu_f64 a b ha hb w
          · exact alu_f80 a b ha hb w
          · exact alu_f96 a b ha hb w
          · exact alu_f112 a b ha hb w
          · exact alu_f128 a b ha hb w
          · exact alu_f144 a b ha hb w
          · exact alu_f160 a b ha hb w
          · exact alu_f176 a b ha hb w
          · exact alu_f192 a b ha hb w
end Go.Proofs.Yticjhcbkkkkckaa
