/- Bounds: the document's own parts of tidying. -/
import Derived.Test.YtdipmlamjjpcoaaWD
namespace Go.Proofs.Ytdipmlamjjpcoaa
open Go.RowKit
attribute [local go_sem] b_and b_or b_xor b_andNot b_low b_top b_most b_signed b_unsigned b_zero b_eq s_eq b_nzero b_neq s_neq b_max b_min s_max s_min
attribute [local go_sem ↓] Go.wp_at_zero Go.wp_at_succ

theorem set6 {B : Nat} {a w : World} {n : Nat} {v0 v1 v2 v3 v4 v5 : Value} (h : Below B a w) (hn : B ≤ n) :
    Below B a ((((((w.setCell ⟨n, 0, none⟩ v0).setCell ⟨n, 1, none⟩ v1).setCell ⟨n, 2, none⟩ v2).setCell ⟨n, 3, none⟩ v3).setCell ⟨n, 4, none⟩ v4).setCell ⟨n, 5, none⟩ v5) :=
  (((((h.setCell (by exact hn) _).setCell (by exact hn) _).setCell (by exact hn) _).setCell (by exact hn) _).setCell (by exact hn) _).setCell (by exact hn) _
theorem tidyS_1 {b : Bd} (h : 0 ≤ S b.sl ∨ S b.sh < 0) : tidyS b = ⟨umax b.ul b.sl, umin b.uh b.sh, umax b.ul b.sl, umin b.uh b.sh, b.t⟩ := if_pos h
theorem tidyS_2 {b : Bd} (h1 : S b.sl < 0) (h2 : 0 ≤ S b.sh) (h3 : 0 ≤ S b.uh) : tidyS b = ⟨b.ul, smin b.sh b.uh, b.ul, smin b.sh b.uh, b.t⟩ := by
  unfold tidyS S at *
  rw [if_neg (by omega), if_pos h3]
theorem tidyS_3 {b : Bd} (h1 : S b.sl < 0) (h2 : 0 ≤ S b.sh) (h3 : S b.uh < 0) (h4 : S b.ul < 0) : tidyS b = ⟨smax b.sl b.ul, b.uh, smax b.sl b.ul, b.uh, b.t⟩ := by
  unfold tidyS S at *
  rw [if_neg (by omega), if_neg (by omega), if_pos h4]
theorem tidyS_4 {b : Bd} (h1 : S b.sl < 0) (h2 : 0 ≤ S b.sh) (h3 : S b.uh < 0) (h4 : 0 ≤ S b.ul) : tidyS b = b := by
  unfold tidyS S at *
  rw [if_neg (by omega), if_neg (by omega), if_neg (by omega)]
end Go.Proofs.Ytdipmlamjjpcoaa
