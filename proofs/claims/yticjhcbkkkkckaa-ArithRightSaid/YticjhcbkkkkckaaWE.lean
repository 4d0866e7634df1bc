/- Bounds: the document's own parts of tidying. -/
import Derived.Test.YticjhcbkkkkckaaWD
namespace Go.Proofs.Yticjhcbkkkkckaa
open Go.RowKit
attribute [local go_sem] b_and b_or b_xor b_andNot b_low b_top b_most b_signed b_unsigned b_zero b_eq s_eq b_nzero b_neq s_neq b_max b_min s_max s_min
attribute [local go_sem ↓] Go.wp_at_zero Go.wp_at_succ

theorem set6 {B : Nat} {a w : World} {n : Nat} {v0 v1 v2 v3 v4 v5 : Value} (h : Below B a w) (hn : B ≤ n) :
    Below B a ((((((w.setCell ⟨n, 0, none⟩ v0).setCell ⟨n, 1, none⟩ v1).setCell ⟨n, 2, none⟩ v2).setCell ⟨n, 3, none⟩ v3).setCell ⟨n, 4, none⟩ v4).setCell ⟨n, 5, none⟩ v5) :=
  (((((h.setCell (by exact hn) _).setCell (by exact hn) _).setCell (by exact hn) _).setCell (by exact hn) _).setCell (by exact hn) _).setCell (by exact hn) _
set_option maxHeartbeats 1000000 in
theorem rbits_any (b : Bd) (w : World) : Calls Try.prog 79 #[.agg #[.int .u64 (U b.ul), .int .u64 (U b.uh), .int .i64 (S b.sl), .int .i64 (S b.sh), .int .u64 (U b.t.v), .int .u64 (U b.t.m)]] w fun e w' => e = .returned (.agg #[.int .u64 (U (tidyB b).ul), .int .u64 (U (tidyB b).uh), .int .i64 (S (tidyB b).sl), .int .i64 (S (tidyB b).sh), .int .u64 (U (tidyB b).t.v), .int .u64 (U (tidyB b).t.m)]) ∧ Below w.heap.size w w' := by
  go_enter Try.func79, Try.ntmps79
  go_wp2_with fail
  go_quiet (fail)
  go_wp2_with fail
  exact bodyPost_ret (v := .agg #[.int .u64 (U (tidyB b).ul), .int .u64 (U (tidyB b).uh), .int .i64 (S (tidyB b).sl), .int .i64 (S (tidyB b).sh), .int .u64 (U (tidyB b).t.v), .int .u64 (U (tidyB b).t.m)]) (by simp [results, Try.results79, go_sem, tidyB, tlo, thi]) rfl ⟨rfl, set6 ((((((bdrewN b2 _).setCell (by simp) _).setCell (by simp) _).setCell (by simp) _).setCell (by simp) _)) (by omega)⟩
theorem tidyS_1 {b : Bd} (h : 0 ≤ S b.sl ∨ S b.sh < 0) : tidyS b = ⟨umax b.ul b.sl, umin b.uh b.sh, umax b.ul b.sl, umin b.uh b.sh, b.t⟩ := if_pos h
theorem tidyS_2 {b : Bd} (h1 : S b.sl < 0) (h2 : 0 ≤ S b.sh) (h3 : 0 ≤ S b.uh) : tidyS b = ⟨b.ul, smin b.sh b.uh, b.ul, smin b.sh b.uh, b.t⟩ := by
  unfold tidyS S at *
  rw [if_neg (by omega), if_pos h3]
theorem tidyS_3 {b : Bd} (h1 : S b.sl < 0) (h2 : 0 ≤ S b.sh) (h3 : S b.uh < 0) (h4 : S b.ul < 0) : tidyS b = ⟨smax b.sl b.ul, b.uh, smax b.sl b.ul, b.uh, b.t⟩ := by
  unfold tidyS S at *
  rw [if_neg (by omega), if_neg (by omega), if_pos h4]
theorem tidyS_4 {b : Bd} (h1 : S b.sl < 0) (h2 : 0 ≤ S b.sh) (h3 : S b.uh < 0) (h4 : 0 ≤ S b.ul) : tidyS b = b := by
  unfold tidyS S at *
  rw [if_neg (by omega), if_neg (by omega), if_neg (by omega)]
set_option maxHeartbeats 2000000 in
theorem rsigns_any (b : Bd) (w : World) : Calls Try.prog 80 #[.agg #[.int .u64 (U b.ul), .int .u64 (U b.uh), .int .i64 (S b.sl), .int .i64 (S b.sh), .int .u64 (U b.t.v), .int .u64 (U b.t.m)]] w fun e w' => e = .returned (.agg #[.int .u64 (U (tidyS b).ul), .int .u64 (U (tidyS b).uh), .int .i64 (S (tidyS b).sl), .int .i64 (S (tidyS b).sh), .int .u64 (U (tidyS b).t.v), .int .u64 (U (tidyS b).t.m)]) ∧ Below w.heap.size w w' := by
  by_cases h1 : 0 ≤ S b.sl
  · rw [tidyS_1 (.inl h1)]
    go_enter Try.func80, Try.ntmps80
    go_wp2_with fail
    exact bodyPost_ret (v := .agg #[.int .u64 (U ((⟨umax b.ul b.sl, umin b.uh b.sh, umax b.ul b.sl, umin b.uh b.sh, b.t⟩ : Bd)).ul), .int .u64 (U ((⟨umax b.ul b.sl, umin b.uh b.sh, umax b.ul b.sl, umin b.uh b.sh, b.t⟩ : Bd)).uh), .int .i64 (S ((⟨umax b.ul b.sl, umin b.uh b.sh, umax b.ul b.sl, umin b.uh b.sh, b.t⟩ : Bd)).sl), .int .i64 (S ((⟨umax b.ul b.sl, umin b.uh b.sh, umax b.ul b.sl, umin b.uh b.sh, b.t⟩ : Bd)).sh), .int .u64 (U ((⟨umax b.ul b.sl, umin b.uh b.sh, umax b.ul b.sl, umin b.uh b.sh, b.t⟩ : Bd)).t.v), .int .u64 (U ((⟨umax b.ul b.sl, umin b.uh b.sh, umax b.ul b.sl, umin b.uh b.sh, b.t⟩ : Bd)).t.m)]) (by simp [results, Try.results80, go_sem]) rfl ⟨rfl, b2⟩
  · have h1' : S b.sl < 0 := by omega
    by_cases h2 : S b.sh < 0
    · rw [tidyS_1 (.inr h2)]
      go_enter Try.func80, Try.ntmps80
      go_wp2_with fail
      exact bodyPost_ret (v := .agg #[.int .u64 (U ((⟨umax b.ul b.sl, umin b.uh b.sh, umax b.ul b.sl, umin b.uh b.sh, b.t⟩ : Bd)).ul), .int .u64 (U ((⟨umax b.ul b.sl, umin b.uh b.sh, umax b.ul b.sl, umin b.uh b.sh, b.t⟩ : Bd)).uh), .int .i64 (S ((⟨umax b.ul b.sl, umin b.uh b.sh, umax b.ul b.sl, umin b.uh b.sh, b.t⟩ : Bd)).sl), .int .i64 (S ((⟨umax b.ul b.sl, umin b.uh b.sh, umax b.ul b.sl, umin b.uh b.sh, b.t⟩ : Bd)).sh), .int .u64 (U ((⟨umax b.ul b.sl, umin b.uh b.sh, umax b.ul b.sl, umin b.uh b.sh, b.t⟩ : Bd)).t.v), .int .u64 (U ((⟨umax b.ul b.sl, umin b.uh b.sh, umax b.ul b.sl, umin b.uh b.sh, b.t⟩ : Bd)).t.m)]) (by simp [results, Try.results80, go_sem]) rfl ⟨rfl, b2⟩
    · have h2' : 0 ≤ S b.sh := by omega
      by_cases h3 : 0 ≤ S b.uh
      · rw [tidyS_2 h1' h2' h3]
        go_enter Try.func80, Try.ntmps80
        go_wp2_with fail
        exact bodyPost_ret (v := .agg #[.int .u64 (U ((⟨b.ul, smin b.sh b.uh, b.ul, smin b.sh b.uh, b.t⟩ : Bd)).ul), .int .u64 (U ((⟨b.ul, smin b.sh b.uh, b.ul, smin b.sh b.uh, b.t⟩ : Bd)).uh), .int .i64 (S ((⟨b.ul, smin b.sh b.uh, b.ul, smin b.sh b.uh, b.t⟩ : Bd)).sl), .int .i64 (S ((⟨b.ul, smin b.sh b.uh, b.ul, smin b.sh b.uh, b.t⟩ : Bd)).sh), .int .u64 (U ((⟨b.ul, smin b.sh b.uh, b.ul, smin b.sh b.uh, b.t⟩ : Bd)).t.v), .int .u64 (U ((⟨b.ul, smin b.sh b.uh, b.ul, smin b.sh b.uh, b.t⟩ : Bd)).t.m)]) (by simp [results, Try.results80, go_sem]) rfl ⟨rfl, b2⟩
      · have h3' : S b.uh < 0 := by omega
        by_cases h4 : S b.ul < 0
        · rw [tidyS_3 h1' h2' h3' h4]
          go_enter Try.func80, Try.ntmps80
          go_wp2_with fail
          exact bodyPost_ret (v := .agg #[.int .u64 (U ((⟨smax b.sl b.ul, b.uh, smax b.sl b.ul, b.uh, b.t⟩ : Bd)).ul), .int .u64 (U ((⟨smax b.sl b.ul, b.uh, smax b.sl b.ul, b.uh, b.t⟩ : Bd)).uh), .int .i64 (S ((⟨smax b.sl b.ul, b.uh, smax b.sl b.ul, b.uh, b.t⟩ : Bd)).sl), .int .i64 (S ((⟨smax b.sl b.ul, b.uh, smax b.sl b.ul, b.uh, b.t⟩ : Bd)).sh), .int .u64 (U ((⟨smax b.sl b.ul, b.uh, smax b.sl b.ul, b.uh, b.t⟩ : Bd)).t.v), .int .u64 (U ((⟨smax b.sl b.ul, b.uh, smax b.sl b.ul, b.uh, b.t⟩ : Bd)).t.m)]) (by simp [results, Try.results80, go_sem]) rfl ⟨rfl, b2⟩
        · have h4' : 0 ≤ S b.ul := by omega
          rw [tidyS_4 h1' h2' h3' h4']
          go_enter Try.func80, Try.ntmps80
          go_wp2_with fail
          exact bodyPost_ret (v := .agg #[.int .u64 (U b.ul), .int .u64 (U b.uh), .int .i64 (S b.sl), .int .i64 (S b.sh), .int .u64 (U b.t.v), .int .u64 (U b.t.m)]) (by simp [results, Try.results80, go_sem]) rfl ⟨rfl, b2⟩
end Go.Proofs.Yticjhcbkkkkckaa
