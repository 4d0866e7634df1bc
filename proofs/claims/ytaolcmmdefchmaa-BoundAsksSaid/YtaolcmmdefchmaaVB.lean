/- Bounds: contracts of package bound: what bits say of the ends, what signs say. -/
import Derived.Test.YtaolcmmdefchmaaWK
namespace Go.Proofs.Ytaolcmmdefchmaa
open Go.RowKit
attribute [local go_sem] b_and b_or b_xor b_andNot b_low b_top b_most b_signed b_unsigned b_zero b_eq s_eq b_nzero b_neq s_neq b_max b_min s_max s_min
attribute [local go_sem ↓] Go.wp_at_zero Go.wp_at_succ

set_option maxHeartbeats 1000000 in
theorem bybits_any (b : Bd) (w : World) : Calls Try.prog 57 #[.agg #[.int .u64 (U b.ul), .int .u64 (U b.uh), .int .i64 (S b.sl), .int .i64 (S b.sh), .int .u64 (U b.t.v), .int .u64 (U b.t.m)]] w fun e w' => e = .returned (.agg #[.int .u64 (U (tidyB b).ul), .int .u64 (U (tidyB b).uh), .int .i64 (S (tidyB b).sl), .int .i64 (S (tidyB b).sh), .int .u64 (U (tidyB b).t.v), .int .u64 (U (tidyB b).t.m)]) ∧ Below w.heap.size w w' := by
  go_enter Try.func57, Try.ntmps57
  go_wp2_with fail
  go_quiet (fail)
  go_wp2_with fail
  exact bodyPost_ret (v := .agg #[.int .u64 (U (tidyB b).ul), .int .u64 (U (tidyB b).uh), .int .i64 (S (tidyB b).sl), .int .i64 (S (tidyB b).sh), .int .u64 (U (tidyB b).t.v), .int .u64 (U (tidyB b).t.m)]) (by simp [results, Try.results57, go_sem, tidyB, tlo, thi]) rfl ⟨rfl, set6 ((((((bdrewN b2 _).setCell (by simp) _).setCell (by simp) _).setCell (by simp) _).setCell (by simp) _)) (by omega)⟩
set_option maxHeartbeats 2000000 in
theorem bysigns_any (b : Bd) (w : World) : Calls Try.prog 58 #[.agg #[.int .u64 (U b.ul), .int .u64 (U b.uh), .int .i64 (S b.sl), .int .i64 (S b.sh), .int .u64 (U b.t.v), .int .u64 (U b.t.m)]] w fun e w' => e = .returned (.agg #[.int .u64 (U (tidyS b).ul), .int .u64 (U (tidyS b).uh), .int .i64 (S (tidyS b).sl), .int .i64 (S (tidyS b).sh), .int .u64 (U (tidyS b).t.v), .int .u64 (U (tidyS b).t.m)]) ∧ Below w.heap.size w w' := by
  by_cases h1 : 0 ≤ S b.sl
  · rw [tidyS_1 (.inl h1)]
    go_enter Try.func58, Try.ntmps58
    go_wp2_with fail
    exact bodyPost_ret (v := .agg #[.int .u64 (U ((⟨umax b.ul b.sl, umin b.uh b.sh, umax b.ul b.sl, umin b.uh b.sh, b.t⟩ : Bd)).ul), .int .u64 (U ((⟨umax b.ul b.sl, umin b.uh b.sh, umax b.ul b.sl, umin b.uh b.sh, b.t⟩ : Bd)).uh), .int .i64 (S ((⟨umax b.ul b.sl, umin b.uh b.sh, umax b.ul b.sl, umin b.uh b.sh, b.t⟩ : Bd)).sl), .int .i64 (S ((⟨umax b.ul b.sl, umin b.uh b.sh, umax b.ul b.sl, umin b.uh b.sh, b.t⟩ : Bd)).sh), .int .u64 (U ((⟨umax b.ul b.sl, umin b.uh b.sh, umax b.ul b.sl, umin b.uh b.sh, b.t⟩ : Bd)).t.v), .int .u64 (U ((⟨umax b.ul b.sl, umin b.uh b.sh, umax b.ul b.sl, umin b.uh b.sh, b.t⟩ : Bd)).t.m)]) (by simp [results, Try.results58, go_sem]) rfl ⟨rfl, b2⟩
  · have h1' : S b.sl < 0 := by omega
    by_cases h2 : S b.sh < 0
    · rw [tidyS_1 (.inr h2)]
      go_enter Try.func58, Try.ntmps58
      go_wp2_with fail
      exact bodyPost_ret (v := .agg #[.int .u64 (U ((⟨umax b.ul b.sl, umin b.uh b.sh, umax b.ul b.sl, umin b.uh b.sh, b.t⟩ : Bd)).ul), .int .u64 (U ((⟨umax b.ul b.sl, umin b.uh b.sh, umax b.ul b.sl, umin b.uh b.sh, b.t⟩ : Bd)).uh), .int .i64 (S ((⟨umax b.ul b.sl, umin b.uh b.sh, umax b.ul b.sl, umin b.uh b.sh, b.t⟩ : Bd)).sl), .int .i64 (S ((⟨umax b.ul b.sl, umin b.uh b.sh, umax b.ul b.sl, umin b.uh b.sh, b.t⟩ : Bd)).sh), .int .u64 (U ((⟨umax b.ul b.sl, umin b.uh b.sh, umax b.ul b.sl, umin b.uh b.sh, b.t⟩ : Bd)).t.v), .int .u64 (U ((⟨umax b.ul b.sl, umin b.uh b.sh, umax b.ul b.sl, umin b.uh b.sh, b.t⟩ : Bd)).t.m)]) (by simp [results, Try.results58, go_sem]) rfl ⟨rfl, b2⟩
    · have h2' : 0 ≤ S b.sh := by omega
      by_cases h3 : 0 ≤ S b.uh
      · rw [tidyS_2 h1' h2' h3]
        go_enter Try.func58, Try.ntmps58
        go_wp2_with fail
        exact bodyPost_ret (v := .agg #[.int .u64 (U ((⟨b.ul, smin b.sh b.uh, b.ul, smin b.sh b.uh, b.t⟩ : Bd)).ul), .int .u64 (U ((⟨b.ul, smin b.sh b.uh, b.ul, smin b.sh b.uh, b.t⟩ : Bd)).uh), .int .i64 (S ((⟨b.ul, smin b.sh b.uh, b.ul, smin b.sh b.uh, b.t⟩ : Bd)).sl), .int .i64 (S ((⟨b.ul, smin b.sh b.uh, b.ul, smin b.sh b.uh, b.t⟩ : Bd)).sh), .int .u64 (U ((⟨b.ul, smin b.sh b.uh, b.ul, smin b.sh b.uh, b.t⟩ : Bd)).t.v), .int .u64 (U ((⟨b.ul, smin b.sh b.uh, b.ul, smin b.sh b.uh, b.t⟩ : Bd)).t.m)]) (by simp [results, Try.results58, go_sem]) rfl ⟨rfl, b2⟩
      · have h3' : S b.uh < 0 := by omega
        by_cases h4 : S b.ul < 0
        · rw [tidyS_3 h1' h2' h3' h4]
          go_enter Try.func58, Try.ntmps58
          go_wp2_with fail
          exact bodyPost_ret (v := .agg #[.int .u64 (U ((⟨smax b.sl b.ul, b.uh, smax b.sl b.ul, b.uh, b.t⟩ : Bd)).ul), .int .u64 (U ((⟨smax b.sl b.ul, b.uh, smax b.sl b.ul, b.uh, b.t⟩ : Bd)).uh), .int .i64 (S ((⟨smax b.sl b.ul, b.uh, smax b.sl b.ul, b.uh, b.t⟩ : Bd)).sl), .int .i64 (S ((⟨smax b.sl b.ul, b.uh, smax b.sl b.ul, b.uh, b.t⟩ : Bd)).sh), .int .u64 (U ((⟨smax b.sl b.ul, b.uh, smax b.sl b.ul, b.uh, b.t⟩ : Bd)).t.v), .int .u64 (U ((⟨smax b.sl b.ul, b.uh, smax b.sl b.ul, b.uh, b.t⟩ : Bd)).t.m)]) (by simp [results, Try.results58, go_sem]) rfl ⟨rfl, b2⟩
        · have h4' : 0 ≤ S b.ul := by omega
          rw [tidyS_4 h1' h2' h3' h4']
          go_enter Try.func58, Try.ntmps58
          go_wp2_with fail
          exact bodyPost_ret (v := .agg #[.int .u64 (U b.ul), .int .u64 (U b.uh), .int .i64 (S b.sl), .int .i64 (S b.sh), .int .u64 (U b.t.v), .int .u64 (U b.t.m)]) (by simp [results, Try.results58, go_sem]) rfl ⟨rfl, b2⟩
end Go.Proofs.Ytaolcmmdefchmaa
