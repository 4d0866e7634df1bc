/- Bounds: contracts of package bound: what is in one of two. -/
import Derived.Test.YtaolcmmdefchmaaWK
namespace Go.Proofs.Ytaolcmmdefchmaa
open Go.RowKit
attribute [local go_sem] b_and b_or b_xor b_andNot b_low b_top b_most b_signed b_unsigned b_zero b_eq s_eq b_nzero b_neq s_neq b_max b_min s_max s_min
attribute [local go_sem ↓] Go.wp_at_zero Go.wp_at_succ

set_option maxRecDepth 100000 in
set_option maxHeartbeats 4000000 in
theorem bjoin_any (a b : Bd) (w : World) : Calls Try.prog 16 #[.agg #[.int .u64 (U a.ul), .int .u64 (U a.uh), .int .i64 (S a.sl), .int .i64 (S a.sh), .int .u64 (U a.t.v), .int .u64 (U a.t.m)], .agg #[.int .u64 (U b.ul), .int .u64 (U b.uh), .int .i64 (S b.sl), .int .i64 (S b.sh), .int .u64 (U b.t.v), .int .u64 (U b.t.m)]] w fun e w' => e = .returned (.agg #[.int .u64 (U (bjoin a b).ul), .int .u64 (U (bjoin a b).uh), .int .i64 (S (bjoin a b).sl), .int .i64 (S (bjoin a b).sh), .int .u64 (U (bjoin a b).t.v), .int .u64 (U (bjoin a b).t.m)]) ∧ Below w.heap.size w w' := by
  have H := Lib.hid (fun W => tjoin_any a.t b.t W)
  generalize hv : tjoin a.t b.t = t at *
  have HV := Lib.hid (show bjoin a b = ⟨umin a.ul b.ul, umax a.uh b.uh, smin a.sl b.sl, smax a.sh b.sh, t⟩ by rw [← hv]; rfl)
  rw [HV.out]
  clear hv
  go_enter Try.func16, Try.ntmps16
  go_wp2_with fail
  refine wp_region_held_drew (S := (fun W => W.cell? ⟨w.heap.size, 0, none⟩ = some (.int .u64 (U a.ul)) ∧ W.cell? ⟨w.heap.size, 1, none⟩ = some (.int .u64 (U a.uh)) ∧ W.cell? ⟨w.heap.size, 2, none⟩ = some (.int .i64 (S a.sl)) ∧ W.cell? ⟨w.heap.size, 3, none⟩ = some (.int .i64 (S a.sh)) ∧ W.cell? ⟨w.heap.size, 4, none⟩ = some (.int .u64 (U a.t.v)) ∧ W.cell? ⟨w.heap.size, 5, none⟩ = some (.int .u64 (U a.t.m)) ∧ W.cell? ⟨w.heap.size + 1, 0, none⟩ = some (.int .u64 (U b.ul)) ∧ W.cell? ⟨w.heap.size + 1, 1, none⟩ = some (.int .u64 (U b.uh)) ∧ W.cell? ⟨w.heap.size + 1, 2, none⟩ = some (.int .i64 (S b.sl)) ∧ W.cell? ⟨w.heap.size + 1, 3, none⟩ = some (.int .i64 (S b.sh)) ∧ W.cell? ⟨w.heap.size + 1, 4, none⟩ = some (.int .u64 (U b.t.v)) ∧ W.cell? ⟨w.heap.size + 1, 5, none⟩ = some (.int .u64 (U b.t.m)))) (by kernel_rfl) (Twelve.of (box_ab w a b _ _ _).1.drew (box_ab w a b _ _ _).2.drew) (fun hHeld => ?_)
  refine takeYes (i := 0) (v := ?v0) (some 5) rfl rfl (by kernel_rfl) (by kernel_rfl) (by kernel_rfl) (fun _ _ _ h => h) (by rfl) ?y0 hHeld ?r0
  case y0 =>
    intro w hSw
    try dsimp only at hSw
    go_simp
    try (with_reducible rfl)
  case r0 =>
  try simp only [Act.put, List.setIfInBounds_toArray, List.set_cons_zero, List.set_cons_succ]
  refine takeYes (i := 1) (v := ?v1) (some 6) rfl rfl (by kernel_rfl) (by kernel_rfl) (by kernel_rfl) (fun _ _ _ h => h) (by rfl) ?y1 hHeld ?r1
  case y1 =>
    intro w hSw
    try dsimp only at hSw
    go_simp
    try (with_reducible rfl)
  case r1 =>
  try simp only [Act.put, List.setIfInBounds_toArray, List.set_cons_zero, List.set_cons_succ]
  refine takeYes (i := 2) (v := ?v2) (some 7) rfl rfl (by kernel_rfl) (by kernel_rfl) (by kernel_rfl) (fun _ _ _ h => h) (by rfl) ?y2 hHeld ?r2
  case y2 =>
    intro w hSw
    try dsimp only at hSw
    go_simp
    try (with_reducible rfl)
  case r2 =>
  try simp only [Act.put, List.setIfInBounds_toArray, List.set_cons_zero, List.set_cons_succ]
  refine takeYes (i := 3) (v := ?v3) (some 8) rfl rfl (by kernel_rfl) (by kernel_rfl) (by kernel_rfl) (fun _ _ _ h => h) (by rfl) ?y3 hHeld ?r3
  case y3 =>
    intro w hSw
    try dsimp only at hSw
    go_simp
    try (with_reducible rfl)
  case r3 =>
  try simp only [Act.put, List.setIfInBounds_toArray, List.set_cons_zero, List.set_cons_succ]
  refine takeYes (i := 4) (v := ?v4) (some 9) rfl rfl (by kernel_rfl) (by kernel_rfl) (by kernel_rfl) (fun _ _ _ h => h) (by rfl) ?y4 hHeld ?r4
  case y4 =>
    intro w hSw
    try dsimp only at hSw
    go_simp
    try (with_reducible rfl)
  case r4 =>
  try simp only [Act.put, List.setIfInBounds_toArray, List.set_cons_zero, List.set_cons_succ]
  refine takeYes (i := 5) (v := ?v5) (some 10) rfl rfl (by kernel_rfl) (by kernel_rfl) (by kernel_rfl) (fun _ _ _ h => h) (by rfl) ?y5 hHeld ?r5
  case y5 =>
    intro w hSw
    try dsimp only at hSw
    go_simp
    try (with_reducible rfl)
  case r5 =>
  try simp only [Act.put, List.setIfInBounds_toArray, List.set_cons_zero, List.set_cons_succ]
  refine takeYes (i := 6) (v := ?v6) (some 11) rfl rfl (by kernel_rfl) (by kernel_rfl) (by kernel_rfl) (fun _ _ _ h => h) (by rfl) ?y6 hHeld ?r6
  case y6 =>
    intro w hSw
    try dsimp only at hSw
    go_simp
    try (with_reducible rfl)
  case r6 =>
  try simp only [Act.put, List.setIfInBounds_toArray, List.set_cons_zero, List.set_cons_succ]
  refine takeYes (i := 7) (v := ?v7) (some 12) rfl rfl (by kernel_rfl) (by kernel_rfl) (by kernel_rfl) (fun _ _ _ h => h) (by rfl) ?y7 hHeld ?r7
  case y7 =>
    intro w hSw
    try dsimp only at hSw
    go_simp
    try (with_reducible rfl)
  case r7 =>
  try simp only [Act.put, List.setIfInBounds_toArray, List.set_cons_zero, List.set_cons_succ]
  refine takeYes (i := 8) (v := ?v8) (some 13) rfl rfl (by kernel_rfl) (by kernel_rfl) (by kernel_rfl) (fun _ _ _ h => h) (by rfl) ?y8 hHeld ?r8
  case y8 =>
    intro w hSw
    try dsimp only at hSw
    go_simp
    try (with_reducible rfl)
  case r8 =>
  try simp only [Act.put, List.setIfInBounds_toArray, List.set_cons_zero, List.set_cons_succ]
  refine takeYes (i := 9) (v := ?v9) (some 14) rfl rfl (by kernel_rfl) (by kernel_rfl) (by kernel_rfl) (fun _ _ _ h => h) (by rfl) ?y9 hHeld ?r9
  case y9 =>
    intro w hSw
    try dsimp only at hSw
    go_simp
    try (with_reducible rfl)
  case r9 =>
  try simp only [Act.put, List.setIfInBounds_toArray, List.set_cons_zero, List.set_cons_succ]
  refine takeYes (i := 10) (v := ?v10) (some 15) rfl rfl (by kernel_rfl) (by kernel_rfl) (by kernel_rfl) (fun _ _ _ h => h) (by rfl) ?y10 hHeld ?r10
  case y10 =>
    intro w hSw
    try dsimp only at hSw
    go_simp
    try (with_reducible rfl)
  case r10 =>
  try simp only [Act.put, List.setIfInBounds_toArray, List.set_cons_zero, List.set_cons_succ]
  refine takeYes (i := 11) (v := ?v11) (some 16) rfl rfl (by kernel_rfl) (by kernel_rfl) (by kernel_rfl) (fun _ _ _ h => h) (by rfl) ?y11 hHeld ?r11
  case y11 =>
    intro w hSw
    try dsimp only at hSw
    go_simp
    try (with_reducible rfl)
  case r11 =>
  try simp only [Act.put, List.setIfInBounds_toArray, List.set_cons_zero, List.set_cons_succ]
  refine takeYes (i := 12) (v := ?v12) (some 17) rfl rfl (by kernel_rfl) (by kernel_rfl) (by kernel_rfl) (fun _ _ _ h => h) (by rfl) ?y12 hHeld ?r12
  case y12 =>
    intro w hSw
    try dsimp only at hSw
    go_simp
    try (with_reducible rfl)
  case r12 =>
  try simp only [Act.put, List.setIfInBounds_toArray, List.set_cons_zero, List.set_cons_succ]
  refine takeYes (i := 13) (v := ?v13) (some 18) rfl rfl (by kernel_rfl) (by kernel_rfl) (by kernel_rfl) (fun _ _ _ h => h) (by rfl) ?y13 hHeld ?r13
  case y13 =>
    intro w hSw
    try dsimp only at hSw
    go_simp
    try (with_reducible rfl)
  case r13 =>
  try simp only [Act.put, List.setIfInBounds_toArray, List.set_cons_zero, List.set_cons_succ]
  refine takeYes (i := 14) (v := ?v14) (some 19) rfl rfl (by kernel_rfl) (by kernel_rfl) (by kernel_rfl) (fun _ _ _ h => h) (by rfl) ?y14 hHeld ?r14
  case y14 =>
    intro w hSw
    try dsimp only at hSw
    go_simp
    try (with_reducible rfl)
  case r14 =>
  try simp only [Act.put, List.setIfInBounds_toArray, List.set_cons_zero, List.set_cons_succ]
  refine takeYes (i := 15) (v := ?v15) (some 20) rfl rfl (by kernel_rfl) (by kernel_rfl) (by kernel_rfl) (fun _ _ _ h => h) (by rfl) ?y15 hHeld ?r15
  case y15 =>
    intro w hSw
    try dsimp only at hSw
    go_simp
    try (with_reducible rfl)
  case r15 =>
  try simp only [Act.put, List.setIfInBounds_toArray, List.set_cons_zero, List.set_cons_succ]
  refine takeYes (i := 16) (v := ?v16) (some 21) rfl rfl (by kernel_rfl) (by kernel_rfl) (by kernel_rfl) (fun _ _ _ h => h) (by rfl) ?y16 hHeld ?r16
  case y16 =>
    intro w hSw
    try dsimp only at hSw
    go_simp
    try (with_reducible rfl)
  case r16 =>
  try simp only [Act.put, List.setIfInBounds_toArray, List.set_cons_zero, List.set_cons_succ]
  refine takeYes (i := 17) (v := ?v17) (some 22) rfl rfl (by kernel_rfl) (by kernel_rfl) (by kernel_rfl) (fun _ _ _ h => h) (by rfl) ?y17 hHeld ?r17
  case y17 =>
    intro w hSw
    try dsimp only at hSw
    go_simp
    try (with_reducible rfl)
  case r17 =>
  try simp only [Act.put, List.setIfInBounds_toArray, List.set_cons_zero, List.set_cons_succ]
  refine takeYes (i := 18) (v := ?v18) (some 23) rfl rfl (by kernel_rfl) (by kernel_rfl) (by kernel_rfl) (fun _ _ _ h => h) (by rfl) ?y18 hHeld ?r18
  case y18 =>
    intro w hSw
    try dsimp only at hSw
    go_simp
    try (with_reducible rfl)
  case r18 =>
  try simp only [Act.put, List.setIfInBounds_toArray, List.set_cons_zero, List.set_cons_succ]
  refine takeYes (i := 19) (v := ?v19) (some 24) rfl rfl (by kernel_rfl) (by kernel_rfl) (by kernel_rfl) (fun _ _ _ h => h) (by rfl) ?y19 hHeld ?r19
  case y19 =>
    intro w hSw
    try dsimp only at hSw
    go_simp
    try (with_reducible rfl)
  case r19 =>
  try simp only [Act.put, List.setIfInBounds_toArray, List.set_cons_zero, List.set_cons_succ]
  refine takeYes (i := 20) (v := ?v20) (some 25) rfl rfl (by kernel_rfl) (by kernel_rfl) (by kernel_rfl) (fun _ _ _ h => h) (by rfl) ?y20 hHeld ?r20
  case y20 =>
    intro w hSw
    try dsimp only at hSw
    go_simp
    try (with_reducible rfl)
  case r20 =>
  try simp only [Act.put, List.setIfInBounds_toArray, List.set_cons_zero, List.set_cons_succ]
  refine takeYes (i := 21) (v := ?v21) (some 26) rfl rfl (by kernel_rfl) (by kernel_rfl) (by kernel_rfl) (fun _ _ _ h => h) (by rfl) ?y21 hHeld ?r21
  case y21 =>
    intro w hSw
    try dsimp only at hSw
    go_simp
    try (with_reducible rfl)
  case r21 =>
  try simp only [Act.put, List.setIfInBounds_toArray, List.set_cons_zero, List.set_cons_succ]
  refine takeYes (i := 22) (v := ?v22) (some 27) rfl rfl (by kernel_rfl) (by kernel_rfl) (by kernel_rfl) (fun _ _ _ h => h) (by rfl) ?y22 hHeld ?r22
  case y22 =>
    intro w hSw
    try dsimp only at hSw
    go_simp
    try (with_reducible rfl)
  case r22 =>
  try simp only [Act.put, List.setIfInBounds_toArray, List.set_cons_zero, List.set_cons_succ]
  refine takeYes (i := 23) (v := ?v23) (some 28) rfl rfl (by kernel_rfl) (by kernel_rfl) (by kernel_rfl) (fun _ _ _ h => h) (by rfl) ?y23 hHeld ?r23
  case y23 =>
    intro w hSw
    try dsimp only at hSw
    go_simp
    try (with_reducible rfl)
  case r23 =>
  try simp only [Act.put, List.setIfInBounds_toArray, List.set_cons_zero, List.set_cons_succ]
  refine wpAnyH_ready (rs := [24]) (by kernel_rfl) (by simp) ?_
  refine AllReadyH.cons rfl (fun K hK => ?_) AllReadyH.nil
  go_simp
  go_at_call 39
  refine (H.out _).mono ?_
  rintro e w1 ⟨rfl, hb⟩
  have B1 := Lib.hid (bl3 (bdrewA3 hb))
  have X1 := Lib.hid ((box_ab w a b _ _ _).1.next (bdrewA3 hb))
  have X2 := Lib.hid ((box_ab w a b _ _ _).2.next (bdrewA3 hb))
  have K2 := bcell hb
  clear hb
  try dsimp only
  refine hK.out _ _ (Twelve.of X1.out X2.out) (fun hHeld2 => ?_)
  clear hK K
  try simp only [Act.put, List.setIfInBounds_toArray, List.set_cons_zero, List.set_cons_succ]
  refine takeYes (i := 25) (v := ?v25) (some 30) rfl rfl (by kernel_rfl) (by kernel_rfl) (by kernel_rfl) (fun _ _ _ h => h) (by rfl) ?y25 hHeld2 ?r25
  case y25 =>
    intro w hSw
    try dsimp only at hSw
    go_simp
    try (with_reducible rfl)
  case r25 =>
  try simp only [Act.put, List.setIfInBounds_toArray, List.set_cons_zero, List.set_cons_succ]
  refine wpAnyH_ready (rs := [26]) (by kernel_rfl) (by simp) ?_
  refine AllReadyH.cons rfl (fun K hK => ?_) AllReadyH.nil
  go_simp
  refine hK.out _ _ (twelve_set6 X1.out X2.out) (fun hHeld3 => ?_)
  clear hK K
  try simp only [Act.put, List.setIfInBounds_toArray, List.set_cons_zero, List.set_cons_succ]
  refine wpAnyH_done (by kernel_rfl) ?_ _
  go_wp2
  have hz := B1.out.2
  exact bodyPost_ret (v := .agg #[.int .u64 (U ((⟨umin a.ul b.ul, umax a.uh b.uh, smin a.sl b.sl, smax a.sh b.sh, t⟩ : Bd)).ul), .int .u64 (U ((⟨umin a.ul b.ul, umax a.uh b.uh, smin a.sl b.sl, smax a.sh b.sh, t⟩ : Bd)).uh), .int .i64 (S ((⟨umin a.ul b.ul, umax a.uh b.uh, smin a.sl b.sl, smax a.sh b.sh, t⟩ : Bd)).sl), .int .i64 (S ((⟨umin a.ul b.ul, umax a.uh b.uh, smin a.sl b.sl, smax a.sh b.sh, t⟩ : Bd)).sh), .int .u64 (U ((⟨umin a.ul b.ul, umax a.uh b.uh, smin a.sl b.sl, smax a.sh b.sh, t⟩ : Bd)).t.v), .int .u64 (U ((⟨umin a.ul b.ul, umax a.uh b.uh, smin a.sl b.sl, smax a.sh b.sh, t⟩ : Bd)).t.m)]) (by simp [results, Try.results16, go_sem, K2]) rfl ⟨rfl, set6 B1.out.1 (by omega)⟩
end Go.Proofs.Ytaolcmmdefchmaa
