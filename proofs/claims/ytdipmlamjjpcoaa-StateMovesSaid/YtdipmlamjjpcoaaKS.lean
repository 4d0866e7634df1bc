/- States: package state's Load. -/
import Derived.Test.YtdipmlamjjpcoaaKR
import Derived.Test.YtdipmlamjjpcoaaGL
namespace Go.Proofs.Ytdipmlamjjpcoaa
open Go.RowKit
attribute [local go_sem] b_and b_or b_xor b_andNot b_low b_top b_most b_signed b_unsigned b_zero b_eq s_eq b_nzero b_neq s_neq b_max b_min s_max s_min
attribute [local go_sem ↓] Go.wp_at_zero Go.wp_at_succ

/-- the boxes of Load: the state, the answer's place, the access -/
structure Ld (w W : World) (v0 v1 v2 : Value) (lo hi n : Int) : Prop where
  ld : Lo w W v0 v1 v2
  b2 : Box W (w.heap.size + 2) [.int .i64 lo, .int .i64 hi, .int .i64 n]
theorem Ld.next {w W W' : World} {v0 v1 v2 : Value} {lo hi n : Int} (h : Ld w W v0 v1 v2 lo hi n) (hb : Below W.heap.size W W') : Ld w W' v0 v1 v2 lo hi n := ⟨h.ld.next hb, h.b2.next hb⟩
theorem Ld.drew {w W : World} {v0 v1 v2 : Value} {lo hi n : Int} (h : Ld w W v0 v1 v2 lo hi n) : Ld w W.drew v0 v1 v2 lo hi n := h.next (Below.refl _ _).drew
theorem Ld.new (w : World) (v0 v1 v2 : Value) (lo hi n : Int) (t t' t'' : TypeId) : Ld w (((w.alloc (.cells #[v0, v1, v2] t)).alloc (.cells #[.int .i64 0, .int .u64 0, .int .u64 0, .int .i64 0, .int .i64 0, .int .u64 0, .int .u64 0, .int .i64 0] t')).alloc (.cells #[.int .i64 lo, .int .i64 hi, .int .i64 n] t'')) v0 v1 v2 lo hi n :=
  ⟨(Lo.new w v0 v1 v2 t t').next ((Below.refl _ _).alloc (Nat.le_refl _) _), Box.new ((w.alloc (.cells #[v0, v1, v2] t)).alloc (.cells #[.int .i64 0, .int .u64 0, .int .u64 0, .int .i64 0, .int .i64 0, .int .u64 0, .int .u64 0, .int .i64 0] t')) [.int .i64 lo, .int .i64 hi, .int .i64 n] t'' (by rw [World.size_alloc, World.size_alloc])⟩
/-- what the walk reads -/
theorem Ld.f {w W : World} {v0 v1 v2 : Value} {lo hi n : Int} (h : Ld w W v0 v1 v2 lo hi n) :
    (((W.cell? ⟨w.heap.size, 0, none⟩ = some v0 ∧ W.cell? ⟨w.heap.size, 1, none⟩ = some v1 ∧ W.cell? ⟨w.heap.size, 2, none⟩ = some v2) ∧ (∀ i, W.frozen? ⟨w.heap.size, i, none⟩ = false) ∧ w.heap.size < W.heap.size) ∧
    (W.cell? ⟨w.heap.size + 1, 0, none⟩ = some (.int .i64 0) ∧ W.cell? ⟨w.heap.size + 1, 1, none⟩ = some (.int .u64 0) ∧ W.cell? ⟨w.heap.size + 1, 2, none⟩ = some (.int .u64 0) ∧ W.cell? ⟨w.heap.size + 1, 3, none⟩ = some (.int .i64 0) ∧ W.cell? ⟨w.heap.size + 1, 4, none⟩ = some (.int .i64 0) ∧ W.cell? ⟨w.heap.size + 1, 5, none⟩ = some (.int .u64 0) ∧ W.cell? ⟨w.heap.size + 1, 6, none⟩ = some (.int .u64 0) ∧ W.cell? ⟨w.heap.size + 1, 7, none⟩ = some (.int .i64 0)) ∧ (∀ i, W.frozen? ⟨w.heap.size + 1, i, none⟩ = false) ∧ w.heap.size + 1 < W.heap.size) ∧
    ((W.cell? ⟨w.heap.size + 2, 0, none⟩ = some (.int .i64 lo) ∧ W.cell? ⟨w.heap.size + 2, 1, none⟩ = some (.int .i64 hi) ∧ W.cell? ⟨w.heap.size + 2, 2, none⟩ = some (.int .i64 n)) ∧ (∀ i, W.frozen? ⟨w.heap.size + 2, i, none⟩ = false) ∧ w.heap.size + 2 < W.heap.size) := ⟨h.ld.f, h.b2.three⟩
theorem Ld.s {w W : World} {v0 v1 v2 : Value} {lo hi n : Int} (h : Ld w W v0 v1 v2 lo hi n) :
    (W.cell? ⟨w.heap.size, 0, none⟩ = some v0 ∧ W.cell? ⟨w.heap.size, 1, none⟩ = some v1 ∧ W.cell? ⟨w.heap.size, 2, none⟩ = some v2) ∧ W.cell? ⟨w.heap.size + 2, 0, none⟩ = some (.int .i64 lo) ∧ W.cell? ⟨w.heap.size + 2, 1, none⟩ = some (.int .i64 hi) ∧ W.cell? ⟨w.heap.size + 2, 2, none⟩ = some (.int .i64 n) := ⟨h.ld.bx.three.1, h.b2.three.1⟩
theorem below_put8s {w W : World} {m : Nat} (h : Below w.heap.size w W) (hm : w.heap.size ≤ m) (u0 u1 u2 u3 u4 u5 u6 u7 : Value) : Below w.heap.size w ((((((((W.setCell ⟨m, 0, none⟩ u0).setCell ⟨m, 1, none⟩ u1).setCell ⟨m, 2, none⟩ u2).setCell ⟨m, 3, none⟩ u3).setCell ⟨m, 4, none⟩ u4).setCell ⟨m, 5, none⟩ u5).setCell ⟨m, 6, none⟩ u6).setCell ⟨m, 7, none⟩ u7) :=
  (((((((h.setCell (p := ⟨m, 0, none⟩) hm _).setCell (p := ⟨m, 1, none⟩) hm _).setCell (p := ⟨m, 2, none⟩) hm _).setCell (p := ⟨m, 3, none⟩) hm _).setCell (p := ⟨m, 4, none⟩) hm _).setCell (p := ⟨m, 5, none⟩) hm _).setCell (p := ⟨m, 6, none⟩) hm _).setCell (p := ⟨m, 7, none⟩) hm _
set_option maxRecDepth 100000 in
set_option maxHeartbeats 1000000 in
theorem sload_i (A : AbA) (s : Ab) (low high n : Int) (hn : n ≤ 9223372036854775807) (w : World) (hi : insB low high n = false) : Calls Try.prog 12 #[.agg #[.slice A.p1 s.regs.length A.c1, .slice A.p2 s.set.length A.c2, .slice A.p3 s.saved.length A.c3], .int .i64 low, .int .i64 high, .int .i64 n] w fun e w' => e = .returned (.tuple #[.agg #[.int .i64 0, .int .u64 0, .int .u64 0, .int .i64 0, .int .i64 0, .int .u64 0, .int .u64 0, .int .i64 0], .bool false]) ∧ Below w.heap.size w w' := by
  have HIN := Lib.hid (fun (W : World) => sins_any low high n hn W)
  rw [hi] at HIN
  clear hi hn
  generalize s.regs.length = N1 at *
  generalize s.set.length = N2 at *
  generalize s.saved.length = N3 at *
  have HN := Lib.hid ((Ld.new w (.slice A.p1 N1 A.c1) (.slice A.p2 N2 A.c2) (.slice A.p3 N3 A.c3) low high n 25 33 56).drew)
  go_enter Try.func12, Try.ntmps12
  go_wp2_with fail
  refine wp_region_held_drew (S := (fun W => (W.cell? ⟨w.heap.size, 0, none⟩ = some (.slice A.p1 N1 A.c1) ∧ W.cell? ⟨w.heap.size, 1, none⟩ = some (.slice A.p2 N2 A.c2) ∧ W.cell? ⟨w.heap.size, 2, none⟩ = some (.slice A.p3 N3 A.c3)) ∧ W.cell? ⟨w.heap.size + 2, 0, none⟩ = some (.int .i64 low) ∧ W.cell? ⟨w.heap.size + 2, 1, none⟩ = some (.int .i64 high) ∧ W.cell? ⟨w.heap.size + 2, 2, none⟩ = some (.int .i64 n))) (by kernel_rfl) HN.out.s (fun hHeld => ?_)
  refine takeYes (i := 0) (v := ?v0) (some 17) rfl rfl (by kernel_rfl) (by kernel_rfl) (by kernel_rfl) (fun _ _ _ h => h) (by rfl) ?y0 hHeld ?r0
  case y0 =>
    intro w hSw
    try dsimp only at hSw
    go_simp
    try (with_reducible rfl)
  case r0 =>
  try simp only [Act.put, List.setIfInBounds_toArray, List.set_cons_zero, List.set_cons_succ]
  refine wpAnyH_ready (rs := [1]) (by kernel_rfl) (by simp) ?_
  refine AllReadyH.cons rfl (fun K hK => ?_) AllReadyH.nil
  go_simp
  go_at_call 32
  refine (HIN.out _).mono ?_
  rintro e w1 ⟨rfl, hb⟩
  have H' := Lib.hid (HN.out.next hb)
  clear hb HN hHeld
  have HN := H'
  clear H'
  have F := HN.out.f
  try dsimp only
  refine hK.out _ _ HN.out.s (fun hHeld2 => ?_)
  clear hK K
  try simp only [Act.put, List.setIfInBounds_toArray, List.set_cons_zero, List.set_cons_succ]
  refine takeYes (i := 2) (v := ?v2) (some 19) rfl rfl (by kernel_rfl) (by kernel_rfl) (by kernel_rfl) (fun _ _ _ h => h) (by rfl) ?y2 hHeld2 ?r2
  case y2 =>
    intro w hSw
    try dsimp only at hSw
    go_simp
    try (with_reducible rfl)
  case r2 =>
  try simp only [Act.put, List.setIfInBounds_toArray, List.set_cons_zero, List.set_cons_succ]
  refine takeYes (i := 3) (v := ?v3) (some 20) rfl rfl (by kernel_rfl) (by kernel_rfl) (by kernel_rfl) (fun _ _ _ h => h) (by rfl) ?y3 hHeld2 ?r3
  case y3 =>
    intro w hSw
    try dsimp only at hSw
    go_simp
    try (with_reducible rfl)
  case r3 =>
  try simp only [Act.put, List.setIfInBounds_toArray, List.set_cons_zero, List.set_cons_succ]
  refine takeNo (i := 4) (some 21) rfl rfl (by kernel_rfl) (by kernel_rfl) (by kernel_rfl) (fun _ _ _ h => h) (by rfl) hHeld2 ?_
  try simp only [Act.put, List.setIfInBounds_toArray, List.set_cons_zero, List.set_cons_succ]
  refine takeNo (i := 5) (some 22) rfl rfl (by kernel_rfl) (by kernel_rfl) (by kernel_rfl) (fun _ _ _ h => h) (by rfl) hHeld2 ?_
  try simp only [Act.put, List.setIfInBounds_toArray, List.set_cons_zero, List.set_cons_succ]
  refine takeNo (i := 6) (some 23) rfl rfl (by kernel_rfl) (by kernel_rfl) (by kernel_rfl) (fun _ _ _ h => h) (by rfl) hHeld2 ?_
  try simp only [Act.put, List.setIfInBounds_toArray, List.set_cons_zero, List.set_cons_succ]
  refine takeNo (i := 7) (some 24) rfl rfl (by kernel_rfl) (by kernel_rfl) (by kernel_rfl) (fun _ _ _ h => h) (by rfl) hHeld2 ?_
  try simp only [Act.put, List.setIfInBounds_toArray, List.set_cons_zero, List.set_cons_succ]
  refine takeNo (i := 8) (some 25) rfl rfl (by kernel_rfl) (by kernel_rfl) (by kernel_rfl) (fun _ _ _ h => h) (by rfl) hHeld2 ?_
  try simp only [Act.put, List.setIfInBounds_toArray, List.set_cons_zero, List.set_cons_succ]
  refine takeNo (i := 9) (some 26) rfl rfl (by kernel_rfl) (by kernel_rfl) (by kernel_rfl) (fun _ _ _ h => h) (by rfl) hHeld2 ?_
  try simp only [Act.put, List.setIfInBounds_toArray, List.set_cons_zero, List.set_cons_succ]
  refine takeYes (i := 10) (v := ?v10) (some 27) rfl rfl (by kernel_rfl) (by kernel_rfl) (by kernel_rfl) (fun _ _ _ h => h) (by rfl) ?y10 hHeld2 ?r10
  case y10 =>
    intro w hSw
    try dsimp only at hSw
    go_simp
    try (with_reducible rfl)
  case r10 =>
  try simp only [Act.put, List.setIfInBounds_toArray, List.set_cons_zero, List.set_cons_succ]
  refine wpAnyH_done (by kernel_rfl) ?_ _
  go_wp2_with fail
  exact bodyPost_ret (v := .tuple #[.agg #[.int .i64 0, .int .u64 0, .int .u64 0, .int .i64 0, .int .i64 0, .int .u64 0, .int .u64 0, .int .i64 0], .bool false]) (by simp [results, Try.results12, go_sem, F]) rfl ⟨rfl, below_put8s HN.out.ld.low (Nat.le_succ _) _ _ _ _ _ _ _ _⟩
set_option maxRecDepth 100000 in
set_option maxHeartbeats 2000000 in
theorem sload_r (A : AbA) (s : Ab) (a b c : Nat) (hn : (c : Int) ≤ 9223372036854775807) (w : World) (h : AbAt w A s) (hi : insB (a : Int) (b : Int) (c : Int) = true) (hr : readyS s (a : Int) ((b : Int) + (c : Int)) = false) : Calls Try.prog 12 #[.agg #[.slice A.p1 s.regs.length A.c1, .slice A.p2 s.set.length A.c2, .slice A.p3 s.saved.length A.c3], .int .i64 (a : Int), .int .i64 (b : Int), .int .i64 (c : Int)] w fun e w' => e = .returned (.tuple #[.agg #[.int .i64 0, .int .u64 0, .int .u64 0, .int .i64 0, .int .i64 0, .int .u64 0, .int .u64 0, .int .i64 0], .bool false]) ∧ Below w.heap.size w w' := by
  have HIN := Lib.hid (fun (W : World) => sins_any (a : Int) (b : Int) (c : Int) hn W)
  rw [hi] at HIN
  have hb5 : b + c ≤ 512 := by have := of_decide_eq_true hi; omega
  have HEN := Lib.hid (fun W => send_any (a : Int) b c (by omega) (by omega) W)
  have HRD := Lib.hid (fun (W : World) (hb : Below w.heap.size w W) => srdy_any A s (a : Int) ((b : Int) + (c : Int)) W (h.below hb))
  rw [hr] at HRD
  clear hi hn hr hb5 h
  generalize s.regs.length = N1 at *
  generalize s.set.length = N2 at *
  generalize s.saved.length = N3 at *
  have HN := Lib.hid ((Ld.new w (.slice A.p1 N1 A.c1) (.slice A.p2 N2 A.c2) (.slice A.p3 N3 A.c3) (a : Int) (b : Int) (c : Int) 25 33 56).drew)
  have F := HN.out.f
  go_enter Try.func12, Try.ntmps12
  go_wp2_with fail
  go_region_held3 (fun W => (W.cell? ⟨w.heap.size, 0, none⟩ = some (.slice A.p1 N1 A.c1) ∧ W.cell? ⟨w.heap.size, 1, none⟩ = some (.slice A.p2 N2 A.c2) ∧ W.cell? ⟨w.heap.size, 2, none⟩ = some (.slice A.p3 N3 A.c3)) ∧ W.cell? ⟨w.heap.size + 2, 0, none⟩ = some (.int .i64 (a : Int)) ∧ W.cell? ⟨w.heap.size + 2, 1, none⟩ = some (.int .i64 (b : Int)) ∧ W.cell? ⟨w.heap.size + 2, 2, none⟩ = some (.int .i64 (c : Int)))
    (with_reducible exact HN.out.s)
    (first
    | (go_at_call 32; (with_reducible refine (HIN.out _).mono ?_); rintro e w1 ⟨rfl, hb⟩; have H' := Lib.hid (HN.out.next hb); clear hb HN F; have HN := H'; clear H'; have F := HN.out.f)
    | (go_at_call 36; (with_reducible refine (HEN.out _).mono ?_); rintro e w2 ⟨rfl, hb⟩; have H' := Lib.hid (HN.out.next hb); clear hb HN F; have HN := H'; clear H'; have F := HN.out.f)
    | (go_at_call 21; (with_reducible refine (HRD.out _ HN.out.ld.low).mono ?_); rintro e w3 ⟨rfl, hb⟩; have H' := Lib.hid (HN.out.next hb); clear hb HN F; have HN := H'; clear H'; have F := HN.out.f))
  all_goals
    go_wp2_with fail
    exact bodyPost_ret (v := .tuple #[.agg #[.int .i64 0, .int .u64 0, .int .u64 0, .int .i64 0, .int .i64 0, .int .u64 0, .int .u64 0, .int .i64 0], .bool false]) (by simp [results, Try.results12, go_sem, F]) rfl ⟨rfl, below_put8s HN.out.ld.low (Nat.le_succ _) _ _ _ _ _ _ _ _⟩
set_option maxRecDepth 100000 in
set_option maxHeartbeats 2000000 in
theorem sload_n (A : AbA) (s : Ab) (a b c : Nat) (hn : (c : Int) ≤ 9223372036854775807) (w : World) (h : AbAt w A s) (hi : insB (a : Int) (b : Int) (c : Int) = true) (hr : readyS s (a : Int) ((b : Int) + (c : Int)) = true) (hE : eightB a (b : Int) (c : Int) = false) (m : Bd) (hm : size11 (c : Int) = m) : Calls Try.prog 12 #[.agg #[.slice A.p1 s.regs.length A.c1, .slice A.p2 s.set.length A.c2, .slice A.p3 s.saved.length A.c3], .int .i64 (a : Int), .int .i64 (b : Int), .int .i64 (c : Int)] w fun e w' => e = .returned (.tuple #[.agg #[.int .i64 1, .int .u64 (U m.ul), .int .u64 (U m.uh), .int .i64 (S m.sl), .int .i64 (S m.sh), .int .u64 (U m.t.v), .int .u64 (U m.t.m), .int .i64 0], .bool true]) ∧ Below w.heap.size w w' := by
  have HIN := Lib.hid (fun (W : World) => sins_any (a : Int) (b : Int) (c : Int) hn W)
  rw [hi] at HIN
  have hb5 : b + c ≤ 512 := by have := of_decide_eq_true hi; omega
  have HEN := Lib.hid (fun W => send_any (a : Int) b c (by omega) (by omega) W)
  have HRD := Lib.hid (fun (W : World) (hb : Below w.heap.size w W) => srdy_any A s (a : Int) ((b : Int) + (c : Int)) W (h.below hb))
  rw [hr] at HRD
  have h8 := fun W => seight_any a (b : Int) (c : Int) (by have := of_decide_eq_true hi; omega) W
  rw [hE] at h8
  have HE8 := Lib.hid h8
  have hsz := fun W => bsize_any (c : Int) W
  rw [show bsize (c : Int) = m from hm] at hsz
  have HSZ := Lib.hid hsz
  clear hi hn hr hb5 h
  clear hE hm h8 hsz
  generalize s.regs.length = N1 at *
  generalize s.set.length = N2 at *
  generalize s.saved.length = N3 at *
  have HN := Lib.hid ((Ld.new w (.slice A.p1 N1 A.c1) (.slice A.p2 N2 A.c2) (.slice A.p3 N3 A.c3) (a : Int) (b : Int) (c : Int) 25 33 56).drew)
  have F := HN.out.f
  go_enter Try.func12, Try.ntmps12
  go_wp2_with fail
  go_region_held3 (fun W => (W.cell? ⟨w.heap.size, 0, none⟩ = some (.slice A.p1 N1 A.c1) ∧ W.cell? ⟨w.heap.size, 1, none⟩ = some (.slice A.p2 N2 A.c2) ∧ W.cell? ⟨w.heap.size, 2, none⟩ = some (.slice A.p3 N3 A.c3)) ∧ W.cell? ⟨w.heap.size + 2, 0, none⟩ = some (.int .i64 (a : Int)) ∧ W.cell? ⟨w.heap.size + 2, 1, none⟩ = some (.int .i64 (b : Int)) ∧ W.cell? ⟨w.heap.size + 2, 2, none⟩ = some (.int .i64 (c : Int)))
    (with_reducible exact HN.out.s)
    (first
    | (go_at_call 32; (with_reducible refine (HIN.out _).mono ?_); rintro e w1 ⟨rfl, hb⟩; have H' := Lib.hid (HN.out.next hb); clear hb HN F; have HN := H'; clear H'; have F := HN.out.f)
    | (go_at_call 36; (with_reducible refine (HEN.out _).mono ?_); rintro e w2 ⟨rfl, hb⟩; have H' := Lib.hid (HN.out.next hb); clear hb HN F; have HN := H'; clear H'; have F := HN.out.f)
    | (go_at_call 21; (with_reducible refine (HRD.out _ HN.out.ld.low).mono ?_); rintro e w3 ⟨rfl, hb⟩; have H' := Lib.hid (HN.out.next hb); clear hb HN F; have HN := H'; clear H'; have F := HN.out.f))
  all_goals
    go_wp2_with (first
      | (go_at_call 38; (with_reducible refine (HSZ.out _).mono ?_); rintro e w5 ⟨rfl, hb⟩; have H' := Lib.hid (HN.out.next hb); clear hb HN F; have HN := H'; clear H'; have F := HN.out.f)
      | (go_at_call 37; (with_reducible refine (HE8.out _).mono ?_); rintro e w4 ⟨rfl, hb⟩; have H' := Lib.hid (HN.out.next hb); clear hb HN F; have HN := H'; clear H'; have F := HN.out.f))
    exact bodyPost_ret (v := .tuple #[.agg #[.int .i64 1, .int .u64 (U m.ul), .int .u64 (U m.uh), .int .i64 (S m.sl), .int .i64 (S m.sh), .int .u64 (U m.t.v), .int .u64 (U m.t.m), .int .i64 0], .bool true]) (by simp [results, Try.results12, go_sem, F]) rfl ⟨rfl, below_put8s HN.out.ld.low (Nat.le_succ _) _ _ _ _ _ _ _ _⟩
set_option maxRecDepth 100000 in
set_option maxHeartbeats 2000000 in
theorem sload_0 (A : AbA) (s : Ab) (a b c : Nat) (hn : (c : Int) ≤ 9223372036854775807) (w : World) (h : AbAt w A s) (hi : insB (a : Int) (b : Int) (c : Int) = true) (hr : readyS s (a : Int) ((b : Int) + (c : Int)) = true) (hE : eightB a (b : Int) (c : Int) = true) (h0 : (rg s.saved (a / 8)).kind = 0) (m : Bd) (hm : size11 (c : Int) = m) : Calls Try.prog 12 #[.agg #[.slice A.p1 s.regs.length A.c1, .slice A.p2 s.set.length A.c2, .slice A.p3 s.saved.length A.c3], .int .i64 (a : Int), .int .i64 (b : Int), .int .i64 (c : Int)] w fun e w' => e = .returned (.tuple #[.agg #[.int .i64 1, .int .u64 (U m.ul), .int .u64 (U m.uh), .int .i64 (S m.sl), .int .i64 (S m.sh), .int .u64 (U m.t.v), .int .u64 (U m.t.m), .int .i64 0], .bool true]) ∧ Below w.heap.size w w' := by
  have HIN := Lib.hid (fun (W : World) => sins_any (a : Int) (b : Int) (c : Int) hn W)
  rw [hi] at HIN
  have hb5 : b + c ≤ 512 := by have := of_decide_eq_true hi; omega
  have HEN := Lib.hid (fun W => send_any (a : Int) b c (by omega) (by omega) W)
  have HRD := Lib.hid (fun (W : World) (hb : Below w.heap.size w W) => srdy_any A s (a : Int) ((b : Int) + (c : Int)) W (h.below hb))
  rw [hr] at HRD
  have h8 := fun W => seight_any a (b : Int) (c : Int) (by have := of_decide_eq_true hi; omega) W
  rw [hE] at h8
  have HE8 := Lib.hid h8
  have hsz := fun W => bsize_any (c : Int) W
  rw [show bsize (c : Int) = m from hm] at hsz
  have HSZ := Lib.hid hsz
  have hc := (ready_iff.1 hr).1
  obtain ⟨n1, n2, n3⟩ := (check_iff.1 hc).1
  have ha : a / 8 < 64 := by have := of_decide_eq_true hi; omega
  have HV := Lib.hid (fun (W : World) (hb : Below w.heap.size w W) => (h.below hb).v.cells (a / 8) (by omega))
  obtain ⟨b3, o3, hp3, _⟩ := h.v.cells (a / 8) (by omega)
  have HP3 := Lib.hid hp3
  clear hi hn hr hb5 h
  clear hE h8 hc hp3 hm hsz
  rw [HP3.out, n3] at HRD ⊢
  clear n1 n2 n3
  rw [h0] at HV
  clear h0
  generalize rg s.saved (a / 8) = x at *
  generalize s.regs.length = N1 at *
  generalize s.set.length = N2 at *
  have HN := Lib.hid ((Ld.new w (.slice A.p1 N1 A.c1) (.slice A.p2 N2 A.c2) (.slice (some ⟨b3, o3, none⟩) 64 A.c3) (a : Int) (b : Int) (c : Int) 25 33 56).drew)
  have F := HN.out.f
  go_enter Try.func12, Try.ntmps12
  go_wp2_with fail
  go_region_held3 (fun W => (W.cell? ⟨w.heap.size, 0, none⟩ = some (.slice A.p1 N1 A.c1) ∧ W.cell? ⟨w.heap.size, 1, none⟩ = some (.slice A.p2 N2 A.c2) ∧ W.cell? ⟨w.heap.size, 2, none⟩ = some (.slice (some ⟨b3, o3, none⟩) 64 A.c3)) ∧ W.cell? ⟨w.heap.size + 2, 0, none⟩ = some (.int .i64 (a : Int)) ∧ W.cell? ⟨w.heap.size + 2, 1, none⟩ = some (.int .i64 (b : Int)) ∧ W.cell? ⟨w.heap.size + 2, 2, none⟩ = some (.int .i64 (c : Int)))
    (with_reducible exact HN.out.s)
    (first
    | (go_at_call 32; (with_reducible refine (HIN.out _).mono ?_); rintro e w1 ⟨rfl, hb⟩; have H' := Lib.hid (HN.out.next hb); clear hb HN F; have HN := H'; clear H'; have F := HN.out.f)
    | (go_at_call 36; (with_reducible refine (HEN.out _).mono ?_); rintro e w2 ⟨rfl, hb⟩; have H' := Lib.hid (HN.out.next hb); clear hb HN F; have HN := H'; clear H'; have F := HN.out.f)
    | (go_at_call 21; (with_reducible refine (HRD.out _ HN.out.ld.low).mono ?_); rintro e w3 ⟨rfl, hb⟩; have H' := Lib.hid (HN.out.next hb); clear hb HN F; have HN := H'; clear H'; have F := HN.out.f))
  all_goals
    go_wp2_with (first
      | (go_at_call 38; (with_reducible refine (HSZ.out _).mono ?_); rintro e w5 ⟨rfl, hb⟩; have H' := Lib.hid (HN.out.next hb); clear hb HN F; have HN := H'; clear H'; have F := HN.out.f)
      | (go_at_call 37; (with_reducible refine (HE8.out _).mono ?_); rintro e w4 ⟨rfl, hb⟩; have H' := Lib.hid (HN.out.next hb); clear hb HN F; have HN := H'; clear H'; have F := HN.out.f; obtain ⟨b', off', hq, hbl, e0, e1, e2, e3, e4, e5, e6, e7⟩ := HV.out _ HN.out.ld.low; obtain ⟨rfl, rfl⟩ : b3 = b' ∧ o3 = off' := (by rw [HP3.out] at hq; injection hq with hq; injection hq with h1 h2; exact ⟨h1, h2⟩)))
    exact bodyPost_ret (v := .tuple #[.agg #[.int .i64 1, .int .u64 (U m.ul), .int .u64 (U m.uh), .int .i64 (S m.sl), .int .i64 (S m.sh), .int .u64 (U m.t.v), .int .u64 (U m.t.m), .int .i64 0], .bool true]) (by simp [results, Try.results12, go_sem, F]) rfl ⟨rfl, below_put8s HN.out.ld.low (Nat.le_succ _) _ _ _ _ _ _ _ _⟩
set_option maxRecDepth 100000 in
set_option maxHeartbeats 2000000 in
theorem sload_w (A : AbA) (s : Ab) (a b c : Nat) (hn : (c : Int) ≤ 9223372036854775807) (w : World) (h : AbAt w A s) (hi : insB (a : Int) (b : Int) (c : Int) = true) (hr : readyS s (a : Int) ((b : Int) + (c : Int)) = true) (hE : eightB a (b : Int) (c : Int) = true) (h0 : ¬ (rg s.saved (a / 8)).kind = 0) : Calls Try.prog 12 #[.agg #[.slice A.p1 s.regs.length A.c1, .slice A.p2 s.set.length A.c2, .slice A.p3 s.saved.length A.c3], .int .i64 (a : Int), .int .i64 (b : Int), .int .i64 (c : Int)] w fun e w' => e = .returned (.tuple #[.agg #[.int .i64 (rg s.saved (a / 8)).kind, .int .u64 (U (rg s.saved (a / 8)).num.ul), .int .u64 (U (rg s.saved (a / 8)).num.uh), .int .i64 (S (rg s.saved (a / 8)).num.sl), .int .i64 (S (rg s.saved (a / 8)).num.sh), .int .u64 (U (rg s.saved (a / 8)).num.t.v), .int .u64 (U (rg s.saved (a / 8)).num.t.m), .int .i64 (rg s.saved (a / 8)).reg], .bool true]) ∧ Below w.heap.size w w' := by
  have HIN := Lib.hid (fun (W : World) => sins_any (a : Int) (b : Int) (c : Int) hn W)
  rw [hi] at HIN
  have hb5 : b + c ≤ 512 := by have := of_decide_eq_true hi; omega
  have HEN := Lib.hid (fun W => send_any (a : Int) b c (by omega) (by omega) W)
  have HRD := Lib.hid (fun (W : World) (hb : Below w.heap.size w W) => srdy_any A s (a : Int) ((b : Int) + (c : Int)) W (h.below hb))
  rw [hr] at HRD
  have h8 := fun W => seight_any a (b : Int) (c : Int) (by have := of_decide_eq_true hi; omega) W
  rw [hE] at h8
  have HE8 := Lib.hid h8
  have hc := (ready_iff.1 hr).1
  obtain ⟨n1, n2, n3⟩ := (check_iff.1 hc).1
  have ha : a / 8 < 64 := by have := of_decide_eq_true hi; omega
  have HV := Lib.hid (fun (W : World) (hb : Below w.heap.size w W) => (h.below hb).v.cells (a / 8) (by omega))
  obtain ⟨b3, o3, hp3, _⟩ := h.v.cells (a / 8) (by omega)
  have HP3 := Lib.hid hp3
  clear hi hn hr hb5 h
  clear hE h8 hc hp3
  rw [HP3.out, n3] at HRD ⊢
  clear n1 n2 n3
  generalize rg s.saved (a / 8) = x at *
  generalize s.regs.length = N1 at *
  generalize s.set.length = N2 at *
  have HN := Lib.hid ((Ld.new w (.slice A.p1 N1 A.c1) (.slice A.p2 N2 A.c2) (.slice (some ⟨b3, o3, none⟩) 64 A.c3) (a : Int) (b : Int) (c : Int) 25 33 56).drew)
  have F := HN.out.f
  go_enter Try.func12, Try.ntmps12
  go_wp2_with fail
  go_region_held3 (fun W => (W.cell? ⟨w.heap.size, 0, none⟩ = some (.slice A.p1 N1 A.c1) ∧ W.cell? ⟨w.heap.size, 1, none⟩ = some (.slice A.p2 N2 A.c2) ∧ W.cell? ⟨w.heap.size, 2, none⟩ = some (.slice (some ⟨b3, o3, none⟩) 64 A.c3)) ∧ W.cell? ⟨w.heap.size + 2, 0, none⟩ = some (.int .i64 (a : Int)) ∧ W.cell? ⟨w.heap.size + 2, 1, none⟩ = some (.int .i64 (b : Int)) ∧ W.cell? ⟨w.heap.size + 2, 2, none⟩ = some (.int .i64 (c : Int)))
    (with_reducible exact HN.out.s)
    (first
    | (go_at_call 32; (with_reducible refine (HIN.out _).mono ?_); rintro e w1 ⟨rfl, hb⟩; have H' := Lib.hid (HN.out.next hb); clear hb HN F; have HN := H'; clear H'; have F := HN.out.f)
    | (go_at_call 36; (with_reducible refine (HEN.out _).mono ?_); rintro e w2 ⟨rfl, hb⟩; have H' := Lib.hid (HN.out.next hb); clear hb HN F; have HN := H'; clear H'; have F := HN.out.f)
    | (go_at_call 21; (with_reducible refine (HRD.out _ HN.out.ld.low).mono ?_); rintro e w3 ⟨rfl, hb⟩; have H' := Lib.hid (HN.out.next hb); clear hb HN F; have HN := H'; clear H'; have F := HN.out.f))
  all_goals
    go_wp2_with (first
      | (go_at_call 37; (with_reducible refine (HE8.out _).mono ?_); rintro e w4 ⟨rfl, hb⟩; have H' := Lib.hid (HN.out.next hb); clear hb HN F; have HN := H'; clear H'; have F := HN.out.f; obtain ⟨b', off', hq, hbl, e0, e1, e2, e3, e4, e5, e6, e7⟩ := HV.out _ HN.out.ld.low; obtain ⟨rfl, rfl⟩ : b3 = b' ∧ o3 = off' := (by rw [HP3.out] at hq; injection hq with hq; injection hq with h1 h2; exact ⟨h1, h2⟩)))
    exact bodyPost_ret (v := .tuple #[.agg #[.int .i64 x.kind, .int .u64 (U x.num.ul), .int .u64 (U x.num.uh), .int .i64 (S x.num.sl), .int .i64 (S x.num.sh), .int .u64 (U x.num.t.v), .int .u64 (U x.num.t.m), .int .i64 x.reg], .bool true]) (by simp [results, Try.results12, go_sem, F]) rfl ⟨rfl, below_put8s HN.out.ld.low (Nat.le_succ _) _ _ _ _ _ _ _ _⟩
theorem sload_any (A : AbA) (s : Ab) (low high n : Int) (_hl : (Lit.int .i64 low).wf = true) (_hh : (Lit.int .i64 high).wf = true) (hn : (Lit.int .i64 n).wf = true) (w : World) (h : AbAt w A s) : Calls Try.prog 12 #[.agg #[.slice A.p1 s.regs.length A.c1, .slice A.p2 s.set.length A.c2, .slice A.p3 s.saved.length A.c3], .int .i64 low, .int .i64 high, .int .i64 n] w fun e w' => e = .returned (.tuple #[.agg #[.int .i64 ((loadS s low high n).1).kind, .int .u64 (U ((loadS s low high n).1).num.ul), .int .u64 (U ((loadS s low high n).1).num.uh), .int .i64 (S ((loadS s low high n).1).num.sl), .int .i64 (S ((loadS s low high n).1).num.sh), .int .u64 (U ((loadS s low high n).1).num.t.v), .int .u64 (U ((loadS s low high n).1).num.t.m), .int .i64 ((loadS s low high n).1).reg], .bool (loadS s low high n).2]) ∧ Below w.heap.size w w' := by
  have hn' := i64_top hn
  cases hi : insB low high n with
  | false =>
    have hp : placesS s low high n = false := by
      cases hc : checkS s with
      | false => exact places_check hc
      | true => rw [ins_places hc, hi]
    rw [load_none (.inl hp)]
    exact sload_i A s low high n hn' w hi
  | true =>
    have hi' := of_decide_eq_true hi
    obtain ⟨a, rfl⟩ : ∃ a : Nat, low = (a : Int) := ⟨low.toNat, by omega⟩
    obtain ⟨b, rfl⟩ : ∃ b : Nat, high = (b : Int) := ⟨high.toNat, by omega⟩
    obtain ⟨c, rfl⟩ : ∃ c : Nat, n = (c : Int) := ⟨n.toNat, by omega⟩
    cases hr : readyS s (a : Int) ((b : Int) + (c : Int)) with
    | false => rw [load_none (.inr hr)]; exact sload_r A s a b c hn' w h hi hr
    | true =>
      have hp : placesS s (a : Int) (b : Int) (c : Int) = true := by rw [ins_places (ready_iff.1 hr).1, hi]
      rw [load_yes hp hr]
      cases hE : eightB a (b : Int) (c : Int) with
      | false =>
        have h9 := of_decide_eq_false hE
        rw [whole_no (fun x => h9 ⟨x.1, x.2.1, by omega⟩), if_neg (by simp)]
        exact sload_n A s a b c hn' w h hi hr hE _ rfl
      | true =>
        have h9 := of_decide_eq_true hE
        by_cases h0 : (rg s.saved (a / 8)).kind = 0
        · have ew : wholeB s (a : Int) (b : Int) (c : Int) = false := by
            unfold wholeB; rw [Int.toNat_natCast, decide_eq_false (show ¬ ((rg s.saved (a / 8)).kind ≠ 0) from fun c => c h0), Bool.and_false]
          rw [ew, if_neg (by simp)]
          exact sload_0 A s a b c hn' w h hi hr hE h0 _ rfl
        · have ew : wholeB s (a : Int) (b : Int) (c : Int) = true := by
            unfold wholeB; rw [Int.toNat_natCast, decide_eq_true (show (rg s.saved (a / 8)).kind ≠ 0 from h0), decide_eq_true (show (a : Int) = (b : Int) ∧ (c : Int) = 8 ∧ (a : Int) % 8 = 0 from ⟨h9.1, h9.2.1, by omega⟩)]; rfl
          rw [ew, if_pos rfl, Int.toNat_natCast]
          exact sload_w A s a b c hn' w h hi hr hE h0
end Go.Proofs.Ytdipmlamjjpcoaa
