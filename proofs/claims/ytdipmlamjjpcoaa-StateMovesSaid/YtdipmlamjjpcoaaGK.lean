/- States: package state's small functions: what may be known, what covers what, accesses. -/
import Derived.Test.YtdipmlamjjpcoaaSU
import Derived.Test.YtdipmlamjjpcoaaGV

/- States: package state's small functions: what may be known, what covers what, accesses. -/
namespace Go.Proofs.Ytdipmlamjjpcoaa
open Go.RowKit
attribute [local go_sem] b_and b_or b_xor b_andNot b_low b_top b_most b_signed b_unsigned b_zero b_eq s_eq b_nzero b_neq s_neq b_max b_min s_max s_min
attribute [local go_sem ↓] Go.wp_at_zero Go.wp_at_succ

theorem smay_0 (m : Bd) (r : Int) (w : World) : Calls Try.prog 33 #[.agg #[.int .i64 0, .int .u64 (U m.ul), .int .u64 (U m.uh), .int .i64 (S m.sl), .int .i64 (S m.sh), .int .u64 (U m.t.v), .int .u64 (U m.t.m), .int .i64 r]] w fun e w' => e = .returned (.bool (decide ((⟨0, m, r⟩ : Kn) = kzero))) ∧ Below w.heap.size w w' := by
  have he := eqK0 ⟨0, m, r⟩
  dsimp only at he
  generalize decide ((⟨0, m, r⟩ : Kn) = kzero) = g at *
  go_enter Try.func33, Try.ntmps33
  go_wp2_with fail
  go_ret
  exact ⟨rfl, b1⟩
theorem smay_1 (m : Bd) (r : Int) (w : World) : Calls Try.prog 33 #[.agg #[.int .i64 1, .int .u64 (U m.ul), .int .u64 (U m.uh), .int .i64 (S m.sl), .int .i64 (S m.sh), .int .u64 (U m.t.v), .int .u64 (U m.t.m), .int .i64 r]] w fun e w' => e = .returned (.bool (bcheck m && decide (r = 0))) ∧ Below w.heap.size w w' := by
  have HC := Lib.hid (fun W => bcheck_any m W)
  generalize bcheck m = c at *
  by_cases hr : r = 0
  · rw [decide_eq_true hr, Bool.and_true]
    subst hr
    go_enter Try.func33, Try.ntmps33
    go_wp2_with (go_at_call 55; (with_reducible refine (HC.out _).mono ?_); rintro e w1 ⟨rfl, hb⟩; have B1 := Lib.hid (bl1 hb).1; clear hb)
    go_ret
    exact ⟨rfl, B1.out⟩
  · have hr' : (r == 0) = false := by simpa using hr
    rw [decide_eq_false hr, Bool.and_false]
    clear hr HC
    go_enter Try.func33, Try.ntmps33
    go_wp2_with fail
    go_ret
    exact ⟨rfl, b1⟩
theorem smay_2 (m : Bd) (r : Int) (w : World) : Calls Try.prog 33 #[.agg #[.int .i64 2, .int .u64 (U m.ul), .int .u64 (U m.uh), .int .i64 (S m.sl), .int .i64 (S m.sh), .int .u64 (U m.t.v), .int .u64 (U m.t.m), .int .i64 r]] w fun e w' => e = .returned (.bool (bcheck m && (decide (1 ≤ r) && decide (r ≤ 10)))) ∧ Below w.heap.size w w' := by
  have HC := Lib.hid (fun W => bcheck_any m W)
  generalize bcheck m = c at *
  by_cases h1 : 1 ≤ r
  · by_cases h2 : r ≤ 10
    · rw [decide_eq_true h1, decide_eq_true h2, Bool.and_true, Bool.and_true]
      go_enter Try.func33, Try.ntmps33
      go_wp2_with (go_at_call 55; (with_reducible refine (HC.out _).mono ?_); rintro e w1 ⟨rfl, hb⟩; have B1 := Lib.hid (bl1 hb).1; clear hb)
      go_ret
      exact ⟨rfl, B1.out⟩
    · rw [decide_eq_false h2, Bool.and_false, Bool.and_false]
      clear HC
      go_enter Try.func33, Try.ntmps33
      go_wp2_with fail
      go_ret
      exact ⟨rfl, b1⟩
  · rw [decide_eq_false h1, Bool.false_and, Bool.and_false]
    clear HC
    go_enter Try.func33, Try.ntmps33
    go_wp2_with fail
    go_ret
    exact ⟨rfl, b1⟩
theorem smay_no (k : Int) (m : Bd) (r : Int) (h0 : (k == 0) = false) (h1 : (k == 1) = false) (h2 : (k == 2) = false) (w : World) : Calls Try.prog 33 #[.agg #[.int .i64 k, .int .u64 (U m.ul), .int .u64 (U m.uh), .int .i64 (S m.sl), .int .i64 (S m.sh), .int .u64 (U m.t.v), .int .u64 (U m.t.m), .int .i64 r]] w fun e w' => e = .returned (.bool false) ∧ Below w.heap.size w w' := by
  go_enter Try.func33, Try.ntmps33
  go_wp2_with fail
  go_ret
  exact ⟨rfl, b1⟩
theorem smay_any (k : Kn) (w : World) : Calls Try.prog 33 #[.agg #[.int .i64 k.kind, .int .u64 (U k.num.ul), .int .u64 (U k.num.uh), .int .i64 (S k.num.sl), .int .i64 (S k.num.sh), .int .u64 (U k.num.t.v), .int .u64 (U k.num.t.m), .int .i64 k.reg]] w fun e w' => e = .returned (.bool (right k)) ∧ Below w.heap.size w w' := by
  obtain ⟨kd, m, r⟩ := k
  by_cases h0 : kd = 0
  · subst h0; exact smay_0 m r w
  by_cases h1 : kd = 1
  · subst h1; exact smay_1 m r w
  by_cases h2 : kd = 2
  · subst h2; exact smay_2 m r w
  have e : right ⟨kd, m, r⟩ = false := by unfold right; rw [if_neg h0, if_neg h1, if_neg h2]
  rw [e]
  exact smay_no kd m r (by simpa using h0) (by simpa using h1) (by simpa using h2) w
theorem snot_any (k : Kn) (w : World) : Calls Try.prog 27 #[.agg #[.int .i64 k.kind, .int .u64 (U k.num.ul), .int .u64 (U k.num.uh), .int .i64 (S k.num.sl), .int .i64 (S k.num.sh), .int .u64 (U k.num.t.v), .int .u64 (U k.num.t.m), .int .i64 k.reg]] w fun e w' => e = .returned (.bool (!right k)) ∧ Below w.heap.size w w' := by
  have HC := Lib.hid (fun W => smay_any k W)
  generalize right k = c at *
  go_enter Try.func27, Try.ntmps27
  go_wp2_with (go_at_call 33; (with_reducible refine (HC.out _).mono ?_); rintro e w1 ⟨rfl, hb⟩; have B1 := Lib.hid (bl1 hb).1; clear hb)
  go_ret
  exact ⟨rfl, B1.out⟩
theorem scov_any (a b : Kn) (w : World) : Calls Try.prog 45 #[.agg #[.int .i64 a.kind, .int .u64 (U a.num.ul), .int .u64 (U a.num.uh), .int .i64 (S a.num.sl), .int .i64 (S a.num.sh), .int .u64 (U a.num.t.v), .int .u64 (U a.num.t.m), .int .i64 a.reg], .agg #[.int .i64 b.kind, .int .u64 (U b.num.ul), .int .u64 (U b.num.uh), .int .i64 (S b.num.sl), .int .i64 (S b.num.sh), .int .u64 (U b.num.t.v), .int .u64 (U b.num.t.m), .int .i64 b.reg]] w fun e w' => e = .returned (.bool (withinK a b)) ∧ Below w.heap.size w w' := by
  obtain ⟨ka, ma, ra⟩ := a
  obtain ⟨kb, mb, rb⟩ := b
  by_cases h0 : ka = 0
  · rw [show withinK ⟨ka, ma, ra⟩ ⟨kb, mb, rb⟩ = true from wk_iff.2 (.inl h0)]
    subst h0
    dsimp only
    go_enter Try.func45, Try.ntmps45
    go_wp2_with fail
    go_ret
    exact ⟨rfl, b2⟩
  · have h0' : (ka == 0) = false := by simpa using h0
    have HC := Lib.hid (fun W => bwithin_any ma mb W)
    have e : withinK ⟨ka, ma, ra⟩ ⟨kb, mb, rb⟩ = (decide (ka = kb) && (decide (ra = rb) && bwithin ma mb)) := by unfold withinK; rw [decide_eq_false h0, Bool.false_or]
    rw [e]
    dsimp only
    generalize bwithin ma mb = c at *
    clear e h0
    by_cases h1 : ka = kb
    · subst h1
      by_cases h2 : ra = rb
      · subst h2
        rw [decide_eq_true rfl, decide_eq_true rfl, Bool.true_and, Bool.true_and]
        go_enter Try.func45, Try.ntmps45
        go_wp2_with (go_at_call 61; (with_reducible refine (HC.out _).mono ?_); rintro e w1 ⟨rfl, hb⟩; have B1 := Lib.hid (bl2 hb).1; clear hb)
        go_ret
        exact ⟨rfl, B1.out⟩
      · rw [decide_eq_false h2, Bool.false_and, Bool.and_false]
        have h2' : (ra == rb) = false := by simpa using h2
        clear h2 HC
        go_enter Try.func45, Try.ntmps45
        go_wp2_with fail
        go_ret
        exact ⟨rfl, b2⟩
    · rw [decide_eq_false h1, Bool.false_and]
      have h1' : (ka == kb) = false := by simpa using h1
      clear h1 HC
      go_enter Try.func45, Try.ntmps45
      go_wp2_with fail
      go_ret
      exact ⟨rfl, b2⟩
theorem sarr_any (x y : Bool) (w : World) : Calls Try.prog 47 #[.bool x, .bool y] w fun e w' => e = .returned (.bool (!x || y)) ∧ Below w.heap.size w w' := by
  cases x <;> cases y <;>
  · go_enter Try.func47, Try.ntmps47
    go_wp2_with fail
    go_ret
    exact ⟨rfl, Below.refl _ _⟩
theorem sfull_any (A : AbA) (N1 N2 N3 : Nat) (w : World) : Calls Try.prog 25 #[.agg #[.slice A.p1 N1 A.c1, .slice A.p2 N2 A.c2, .slice A.p3 N3 A.c3]] w fun e w' => e = .returned (.bool (decide (N1 = 11 ∧ N2 = 512 ∧ N3 = 64))) ∧ Below w.heap.size w w' := by
  by_cases e1 : N1 = 11
  · by_cases e2 : N2 = 512
    · by_cases e3 : N3 = 64
      · rw [decide_eq_true ⟨e1, e2, e3⟩]
        subst e1
        subst e2
        subst e3
        go_enter Try.func25, Try.ntmps25
        go_wp2
        go_ret
        exact ⟨rfl, b1⟩
      · rw [decide_eq_false (fun h => e3 h.2.2)]
        subst e1
        subst e2
        have f3 : ((N3 : Int) == 64) = false := by simp; omega
        clear e3
        go_enter Try.func25, Try.ntmps25
        go_wp2
        go_ret
        exact ⟨rfl, b1⟩
    · rw [decide_eq_false (fun h => e2 h.2.1)]
      subst e1
      have f2 : ((N2 : Int) == 512) = false := by simp; omega
      clear e2
      go_enter Try.func25, Try.ntmps25
      go_wp2
      go_ret
      exact ⟨rfl, b1⟩
  · rw [decide_eq_false (fun h => e1 h.1)]
    have f1 : ((N1 : Int) == 11) = false := by simp; omega
    clear e1
    go_enter Try.func25, Try.ntmps25
    go_wp2
    go_ret
    exact ⟨rfl, b1⟩
end Go.Proofs.Ytdipmlamjjpcoaa

/- States: accesses to the stack. -/
namespace Go.Proofs.Ytdipmlamjjpcoaa
open Go.RowKit
attribute [local go_sem] b_and b_or b_xor b_andNot b_low b_top b_most b_signed b_unsigned b_zero b_eq s_eq b_nzero b_neq s_neq b_max b_min s_max s_min
attribute [local go_sem ↓] Go.wp_at_zero Go.wp_at_succ

def insB (low high n : Int) : Bool := decide (1 ≤ n ∧ 0 ≤ low ∧ low ≤ high ∧ high ≤ 512 - n)
theorem sins_any (low high n : Int) (hn : n ≤ 9223372036854775807) (w : World) : Calls Try.prog 32 #[.agg #[.int .i64 low, .int .i64 high, .int .i64 n]] w fun e w' => e = .returned (.bool (insB low high n)) ∧ Below w.heap.size w w' := by
  unfold insB
  by_cases p1 : 1 ≤ n
  · by_cases p2 : 0 ≤ low
    · by_cases p3 : low ≤ high
      · by_cases p4 : high ≤ 512 - n
        · rw [decide_eq_true ⟨p1, p2, p3, p4⟩]
          go_enter Try.func32, Try.ntmps32
          go_wp2
          go_ret
          exact ⟨ret_bool (by first | (simp; omega) | simp), b1⟩
        · rw [decide_eq_false (fun h => p4 h.2.2.2)]
          go_enter Try.func32, Try.ntmps32
          go_wp2
          go_ret
          exact ⟨ret_bool (by first | (simp; omega) | simp), b1⟩
      · rw [decide_eq_false (fun h => p3 h.2.2.1)]
        go_enter Try.func32, Try.ntmps32
        go_wp2
        go_ret
        exact ⟨rfl, b1⟩
    · rw [decide_eq_false (fun h => p2 h.2.1)]
      go_enter Try.func32, Try.ntmps32
      go_wp2
      go_ret
      exact ⟨rfl, b1⟩
  · rw [decide_eq_false (fun h => p1 h.1)]
    go_enter Try.func32, Try.ntmps32
    go_wp2
    go_ret
    exact ⟨rfl, b1⟩
theorem send_any (low : Int) (b c : Nat) (hb : b ≤ 512) (hc : c ≤ 512) (w : World) : Calls Try.prog 36 #[.agg #[.int .i64 low, .int .i64 (b : Int), .int .i64 (c : Int)]] w fun e w' => e = .returned (.int .i64 ((b : Int) + (c : Int))) ∧ Below w.heap.size w w' := by
  go_enter Try.func36, Try.ntmps36
  go_wp2
  go_ret
  exact ⟨rfl, b1⟩
theorem ssure_yes (a : Int) (n : Int) (w : World) : Calls Try.prog 58 #[.agg #[.int .i64 a, .int .i64 a, .int .i64 n]] w fun e w' => e = .returned (.bool true) ∧ Below w.heap.size w w' := by
  go_enter Try.func58, Try.ntmps58
  go_wp2
  go_ret
  exact ⟨ret_bool (by simp), b1⟩
theorem ssure_no (a b : Int) (h : (a == b) = false) (n : Int) (w : World) : Calls Try.prog 58 #[.agg #[.int .i64 a, .int .i64 b, .int .i64 n]] w fun e w' => e = .returned (.bool false) ∧ Below w.heap.size w w' := by
  go_enter Try.func58, Try.ntmps58
  go_wp2
  go_ret
  exact ⟨ret_bool (by simp), b1⟩
end Go.Proofs.Ytdipmlamjjpcoaa

/- States: which of the stack's eights an access is of. -/
namespace Go.Proofs.Ytdipmlamjjpcoaa
open Go.RowKit
attribute [local go_sem] b_and b_or b_xor b_andNot b_low b_top b_most b_signed b_unsigned b_zero b_eq s_eq b_nzero b_neq s_neq b_max b_min s_max s_min
attribute [local go_sem ↓] Go.wp_at_zero Go.wp_at_succ

set_option maxRecDepth 100000 in
set_option maxHeartbeats 1000000 in
theorem seight_far (a b n : Int) (h : (a == b) = false) (hq : IntKind.i64.wrap (a.tdiv 8) = a.tdiv 8) (w : World) : Calls Try.prog 37 #[.agg #[.int .i64 a, .int .i64 b, .int .i64 n]] w fun e w' => e = .returned (.tuple #[.int .i64 (a.tdiv 8), .bool false]) ∧ Below w.heap.size w w' := by
  have HS := Lib.hid (fun W => ssure_no a b h n W)
  have HQ := Lib.hid hq
  clear hq
  clear h
  go_enter Try.func37, Try.ntmps37
  go_wp2_with fail
  refine wp_region_held_drew (S := (fun W => W.cell? ⟨w.heap.size, 0, none⟩ = some (.int .i64 a) ∧ W.cell? ⟨w.heap.size, 1, none⟩ = some (.int .i64 b) ∧ W.cell? ⟨w.heap.size, 2, none⟩ = some (.int .i64 n))) (by kernel_rfl) (Box.new w [.int .i64 a, .int .i64 b, .int .i64 n] 56 rfl).drew.three.1 (fun hHeld => ?_)
  refine takeYes (i := 0) (v := ?v0) (some 4) rfl rfl (by kernel_rfl) (by kernel_rfl) (by kernel_rfl) (fun _ _ _ h => h) (by rfl) ?y0 hHeld ?r0
  case y0 =>
    intro w hSw
    try dsimp only at hSw
    go_simp
    try (with_reducible rfl)
  case r0 =>
  try simp only [Act.put, List.setIfInBounds_toArray, List.set_cons_zero, List.set_cons_succ]
  refine takeYes (i := 1) (v := ?v1) (some 5) rfl rfl (by kernel_rfl) (by kernel_rfl) (by kernel_rfl) (fun _ _ _ h => h) (by rfl) ?y1 hHeld ?r1
  case y1 =>
    intro w hSw
    try dsimp only at hSw
    go_simp
    try (with_reducible rfl)
  case r1 =>
  try simp only [Act.put, List.setIfInBounds_toArray, List.set_cons_zero, List.set_cons_succ]
  refine takeYes (i := 2) (v := ?v2) (some 6) rfl rfl (by kernel_rfl) (by kernel_rfl) (by kernel_rfl) (fun _ _ _ h => h) (by rfl) ?y2 hHeld ?r2
  case y2 =>
    intro w hSw
    try dsimp only at hSw
    go_simp
    try (with_reducible rfl)
  case r2 =>
  try simp only [Act.put, List.setIfInBounds_toArray, List.set_cons_zero, List.set_cons_succ]
  refine takeYes (i := 3) (v := ?v3) (some 7) rfl rfl (by kernel_rfl) (by kernel_rfl) (by kernel_rfl) (fun _ _ _ h => h) (by rfl) ?y3 hHeld ?r3
  case y3 =>
    intro w hSw
    try dsimp only at hSw
    go_simp
    try (with_reducible rfl)
  case r3 =>
  try simp only [Act.put, List.setIfInBounds_toArray, List.set_cons_zero, List.set_cons_succ]
  refine wpAnyH_ready (rs := [4]) (by kernel_rfl) (by simp) ?_
  refine AllReadyH.cons rfl (fun K hK => ?_) AllReadyH.nil
  go_simp
  go_at_call 58
  refine (HS.out _).mono ?_
  rintro e w1 ⟨rfl, hb⟩
  have B1 := Lib.hid (bl1 (bdrewA hb))
  have K1 := ((Box.new w [.int .i64 a, .int .i64 b, .int .i64 n] 56 rfl).drew.next hb).three.1
  clear hb
  try dsimp only
  refine hK.out _ _ K1 (fun hHeld2 => ?_)
  clear hK K
  try simp only [Act.put, List.setIfInBounds_toArray, List.set_cons_zero, List.set_cons_succ]
  refine takeYes (i := 5) (v := ?v5) (some 9) rfl rfl (by kernel_rfl) (by kernel_rfl) (by kernel_rfl) (fun _ _ _ h => h) (by rfl) ?y5 hHeld2 ?r5
  case y5 =>
    intro w hSw
    try dsimp only at hSw
    go_simp
    try (with_reducible rfl)
  case r5 =>
  try simp only [Act.put, List.setIfInBounds_toArray, List.set_cons_zero, List.set_cons_succ]
  refine takeNo (i := 6) (some 10) rfl rfl (by kernel_rfl) (by kernel_rfl) (by kernel_rfl) (fun _ _ _ h => h) (by rfl) hHeld2 ?_
  try simp only [Act.put, List.setIfInBounds_toArray, List.set_cons_zero, List.set_cons_succ]
  refine takeNo (i := 7) (some 11) rfl rfl (by kernel_rfl) (by kernel_rfl) (by kernel_rfl) (fun _ _ _ h => h) (by rfl) hHeld2 ?_
  try simp only [Act.put, List.setIfInBounds_toArray, List.set_cons_zero, List.set_cons_succ]
  refine takeNo (i := 8) (some 12) rfl rfl (by kernel_rfl) (by kernel_rfl) (by kernel_rfl) (fun _ _ _ h => h) (by rfl) hHeld2 ?_
  try simp only [Act.put, List.setIfInBounds_toArray, List.set_cons_zero, List.set_cons_succ]
  refine takeYes (i := 9) (v := ?v9) (some 13) rfl rfl (by kernel_rfl) (by kernel_rfl) (by kernel_rfl) (fun _ _ _ h => h) (by rfl) ?y9 hHeld2 ?r9
  case y9 =>
    intro w hSw
    try dsimp only at hSw
    go_simp
    try (with_reducible rfl)
  case r9 =>
  try simp only [Act.put, List.setIfInBounds_toArray, List.set_cons_zero, List.set_cons_succ]
  refine takeYes (i := 10) (v := ?v10) (some 14) rfl rfl (by kernel_rfl) (by kernel_rfl) (by kernel_rfl) (fun _ _ _ h => h) (by rfl) ?y10 hHeld2 ?r10
  case y10 =>
    intro w hSw
    try dsimp only at hSw
    go_simp
    try (with_reducible rfl)
  case r10 =>
  try simp only [Act.put, List.setIfInBounds_toArray, List.set_cons_zero, List.set_cons_succ]
  refine takeNo (i := 11) (some 15) rfl rfl (by kernel_rfl) (by kernel_rfl) (by kernel_rfl) (fun _ _ _ h => h) (by rfl) hHeld2 ?_
  try simp only [Act.put, List.setIfInBounds_toArray, List.set_cons_zero, List.set_cons_succ]
  refine takeNo (i := 12) (some 16) rfl rfl (by kernel_rfl) (by kernel_rfl) (by kernel_rfl) (fun _ _ _ h => h) (by rfl) hHeld2 ?_
  try simp only [Act.put, List.setIfInBounds_toArray, List.set_cons_zero, List.set_cons_succ]
  refine takeNo (i := 13) (some 17) rfl rfl (by kernel_rfl) (by kernel_rfl) (by kernel_rfl) (fun _ _ _ h => h) (by rfl) hHeld2 ?_
  try simp only [Act.put, List.setIfInBounds_toArray, List.set_cons_zero, List.set_cons_succ]
  refine takeNo (i := 14) (some 18) rfl rfl (by kernel_rfl) (by kernel_rfl) (by kernel_rfl) (fun _ _ _ h => h) (by rfl) hHeld2 ?_
  try simp only [Act.put, List.setIfInBounds_toArray, List.set_cons_zero, List.set_cons_succ]
  refine takeYes (i := 15) (v := ?v15) (some 19) rfl rfl (by kernel_rfl) (by kernel_rfl) (by kernel_rfl) (fun _ _ _ h => h) (by rfl) ?y15 hHeld2 ?r15
  case y15 =>
    intro w hSw
    try dsimp only at hSw
    go_simp
    try (with_reducible rfl)
  case r15 =>
  try simp only [Act.put, List.setIfInBounds_toArray, List.set_cons_zero, List.set_cons_succ]
  refine takeYes (i := 16) (v := ?v16) (some 2) rfl rfl (by kernel_rfl) (by kernel_rfl) (by kernel_rfl) (fun _ _ _ h => h) (by rfl) ?y16 hHeld2 ?r16
  case y16 =>
    intro w hSw
    try dsimp only at hSw
    go_simp
    try (with_reducible rfl)
  case r16 =>
  try simp only [Act.put, List.setIfInBounds_toArray, List.set_cons_zero, List.set_cons_succ]
  refine takeYes (i := 17) (v := ?v17) (some 3) rfl rfl (by kernel_rfl) (by kernel_rfl) (by kernel_rfl) (fun _ _ _ h => h) (by rfl) ?y17 hHeld2 ?r17
  case y17 =>
    intro w hSw
    try dsimp only at hSw
    go_simp
    try (with_reducible rfl)
  case r17 =>
  try simp only [Act.put, List.setIfInBounds_toArray, List.set_cons_zero, List.set_cons_succ]
  refine wpAnyH_done (by kernel_rfl) ?_ _
  go_wp2
  exact bodyPost_ret (v := .tuple #[.int .i64 (a.tdiv 8), .bool false]) (by simp [results, Try.results37, go_sem, HQ.out]) rfl ⟨rfl, B1.out.1⟩
set_option maxRecDepth 100000 in
set_option maxHeartbeats 1000000 in
theorem seight_n (a n : Int) (h : (n == 8) = false) (hq : IntKind.i64.wrap (a.tdiv 8) = a.tdiv 8) (w : World) : Calls Try.prog 37 #[.agg #[.int .i64 a, .int .i64 a, .int .i64 n]] w fun e w' => e = .returned (.tuple #[.int .i64 (a.tdiv 8), .bool false]) ∧ Below w.heap.size w w' := by
  have HS := Lib.hid (fun W => ssure_yes a n W)
  have HQ := Lib.hid hq
  clear hq
  go_enter Try.func37, Try.ntmps37
  go_wp2_with fail
  refine wp_region_held_drew (S := (fun W => W.cell? ⟨w.heap.size, 0, none⟩ = some (.int .i64 a) ∧ W.cell? ⟨w.heap.size, 1, none⟩ = some (.int .i64 a) ∧ W.cell? ⟨w.heap.size, 2, none⟩ = some (.int .i64 n))) (by kernel_rfl) (Box.new w [.int .i64 a, .int .i64 a, .int .i64 n] 56 rfl).drew.three.1 (fun hHeld => ?_)
  refine takeYes (i := 0) (v := ?v0) (some 4) rfl rfl (by kernel_rfl) (by kernel_rfl) (by kernel_rfl) (fun _ _ _ h => h) (by rfl) ?y0 hHeld ?r0
  case y0 =>
    intro w hSw
    try dsimp only at hSw
    go_simp
    try (with_reducible rfl)
  case r0 =>
  try simp only [Act.put, List.setIfInBounds_toArray, List.set_cons_zero, List.set_cons_succ]
  refine takeYes (i := 1) (v := ?v1) (some 5) rfl rfl (by kernel_rfl) (by kernel_rfl) (by kernel_rfl) (fun _ _ _ h => h) (by rfl) ?y1 hHeld ?r1
  case y1 =>
    intro w hSw
    try dsimp only at hSw
    go_simp
    try (with_reducible rfl)
  case r1 =>
  try simp only [Act.put, List.setIfInBounds_toArray, List.set_cons_zero, List.set_cons_succ]
  refine takeYes (i := 2) (v := ?v2) (some 6) rfl rfl (by kernel_rfl) (by kernel_rfl) (by kernel_rfl) (fun _ _ _ h => h) (by rfl) ?y2 hHeld ?r2
  case y2 =>
    intro w hSw
    try dsimp only at hSw
    go_simp
    try (with_reducible rfl)
  case r2 =>
  try simp only [Act.put, List.setIfInBounds_toArray, List.set_cons_zero, List.set_cons_succ]
  refine takeYes (i := 3) (v := ?v3) (some 7) rfl rfl (by kernel_rfl) (by kernel_rfl) (by kernel_rfl) (fun _ _ _ h => h) (by rfl) ?y3 hHeld ?r3
  case y3 =>
    intro w hSw
    try dsimp only at hSw
    go_simp
    try (with_reducible rfl)
  case r3 =>
  try simp only [Act.put, List.setIfInBounds_toArray, List.set_cons_zero, List.set_cons_succ]
  refine wpAnyH_ready (rs := [4]) (by kernel_rfl) (by simp) ?_
  refine AllReadyH.cons rfl (fun K hK => ?_) AllReadyH.nil
  go_simp
  go_at_call 58
  refine (HS.out _).mono ?_
  rintro e w1 ⟨rfl, hb⟩
  have B1 := Lib.hid (bl1 (bdrewA hb))
  have K1 := ((Box.new w [.int .i64 a, .int .i64 a, .int .i64 n] 56 rfl).drew.next hb).three.1
  clear hb
  try dsimp only
  refine hK.out _ _ K1 (fun hHeld2 => ?_)
  clear hK K
  try simp only [Act.put, List.setIfInBounds_toArray, List.set_cons_zero, List.set_cons_succ]
  refine takeYes (i := 5) (v := ?v5) (some 9) rfl rfl (by kernel_rfl) (by kernel_rfl) (by kernel_rfl) (fun _ _ _ h => h) (by rfl) ?y5 hHeld2 ?r5
  case y5 =>
    intro w hSw
    try dsimp only at hSw
    go_simp
    try (with_reducible rfl)
  case r5 =>
  try simp only [Act.put, List.setIfInBounds_toArray, List.set_cons_zero, List.set_cons_succ]
  refine takeYes (i := 6) (v := ?v6) (some 10) rfl rfl (by kernel_rfl) (by kernel_rfl) (by kernel_rfl) (fun _ _ _ h => h) (by rfl) ?y6 hHeld2 ?r6
  case y6 =>
    intro w hSw
    try dsimp only at hSw
    go_simp
    try (with_reducible rfl)
  case r6 =>
  try simp only [Act.put, List.setIfInBounds_toArray, List.set_cons_zero, List.set_cons_succ]
  refine takeYes (i := 7) (v := ?v7) (some 11) rfl rfl (by kernel_rfl) (by kernel_rfl) (by kernel_rfl) (fun _ _ _ h => h) (by rfl) ?y7 hHeld2 ?r7
  case y7 =>
    intro w hSw
    try dsimp only at hSw
    go_simp
    try (with_reducible rfl)
  case r7 =>
  try simp only [Act.put, List.setIfInBounds_toArray, List.set_cons_zero, List.set_cons_succ]
  refine takeYes (i := 8) (v := ?v8) (some 12) rfl rfl (by kernel_rfl) (by kernel_rfl) (by kernel_rfl) (fun _ _ _ h => h) (by rfl) ?y8 hHeld2 ?r8
  case y8 =>
    intro w hSw
    try dsimp only at hSw
    go_simp
    try (with_reducible rfl)
  case r8 =>
  try simp only [Act.put, List.setIfInBounds_toArray, List.set_cons_zero, List.set_cons_succ]
  refine takeYes (i := 9) (v := ?v9) (some 13) rfl rfl (by kernel_rfl) (by kernel_rfl) (by kernel_rfl) (fun _ _ _ h => h) (by rfl) ?y9 hHeld2 ?r9
  case y9 =>
    intro w hSw
    try dsimp only at hSw
    go_simp
    try (with_reducible rfl)
  case r9 =>
  try simp only [Act.put, List.setIfInBounds_toArray, List.set_cons_zero, List.set_cons_succ]
  refine takeYes (i := 10) (v := ?v10) (some 14) rfl rfl (by kernel_rfl) (by kernel_rfl) (by kernel_rfl) (fun _ _ _ h => h) (by rfl) ?y10 hHeld2 ?r10
  case y10 =>
    intro w hSw
    try dsimp only at hSw
    go_simp
    try (with_reducible rfl)
  case r10 =>
  try simp only [Act.put, List.setIfInBounds_toArray, List.set_cons_zero, List.set_cons_succ]
  refine takeNo (i := 11) (some 15) rfl rfl (by kernel_rfl) (by kernel_rfl) (by kernel_rfl) (fun _ _ _ h => h) (by rfl) hHeld2 ?_
  try simp only [Act.put, List.setIfInBounds_toArray, List.set_cons_zero, List.set_cons_succ]
  refine takeNo (i := 12) (some 16) rfl rfl (by kernel_rfl) (by kernel_rfl) (by kernel_rfl) (fun _ _ _ h => h) (by rfl) hHeld2 ?_
  try simp only [Act.put, List.setIfInBounds_toArray, List.set_cons_zero, List.set_cons_succ]
  refine takeNo (i := 13) (some 17) rfl rfl (by kernel_rfl) (by kernel_rfl) (by kernel_rfl) (fun _ _ _ h => h) (by rfl) hHeld2 ?_
  try simp only [Act.put, List.setIfInBounds_toArray, List.set_cons_zero, List.set_cons_succ]
  refine takeNo (i := 14) (some 18) rfl rfl (by kernel_rfl) (by kernel_rfl) (by kernel_rfl) (fun _ _ _ h => h) (by rfl) hHeld2 ?_
  try simp only [Act.put, List.setIfInBounds_toArray, List.set_cons_zero, List.set_cons_succ]
  refine takeYes (i := 15) (v := ?v15) (some 19) rfl rfl (by kernel_rfl) (by kernel_rfl) (by kernel_rfl) (fun _ _ _ h => h) (by rfl) ?y15 hHeld2 ?r15
  case y15 =>
    intro w hSw
    try dsimp only at hSw
    go_simp
    try (with_reducible rfl)
  case r15 =>
  try simp only [Act.put, List.setIfInBounds_toArray, List.set_cons_zero, List.set_cons_succ]
  refine takeYes (i := 16) (v := ?v16) (some 2) rfl rfl (by kernel_rfl) (by kernel_rfl) (by kernel_rfl) (fun _ _ _ h => h) (by rfl) ?y16 hHeld2 ?r16
  case y16 =>
    intro w hSw
    try dsimp only at hSw
    go_simp
    try (with_reducible rfl)
  case r16 =>
  try simp only [Act.put, List.setIfInBounds_toArray, List.set_cons_zero, List.set_cons_succ]
  refine takeYes (i := 17) (v := ?v17) (some 3) rfl rfl (by kernel_rfl) (by kernel_rfl) (by kernel_rfl) (fun _ _ _ h => h) (by rfl) ?y17 hHeld2 ?r17
  case y17 =>
    intro w hSw
    try dsimp only at hSw
    go_simp
    try (with_reducible rfl)
  case r17 =>
  try simp only [Act.put, List.setIfInBounds_toArray, List.set_cons_zero, List.set_cons_succ]
  refine wpAnyH_done (by kernel_rfl) ?_ _
  go_wp2
  exact bodyPost_ret (v := .tuple #[.int .i64 (a.tdiv 8), .bool false]) (by simp [results, Try.results37, go_sem, HQ.out]) rfl ⟨rfl, B1.out.1⟩
set_option maxRecDepth 100000 in
set_option maxHeartbeats 1000000 in
theorem seight_r (a : Int) (h : (a.tmod 8 == 0) = false) (hq : IntKind.i64.wrap (a.tdiv 8) = a.tdiv 8) (w : World) : Calls Try.prog 37 #[.agg #[.int .i64 a, .int .i64 a, .int .i64 8]] w fun e w' => e = .returned (.tuple #[.int .i64 (a.tdiv 8), .bool false]) ∧ Below w.heap.size w w' := by
  have HS := Lib.hid (fun W => ssure_yes a 8 W)
  have HQ := Lib.hid hq
  clear hq
  go_enter Try.func37, Try.ntmps37
  go_wp2_with fail
  refine wp_region_held_drew (S := (fun W => W.cell? ⟨w.heap.size, 0, none⟩ = some (.int .i64 a) ∧ W.cell? ⟨w.heap.size, 1, none⟩ = some (.int .i64 a) ∧ W.cell? ⟨w.heap.size, 2, none⟩ = some (.int .i64 8))) (by kernel_rfl) (Box.new w [.int .i64 a, .int .i64 a, .int .i64 8] 56 rfl).drew.three.1 (fun hHeld => ?_)
  refine takeYes (i := 0) (v := ?v0) (some 4) rfl rfl (by kernel_rfl) (by kernel_rfl) (by kernel_rfl) (fun _ _ _ h => h) (by rfl) ?y0 hHeld ?r0
  case y0 =>
    intro w hSw
    try dsimp only at hSw
    go_simp
    try (with_reducible rfl)
  case r0 =>
  try simp only [Act.put, List.setIfInBounds_toArray, List.set_cons_zero, List.set_cons_succ]
  refine takeYes (i := 1) (v := ?v1) (some 5) rfl rfl (by kernel_rfl) (by kernel_rfl) (by kernel_rfl) (fun _ _ _ h => h) (by rfl) ?y1 hHeld ?r1
  case y1 =>
    intro w hSw
    try dsimp only at hSw
    go_simp
    try (with_reducible rfl)
  case r1 =>
  try simp only [Act.put, List.setIfInBounds_toArray, List.set_cons_zero, List.set_cons_succ]
  refine takeYes (i := 2) (v := ?v2) (some 6) rfl rfl (by kernel_rfl) (by kernel_rfl) (by kernel_rfl) (fun _ _ _ h => h) (by rfl) ?y2 hHeld ?r2
  case y2 =>
    intro w hSw
    try dsimp only at hSw
    go_simp
    try (with_reducible rfl)
  case r2 =>
  try simp only [Act.put, List.setIfInBounds_toArray, List.set_cons_zero, List.set_cons_succ]
  refine takeYes (i := 3) (v := ?v3) (some 7) rfl rfl (by kernel_rfl) (by kernel_rfl) (by kernel_rfl) (fun _ _ _ h => h) (by rfl) ?y3 hHeld ?r3
  case y3 =>
    intro w hSw
    try dsimp only at hSw
    go_simp
    try (with_reducible rfl)
  case r3 =>
  try simp only [Act.put, List.setIfInBounds_toArray, List.set_cons_zero, List.set_cons_succ]
  refine wpAnyH_ready (rs := [4]) (by kernel_rfl) (by simp) ?_
  refine AllReadyH.cons rfl (fun K hK => ?_) AllReadyH.nil
  go_simp
  go_at_call 58
  refine (HS.out _).mono ?_
  rintro e w1 ⟨rfl, hb⟩
  have B1 := Lib.hid (bl1 (bdrewA hb))
  have K1 := ((Box.new w [.int .i64 a, .int .i64 a, .int .i64 8] 56 rfl).drew.next hb).three.1
  clear hb
  try dsimp only
  refine hK.out _ _ K1 (fun hHeld2 => ?_)
  clear hK K
  try simp only [Act.put, List.setIfInBounds_toArray, List.set_cons_zero, List.set_cons_succ]
  refine takeYes (i := 5) (v := ?v5) (some 9) rfl rfl (by kernel_rfl) (by kernel_rfl) (by kernel_rfl) (fun _ _ _ h => h) (by rfl) ?y5 hHeld2 ?r5
  case y5 =>
    intro w hSw
    try dsimp only at hSw
    go_simp
    try (with_reducible rfl)
  case r5 =>
  try simp only [Act.put, List.setIfInBounds_toArray, List.set_cons_zero, List.set_cons_succ]
  refine takeYes (i := 6) (v := ?v6) (some 10) rfl rfl (by kernel_rfl) (by kernel_rfl) (by kernel_rfl) (fun _ _ _ h => h) (by rfl) ?y6 hHeld2 ?r6
  case y6 =>
    intro w hSw
    try dsimp only at hSw
    go_simp
    try (with_reducible rfl)
  case r6 =>
  try simp only [Act.put, List.setIfInBounds_toArray, List.set_cons_zero, List.set_cons_succ]
  refine takeYes (i := 7) (v := ?v7) (some 11) rfl rfl (by kernel_rfl) (by kernel_rfl) (by kernel_rfl) (fun _ _ _ h => h) (by rfl) ?y7 hHeld2 ?r7
  case y7 =>
    intro w hSw
    try dsimp only at hSw
    go_simp
    try (with_reducible rfl)
  case r7 =>
  try simp only [Act.put, List.setIfInBounds_toArray, List.set_cons_zero, List.set_cons_succ]
  refine takeYes (i := 8) (v := ?v8) (some 12) rfl rfl (by kernel_rfl) (by kernel_rfl) (by kernel_rfl) (fun _ _ _ h => h) (by rfl) ?y8 hHeld2 ?r8
  case y8 =>
    intro w hSw
    try dsimp only at hSw
    go_simp
    try (with_reducible rfl)
  case r8 =>
  try simp only [Act.put, List.setIfInBounds_toArray, List.set_cons_zero, List.set_cons_succ]
  refine takeYes (i := 9) (v := ?v9) (some 13) rfl rfl (by kernel_rfl) (by kernel_rfl) (by kernel_rfl) (fun _ _ _ h => h) (by rfl) ?y9 hHeld2 ?r9
  case y9 =>
    intro w hSw
    try dsimp only at hSw
    go_simp
    try (with_reducible rfl)
  case r9 =>
  try simp only [Act.put, List.setIfInBounds_toArray, List.set_cons_zero, List.set_cons_succ]
  refine takeYes (i := 10) (v := ?v10) (some 14) rfl rfl (by kernel_rfl) (by kernel_rfl) (by kernel_rfl) (fun _ _ _ h => h) (by rfl) ?y10 hHeld2 ?r10
  case y10 =>
    intro w hSw
    try dsimp only at hSw
    go_simp
    try (with_reducible rfl)
  case r10 =>
  try simp only [Act.put, List.setIfInBounds_toArray, List.set_cons_zero, List.set_cons_succ]
  refine takeYes (i := 11) (v := ?v11) (some 15) rfl rfl (by kernel_rfl) (by kernel_rfl) (by kernel_rfl) (fun _ _ _ h => h) (by rfl) ?y11 hHeld2 ?r11
  case y11 =>
    intro w hSw
    try dsimp only at hSw
    go_simp
    try (with_reducible rfl)
  case r11 =>
  try simp only [Act.put, List.setIfInBounds_toArray, List.set_cons_zero, List.set_cons_succ]
  refine takeYes (i := 12) (v := ?v12) (some 16) rfl rfl (by kernel_rfl) (by kernel_rfl) (by kernel_rfl) (fun _ _ _ h => h) (by rfl) ?y12 hHeld2 ?r12
  case y12 =>
    intro w hSw
    try dsimp only at hSw
    go_simp
    try (with_reducible rfl)
  case r12 =>
  try simp only [Act.put, List.setIfInBounds_toArray, List.set_cons_zero, List.set_cons_succ]
  refine takeYes (i := 13) (v := ?v13) (some 17) rfl rfl (by kernel_rfl) (by kernel_rfl) (by kernel_rfl) (fun _ _ _ h => h) (by rfl) ?y13 hHeld2 ?r13
  case y13 =>
    intro w hSw
    try dsimp only at hSw
    go_simp
    try (with_reducible rfl)
  case r13 =>
  try simp only [Act.put, List.setIfInBounds_toArray, List.set_cons_zero, List.set_cons_succ]
  refine takeYes (i := 14) (v := ?v14) (some 18) rfl rfl (by kernel_rfl) (by kernel_rfl) (by kernel_rfl) (fun _ _ _ h => h) (by rfl) ?y14 hHeld2 ?r14
  case y14 =>
    intro w hSw
    try dsimp only at hSw
    go_simp
    try (with_reducible rfl)
  case r14 =>
  try simp only [Act.put, List.setIfInBounds_toArray, List.set_cons_zero, List.set_cons_succ]
  refine takeYes (i := 15) (v := ?v15) (some 19) rfl rfl (by kernel_rfl) (by kernel_rfl) (by kernel_rfl) (fun _ _ _ h => h) (by rfl) ?y15 hHeld2 ?r15
  case y15 =>
    intro w hSw
    try dsimp only at hSw
    go_simp
    try (with_reducible rfl)
  case r15 =>
  try simp only [Act.put, List.setIfInBounds_toArray, List.set_cons_zero, List.set_cons_succ]
  refine takeYes (i := 16) (v := ?v16) (some 2) rfl rfl (by kernel_rfl) (by kernel_rfl) (by kernel_rfl) (fun _ _ _ h => h) (by rfl) ?y16 hHeld2 ?r16
  case y16 =>
    intro w hSw
    try dsimp only at hSw
    go_simp
    try (with_reducible rfl)
  case r16 =>
  try simp only [Act.put, List.setIfInBounds_toArray, List.set_cons_zero, List.set_cons_succ]
  refine takeYes (i := 17) (v := ?v17) (some 3) rfl rfl (by kernel_rfl) (by kernel_rfl) (by kernel_rfl) (fun _ _ _ h => h) (by rfl) ?y17 hHeld2 ?r17
  case y17 =>
    intro w hSw
    try dsimp only at hSw
    go_simp
    try (with_reducible rfl)
  case r17 =>
  try simp only [Act.put, List.setIfInBounds_toArray, List.set_cons_zero, List.set_cons_succ]
  refine wpAnyH_done (by kernel_rfl) ?_ _
  go_wp2
  exact bodyPost_ret (v := .tuple #[.int .i64 (a.tdiv 8), .bool false]) (by simp [results, Try.results37, go_sem, HQ.out]) rfl ⟨rfl, B1.out.1⟩
set_option maxRecDepth 100000 in
set_option maxHeartbeats 1000000 in
theorem seight_w (a : Int) (h : (a.tmod 8 == 0) = true) (hq : IntKind.i64.wrap (a.tdiv 8) = a.tdiv 8) (w : World) : Calls Try.prog 37 #[.agg #[.int .i64 a, .int .i64 a, .int .i64 8]] w fun e w' => e = .returned (.tuple #[.int .i64 (a.tdiv 8), .bool true]) ∧ Below w.heap.size w w' := by
  have HS := Lib.hid (fun W => ssure_yes a 8 W)
  have HQ := Lib.hid hq
  clear hq
  go_enter Try.func37, Try.ntmps37
  go_wp2_with fail
  refine wp_region_held_drew (S := (fun W => W.cell? ⟨w.heap.size, 0, none⟩ = some (.int .i64 a) ∧ W.cell? ⟨w.heap.size, 1, none⟩ = some (.int .i64 a) ∧ W.cell? ⟨w.heap.size, 2, none⟩ = some (.int .i64 8))) (by kernel_rfl) (Box.new w [.int .i64 a, .int .i64 a, .int .i64 8] 56 rfl).drew.three.1 (fun hHeld => ?_)
  refine takeYes (i := 0) (v := ?v0) (some 4) rfl rfl (by kernel_rfl) (by kernel_rfl) (by kernel_rfl) (fun _ _ _ h => h) (by rfl) ?y0 hHeld ?r0
  case y0 =>
    intro w hSw
    try dsimp only at hSw
    go_simp
    try (with_reducible rfl)
  case r0 =>
  try simp only [Act.put, List.setIfInBounds_toArray, List.set_cons_zero, List.set_cons_succ]
  refine takeYes (i := 1) (v := ?v1) (some 5) rfl rfl (by kernel_rfl) (by kernel_rfl) (by kernel_rfl) (fun _ _ _ h => h) (by rfl) ?y1 hHeld ?r1
  case y1 =>
    intro w hSw
    try dsimp only at hSw
    go_simp
    try (with_reducible rfl)
  case r1 =>
  try simp only [Act.put, List.setIfInBounds_toArray, List.set_cons_zero, List.set_cons_succ]
  refine takeYes (i := 2) (v := ?v2) (some 6) rfl rfl (by kernel_rfl) (by kernel_rfl) (by kernel_rfl) (fun _ _ _ h => h) (by rfl) ?y2 hHeld ?r2
  case y2 =>
    intro w hSw
    try dsimp only at hSw
    go_simp
    try (with_reducible rfl)
  case r2 =>
  try simp only [Act.put, List.setIfInBounds_toArray, List.set_cons_zero, List.set_cons_succ]
  refine takeYes (i := 3) (v := ?v3) (some 7) rfl rfl (by kernel_rfl) (by kernel_rfl) (by kernel_rfl) (fun _ _ _ h => h) (by rfl) ?y3 hHeld ?r3
  case y3 =>
    intro w hSw
    try dsimp only at hSw
    go_simp
    try (with_reducible rfl)
  case r3 =>
  try simp only [Act.put, List.setIfInBounds_toArray, List.set_cons_zero, List.set_cons_succ]
  refine wpAnyH_ready (rs := [4]) (by kernel_rfl) (by simp) ?_
  refine AllReadyH.cons rfl (fun K hK => ?_) AllReadyH.nil
  go_simp
  go_at_call 58
  refine (HS.out _).mono ?_
  rintro e w1 ⟨rfl, hb⟩
  have B1 := Lib.hid (bl1 (bdrewA hb))
  have K1 := ((Box.new w [.int .i64 a, .int .i64 a, .int .i64 8] 56 rfl).drew.next hb).three.1
  clear hb
  try dsimp only
  refine hK.out _ _ K1 (fun hHeld2 => ?_)
  clear hK K
  try simp only [Act.put, List.setIfInBounds_toArray, List.set_cons_zero, List.set_cons_succ]
  refine takeYes (i := 5) (v := ?v5) (some 9) rfl rfl (by kernel_rfl) (by kernel_rfl) (by kernel_rfl) (fun _ _ _ h => h) (by rfl) ?y5 hHeld2 ?r5
  case y5 =>
    intro w hSw
    try dsimp only at hSw
    go_simp
    try (with_reducible rfl)
  case r5 =>
  try simp only [Act.put, List.setIfInBounds_toArray, List.set_cons_zero, List.set_cons_succ]
  refine takeYes (i := 6) (v := ?v6) (some 10) rfl rfl (by kernel_rfl) (by kernel_rfl) (by kernel_rfl) (fun _ _ _ h => h) (by rfl) ?y6 hHeld2 ?r6
  case y6 =>
    intro w hSw
    try dsimp only at hSw
    go_simp
    try (with_reducible rfl)
  case r6 =>
  try simp only [Act.put, List.setIfInBounds_toArray, List.set_cons_zero, List.set_cons_succ]
  refine takeYes (i := 7) (v := ?v7) (some 11) rfl rfl (by kernel_rfl) (by kernel_rfl) (by kernel_rfl) (fun _ _ _ h => h) (by rfl) ?y7 hHeld2 ?r7
  case y7 =>
    intro w hSw
    try dsimp only at hSw
    go_simp
    try (with_reducible rfl)
  case r7 =>
  try simp only [Act.put, List.setIfInBounds_toArray, List.set_cons_zero, List.set_cons_succ]
  refine takeYes (i := 8) (v := ?v8) (some 12) rfl rfl (by kernel_rfl) (by kernel_rfl) (by kernel_rfl) (fun _ _ _ h => h) (by rfl) ?y8 hHeld2 ?r8
  case y8 =>
    intro w hSw
    try dsimp only at hSw
    go_simp
    try (with_reducible rfl)
  case r8 =>
  try simp only [Act.put, List.setIfInBounds_toArray, List.set_cons_zero, List.set_cons_succ]
  refine takeYes (i := 9) (v := ?v9) (some 13) rfl rfl (by kernel_rfl) (by kernel_rfl) (by kernel_rfl) (fun _ _ _ h => h) (by rfl) ?y9 hHeld2 ?r9
  case y9 =>
    intro w hSw
    try dsimp only at hSw
    go_simp
    try (with_reducible rfl)
  case r9 =>
  try simp only [Act.put, List.setIfInBounds_toArray, List.set_cons_zero, List.set_cons_succ]
  refine takeYes (i := 10) (v := ?v10) (some 14) rfl rfl (by kernel_rfl) (by kernel_rfl) (by kernel_rfl) (fun _ _ _ h => h) (by rfl) ?y10 hHeld2 ?r10
  case y10 =>
    intro w hSw
    try dsimp only at hSw
    go_simp
    try (with_reducible rfl)
  case r10 =>
  try simp only [Act.put, List.setIfInBounds_toArray, List.set_cons_zero, List.set_cons_succ]
  refine takeYes (i := 11) (v := ?v11) (some 15) rfl rfl (by kernel_rfl) (by kernel_rfl) (by kernel_rfl) (fun _ _ _ h => h) (by rfl) ?y11 hHeld2 ?r11
  case y11 =>
    intro w hSw
    try dsimp only at hSw
    go_simp
    try (with_reducible rfl)
  case r11 =>
  try simp only [Act.put, List.setIfInBounds_toArray, List.set_cons_zero, List.set_cons_succ]
  refine takeYes (i := 12) (v := ?v12) (some 16) rfl rfl (by kernel_rfl) (by kernel_rfl) (by kernel_rfl) (fun _ _ _ h => h) (by rfl) ?y12 hHeld2 ?r12
  case y12 =>
    intro w hSw
    try dsimp only at hSw
    go_simp
    try (with_reducible rfl)
  case r12 =>
  try simp only [Act.put, List.setIfInBounds_toArray, List.set_cons_zero, List.set_cons_succ]
  refine takeYes (i := 13) (v := ?v13) (some 17) rfl rfl (by kernel_rfl) (by kernel_rfl) (by kernel_rfl) (fun _ _ _ h => h) (by rfl) ?y13 hHeld2 ?r13
  case y13 =>
    intro w hSw
    try dsimp only at hSw
    go_simp
    try (with_reducible rfl)
  case r13 =>
  try simp only [Act.put, List.setIfInBounds_toArray, List.set_cons_zero, List.set_cons_succ]
  refine takeYes (i := 14) (v := ?v14) (some 18) rfl rfl (by kernel_rfl) (by kernel_rfl) (by kernel_rfl) (fun _ _ _ h => h) (by rfl) ?y14 hHeld2 ?r14
  case y14 =>
    intro w hSw
    try dsimp only at hSw
    go_simp
    try (with_reducible rfl)
  case r14 =>
  try simp only [Act.put, List.setIfInBounds_toArray, List.set_cons_zero, List.set_cons_succ]
  refine takeYes (i := 15) (v := ?v15) (some 19) rfl rfl (by kernel_rfl) (by kernel_rfl) (by kernel_rfl) (fun _ _ _ h => h) (by rfl) ?y15 hHeld2 ?r15
  case y15 =>
    intro w hSw
    try dsimp only at hSw
    go_simp
    try (with_reducible rfl)
  case r15 =>
  try simp only [Act.put, List.setIfInBounds_toArray, List.set_cons_zero, List.set_cons_succ]
  refine takeYes (i := 16) (v := ?v16) (some 2) rfl rfl (by kernel_rfl) (by kernel_rfl) (by kernel_rfl) (fun _ _ _ h => h) (by rfl) ?y16 hHeld2 ?r16
  case y16 =>
    intro w hSw
    try dsimp only at hSw
    go_simp
    try (with_reducible rfl)
  case r16 =>
  try simp only [Act.put, List.setIfInBounds_toArray, List.set_cons_zero, List.set_cons_succ]
  refine takeYes (i := 17) (v := ?v17) (some 3) rfl rfl (by kernel_rfl) (by kernel_rfl) (by kernel_rfl) (fun _ _ _ h => h) (by rfl) ?y17 hHeld2 ?r17
  case y17 =>
    intro w hSw
    try dsimp only at hSw
    go_simp
    try (with_reducible rfl)
  case r17 =>
  try simp only [Act.put, List.setIfInBounds_toArray, List.set_cons_zero, List.set_cons_succ]
  refine wpAnyH_done (by kernel_rfl) ?_ _
  go_wp2
  exact bodyPost_ret (v := .tuple #[.int .i64 (a.tdiv 8), .bool true]) (by simp [results, Try.results37, go_sem, HQ.out]) rfl ⟨rfl, B1.out.1⟩
def eightB (a : Nat) (b n : Int) : Bool := decide ((a : Int) = b ∧ n = 8 ∧ a % 8 = 0)
theorem seight_any (a : Nat) (b n : Int) (ha : a ≤ 512) (w : World) : Calls Try.prog 37 #[.agg #[.int .i64 (a : Int), .int .i64 b, .int .i64 n]] w fun e w' => e = .returned (.tuple #[.int .i64 ((a / 8 : Nat) : Int), .bool (eightB a b n)]) ∧ Below w.heap.size w w' := by
  have e1 : (a : Int).tdiv 8 = ((a / 8 : Nat) : Int) := by rw [Int.tdiv_eq_ediv_of_nonneg (by omega)]; omega
  have hq : IntKind.i64.wrap ((a : Int).tdiv 8) = (a : Int).tdiv 8 := by rw [e1, IntKind.wrap_i64]; omega
  have e2 : (a : Int).tmod 8 = ((a % 8 : Nat) : Int) := by rw [Int.tmod_eq_emod_of_nonneg (by omega)]; omega
  rw [← e1]
  unfold eightB
  by_cases h1 : (a : Int) = b
  · subst h1
    by_cases h2 : n = 8
    · subst h2
      by_cases h3 : a % 8 = 0
      · rw [decide_eq_true ⟨rfl, rfl, h3⟩]
        exact seight_w (a : Int) (by rw [e2, h3]; rfl) hq w
      · rw [decide_eq_false (fun h => h3 h.2.2)]
        exact seight_r (a : Int) (by rw [e2]; simp; omega) hq w
    · rw [decide_eq_false (fun h => h2 h.2.1)]
      exact seight_n (a : Int) n (by simpa using h2) hq w
  · rw [decide_eq_false (fun h => h1 h.1)]
    exact seight_far (a : Int) b n (by simpa using h1) hq w
end Go.Proofs.Ytdipmlamjjpcoaa

/- States: are all bytes of a piece of the stack set? The library's Index and Contains over bools. -/
namespace Go.Proofs.Ytdipmlamjjpcoaa
open Go.RowKit
attribute [local go_sem] b_and b_or b_xor b_andNot b_low b_top b_most b_signed b_unsigned b_zero b_eq s_eq b_nzero b_neq s_neq b_max b_min s_max s_min
attribute [local go_sem ↓] Go.wp_at_zero Go.wp_at_succ

theorem allB_false {p : Nat → Bool} {n k : Nat} (hk : k < n) (h : p k = false) : allB p n = false := by
  cases e : allB p n with
  | false => rfl
  | true => rw [allB_iff.1 e k hk] at h; cases h
/-- where the first false stands, or -1 -/
def IdxPost (l : List Bool) (w : World) (e : Ending) (w' : World) : Prop := ∃ n : Int, e = .returned (.int .i64 n) ∧ decide (0 ≤ n) = (!allB (st l) l.length) ∧ Below w.heap.size w w'
set_option maxRecDepth 100000 in
theorem sindex_any (q : Option Addr) (l : List Bool) (c : Nat) (w : World) (h : BoolsAt w q l) : Calls Try.prog 65 #[.slice q l.length c, .bool false] w (IdxPost l w) := by
  have hs := h.small
  have HC := Lib.hid h.cells
  have HX := Lib.hid (fun (k : Nat) (h1 : k < l.length) (h2 : st l k = false) => allB_false h1 h2)
  have HT := Lib.hid (fun (h : ∀ j, j < l.length → st l j = true) => allB_iff.2 h)
  unfold IdxPost
  generalize allB (st l) l.length = g at *
  obtain ⟨N, hN⟩ : ∃ N, l.length = N := ⟨_, rfl⟩
  rw [hN] at hs HC HX HT ⊢
  clear hN h
  go_enter Try.func65, Try.ntmps65
  go_wp2
  go_loop [8] (fun i => ∃ k : Nat, k ≤ N ∧ i = .int .i64 (k : Int) ∧ Hid (∀ j, j < k → st l j = true)) (fun i => N - (intOf i).toNat)
  case atStart => exact ⟨0, Nat.zero_le _, rfl, Lib.hid (fun j hj => by omega)⟩
  case round =>
    obtain ⟨k, hk1, rfl, HK⟩ := hrel
    by_cases hk : k < N
    · obtain ⟨b, off, rfl, _, hc⟩ := HC.out k hk
      cases hv : st l k with
      | true =>
        rw [hv] at hc
        have HV := Lib.hid hv
        clear hv
        go_wp2
        go_round
        case rel => exact ⟨k + 1, by omega, rfl, Lib.hid (fun j hj => by
          by_cases e : j = k
          · rw [e]; exact HV.out
          · exact HK.out j (by omega))⟩
        case measure => simp [intOf]; omega
      | false =>
        rw [hv] at hc
        have HG := Lib.hid (HX.out k hk hv)
        clear hv
        go_wp2
        go_ret
        rw [HG.out]
        exact ⟨(k : Int), rfl, by simp, Below.refl _ _⟩
    · have HG := Lib.hid (HT.out (fun j hj => HK.out j (by omega)))
      obtain rfl : k = N := by omega
      go_wp2
      go_ret
      rw [HG.out]
      exact ⟨-1, rfl, by decide, Below.refl _ _⟩
theorem scontains_any (q : Option Addr) (l : List Bool) (c : Nat) (w : World) (h : BoolsAt w q l) : Calls Try.prog 51 #[.slice q l.length c, .bool false] w fun e w' => e = .returned (.bool (!allB (st l) l.length)) ∧ Below w.heap.size w w' := by
  have HI := Lib.hid (sindex_any q l c w h)
  clear h
  generalize hg : allB (st l) l.length = g at *
  unfold IdxPost at HI
  rw [hg] at HI
  generalize l.length = N at *
  clear hg
  go_enter Try.func51, Try.ntmps51
  go_wp2_with (go_at_call 65; (with_reducible refine HI.out.mono ?_); rintro e w1 ⟨n, rfl, hn, hb⟩; have B1 := Lib.hid hb; have HG := Lib.hid hn; clear hb hn)
  go_ret
  exact ⟨ret_bool HG.out.symm, B1.out⟩
end Go.Proofs.Ytdipmlamjjpcoaa

/- States: package state's set: are all bytes of a piece set? -/
namespace Go.Proofs.Ytdipmlamjjpcoaa
open Go.RowKit
attribute [local go_sem] b_and b_or b_xor b_andNot b_low b_top b_most b_signed b_unsigned b_zero b_eq s_eq b_nzero b_neq s_neq b_max b_min s_max s_min
attribute [local go_sem ↓] Go.wp_at_zero Go.wp_at_succ

def piece (l : List Bool) (low n : Nat) : List Bool := (l.drop low).take n
theorem piece_len {l : List Bool} {low n : Nat} (h : low + n ≤ l.length) : (piece l low n).length = n := by
  unfold piece; rw [List.length_take, List.length_drop]; omega
theorem piece_st {l : List Bool} {low n i : Nat} (hi : i < n) : st (piece l low n) i = st l (low + i) := by
  unfold piece st
  simp [List.getD, List.getElem?_drop, hi]
theorem allB_congr {p q : Nat → Bool} : ∀ {n : Nat}, (∀ i, i < n → p i = q i) → allB p n = allB q n
  | 0, _ => rfl
  | n + 1, h => by rw [allB, allB, allB_congr (fun i hi => h i (by omega)), h n (by omega)]
theorem piece_all {l : List Bool} {low n : Nat} (h : low + n ≤ l.length) : allB (st (piece l low n)) (piece l low n).length = setB l low n := by
  rw [piece_len h]
  exact allB_congr (fun i hi => piece_st hi)
theorem piece_at {w : World} {b off : Nat} {l : List Bool} {low n : Nat} (h : BoolsAt w (some ⟨b, off, none⟩) l) (hn : low + n ≤ l.length) : BoolsAt w (some ⟨b, off + low, none⟩) (piece l low n) :=
  ⟨by rw [piece_len hn]; have := h.small; omega, fun i hi => by
    rw [piece_len hn] at hi
    obtain ⟨b', off', e, hb, hc⟩ := h.cells (low + i) (by omega)
    injection e with e
    injection e with e1 e2
    subst e1 e2
    refine ⟨b, off + low, rfl, hb, ?_⟩
    rw [piece_st hi, Nat.add_assoc]
    exact hc⟩
theorem piece_zero {w : World} {q : Option Addr} {l : List Bool} {low : Nat} : BoolsAt w q (piece l low 0) :=
  ⟨Nat.zero_le _, fun i hi => by simp [piece] at hi⟩
set_option maxRecDepth 100000 in
theorem sset_any (A : AbA) (s : Ab) (low high : Nat) (w : World) (h : AbAt w A s) (hl : low ≤ high) (hh : high ≤ s.set.length) (hp : 0 < s.set.length) : Calls Try.prog 28 #[.agg #[.slice A.p1 s.regs.length A.c1, .slice A.p2 s.set.length A.c2, .slice A.p3 s.saved.length A.c3], .int .i64 (low : Int), .int .i64 (high : Int)] w fun e w' => e = .returned (.bool (setB s.set low (high - low))) ∧ Below w.heap.size w w' := by
  have hm : s.set.length ≤ 140737488351232 := h.b.small
  have hcap := h.cap.2.1
  have HB := Lib.hid (fun (W : World) (hb : Below w.heap.size w W) => (h.below hb).b)
  obtain ⟨b, off, hq, _⟩ := h.b.cells 0 hp
  have HC : Hid (∀ (W : World) (hb : Below w.heap.size w W) (c : Nat), Calls Try.prog 51 #[.slice (some ⟨b, off + low, none⟩) (high - low) c, .bool false] W fun e w' => e = .returned (.bool (!setB s.set low (high - low))) ∧ Below W.heap.size W w') := Lib.hid (fun W hb c => by
    have hW := HB.out W hb
    rw [hq] at hW
    have := scontains_any _ _ c W (piece_at (low := low) (n := high - low) hW (by omega))
    rw [piece_all (by omega), piece_len (by omega)] at this
    exact this)
  have HZ : Hid (∀ (q : Option Addr) (W : World) (c : Nat), high - low = 0 → Calls Try.prog 51 #[.slice q (high - low) c, .bool false] W fun e w' => e = .returned (.bool (!setB s.set low (high - low))) ∧ Below W.heap.size W w') := Lib.hid (fun q W c h0 => by
    have e : setB s.set low (high - low) = setB s.set low 0 := by rw [h0]
    rw [e, h0]
    have := scontains_any q (piece s.set low 0) c W piece_zero
    rw [piece_all (by omega), piece_len (by omega)] at this
    exact this)
  obtain ⟨p1, p2, p3, c1, c2, c3⟩ := A
  dsimp only at hq hcap ⊢
  subst hq
  generalize setB s.set low (high - low) = g at *
  clear h HB
  generalize s.set.length = N2 at *
  generalize s.regs.length = N1 at *
  generalize s.saved.length = N3 at *
  go_enter Try.func28, Try.ntmps28
  go_wp2_with (first
    | (go_at_call 51; (with_reducible refine (HZ.out _ _ _ (by omega)).mono ?_); rintro e w1 ⟨rfl, hb⟩; have B1 := Lib.hid (bl1 hb).1; clear hb)
    | (go_at_call 51; (with_reducible refine (HC.out _ b1 _).mono ?_); rintro e w1 ⟨rfl, hb⟩; have B1 := Lib.hid (bl1 hb).1; clear hb))
  all_goals
    go_ret
    exact ⟨ret_bool (by simp), B1.out⟩
end Go.Proofs.Ytdipmlamjjpcoaa

/- States: the library's IndexFunc and ContainsFunc over what is known, asked what may not be. -/
namespace Go.Proofs.Ytdipmlamjjpcoaa
open Go.RowKit
attribute [local go_sem] b_and b_or b_xor b_andNot b_low b_top b_most b_signed b_unsigned b_zero b_eq s_eq b_nzero b_neq s_neq b_max b_min s_max s_min
attribute [local go_sem ↓] Go.wp_at_zero Go.wp_at_succ

def IdfPost (l : List Kn) (w : World) (e : Ending) (w' : World) : Prop := ∃ n : Int, e = .returned (.int .i64 n) ∧ decide (0 ≤ n) = (!allB (fun i => right (rg l i)) l.length) ∧ Below w.heap.size w w'
set_option maxRecDepth 100000 in
set_option maxHeartbeats 1000000 in
theorem sindexf_any (q : Option Addr) (l : List Kn) (c : Nat) (w : World) (h : KnAt w q l) : Calls Try.prog 50 #[.slice q l.length c, .func (.func 27) #[] #[]] w (IdfPost l w) := by
  have hs : l.length ≤ 140737488351232 := by have := h.small; omega
  have HC := Lib.hid (fun (i : Nat) (hi : i < l.length) (W : World) (hb : Below w.heap.size w W) => (h.below hb).cells i hi)
  have HX := Lib.hid (fun (k : Nat) (h1 : k < l.length) (h2 : right (rg l k) = false) => allB_false (p := fun i => right (rg l i)) h1 h2)
  have HT := Lib.hid (fun (h : ∀ j, j < l.length → right (rg l j) = true) => (allB_iff (p := fun i => right (rg l i)) (n := l.length)).2 h)
  unfold IdfPost
  generalize allB (fun i => right (rg l i)) l.length = g at *
  obtain ⟨N, hN⟩ : ∃ N, l.length = N := ⟨_, rfl⟩
  rw [hN] at hs HC HX HT ⊢
  clear hN h
  go_enter Try.func50, Try.ntmps50
  go_wp2
  go_loopw [8] (fun i wr => ∃ k : Nat, k ≤ N ∧ i = .int .i64 (k : Int) ∧ Hid (∀ j, j < k → right (rg l j) = true) ∧ Below w.heap.size w wr) (fun i _ => N - (intOf i).toNat)
  case atStart => exact ⟨0, Nat.zero_le _, rfl, Lib.hid (fun j hj => by omega), Below.refl _ _⟩
  case round =>
    obtain ⟨k, hk1, rfl, HK, hbw⟩ := hrel
    have HW := Lib.hid hbw
    by_cases hk : k < N
    · obtain ⟨b, off, rfl, _, e0, e1, e2, e3, e4, e5, e6, e7⟩ := HC.out k hk wr hbw
      clear hbw
      have HM := Lib.hid (fun W => snot_any (rg l k) W)
      cases hv : right (rg l k) with
      | true =>
        rw [hv] at HM
        have HK' : Hid (∀ j, j < k + 1 → right (rg l j) = true) := Lib.hid (fun j hj => by
          by_cases e : j = k
          · rw [e]; exact hv
          · exact HK.out j (by omega))
        clear hv
        generalize rg l k = x at *
        go_wp2_with (go_at_call 27; (with_reducible refine (HM.out _).mono ?_); rintro e w1 ⟨rfl, hb⟩; have B1 := Lib.hid (bnext HW.out hb); clear hb)
        go_roundw
        case rel => exact ⟨k + 1, by omega, rfl, HK', B1.out⟩
        case measure => simp [intOf]; omega
      | false =>
        rw [hv] at HM
        have HG := Lib.hid (HX.out k hk hv)
        clear hv
        generalize rg l k = x at *
        go_wp2_with (go_at_call 27; (with_reducible refine (HM.out _).mono ?_); rintro e w1 ⟨rfl, hb⟩; have B1 := Lib.hid (bnext HW.out hb); clear hb)
        go_ret
        rw [HG.out]
        exact ⟨(k : Int), rfl, by simp, B1.out⟩
    · have HG := Lib.hid (HT.out (fun j hj => HK.out j (by omega)))
      clear hbw
      obtain rfl : k = N := by omega
      go_wp2
      go_ret
      rw [HG.out]
      exact ⟨-1, rfl, by decide, HW.out⟩
theorem scontf_any (q : Option Addr) (l : List Kn) (c : Nat) (w : World) (h : KnAt w q l) : Calls Try.prog 26 #[.slice q l.length c, .func (.func 27) #[] #[]] w fun e w' => e = .returned (.bool (!allB (fun i => right (rg l i)) l.length)) ∧ Below w.heap.size w w' := by
  have HI := Lib.hid (sindexf_any q l c w h)
  clear h
  generalize hg : allB (fun i => right (rg l i)) l.length = g at *
  unfold IdfPost at HI
  rw [hg] at HI
  generalize l.length = N at *
  clear hg
  go_enter Try.func26, Try.ntmps26
  go_wp2_with (go_at_call 50; (with_reducible refine HI.out.mono ?_); rintro e w1 ⟨n, rfl, hn, hb⟩; have B1 := Lib.hid hb; have HG := Lib.hid hn; clear hb hn)
  go_ret
  exact ⟨ret_bool HG.out.symm, B1.out⟩
end Go.Proofs.Ytdipmlamjjpcoaa
