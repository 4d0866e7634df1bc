/- States: the document's own answer on what is known of a register. -/
import Derived.Test.YtdipmlamjjpcoaaSA

/- States: the document's own answer on what is known of a register. -/
namespace Go.Proofs.Ytdipmlamjjpcoaa
open Go.RowKit
attribute [local go_sem] b_and b_or b_xor b_andNot b_low b_top b_most b_signed b_unsigned b_zero b_eq s_eq b_nzero b_neq s_neq b_max b_min s_max s_min
attribute [local go_sem ↓] Go.wp_at_zero Go.wp_at_succ

theorem rright_0 (m : Bd) (r : Int) (w : World) : Calls Try.prog 9 #[.agg #[.int .i64 0, .int .u64 (U m.ul), .int .u64 (U m.uh), .int .i64 (S m.sl), .int .i64 (S m.sh), .int .u64 (U m.t.v), .int .u64 (U m.t.m), .int .i64 r]] w fun e w' => e = .returned (.bool (decide ((⟨0, m, r⟩ : Kn) = kzero))) ∧ Below w.heap.size w w' := by
  have he := eqK0 ⟨0, m, r⟩
  dsimp only at he
  generalize decide ((⟨0, m, r⟩ : Kn) = kzero) = g at *
  go_enter Try.func9, Try.ntmps9
  go_wp2_with fail
  go_ret
  exact ⟨rfl, b1⟩
theorem rright_1 (m : Bd) (r : Int) (w : World) : Calls Try.prog 9 #[.agg #[.int .i64 1, .int .u64 (U m.ul), .int .u64 (U m.uh), .int .i64 (S m.sl), .int .i64 (S m.sh), .int .u64 (U m.t.v), .int .u64 (U m.t.m), .int .i64 r]] w fun e w' => e = .returned (.bool (bcheck m && decide (r = 0))) ∧ Below w.heap.size w w' := by
  have HC := Lib.hid (fun W => rbcheck_any m W)
  have HN := Lib.hid ((Box.new w [.int .i64 1, .int .u64 (U m.ul), .int .u64 (U m.uh), .int .i64 (S m.sl), .int .i64 (S m.sh), .int .u64 (U m.t.v), .int .u64 (U m.t.m), .int .i64 r] 33 rfl))
  have hr : (r == 0) = decide (r = 0) := rfl
  generalize bcheck m = c at *
  cases c with
  | false =>
    go_enter Try.func9, Try.ntmps9
    go_wp2_with (go_at_call 29; (with_reducible refine (HC.out _).mono ?_); rintro e w1 ⟨rfl, hb⟩; have B1 := Lib.hid (bl1 hb).1; clear hb)
    go_ret
    exact ⟨rfl, B1.out⟩
  | true =>
    go_enter Try.func9, Try.ntmps9
    go_wp2_with (go_at_call 29; (with_reducible refine (HC.out _).mono ?_); rintro e w1 ⟨rfl, hb⟩; have B1 := Lib.hid (bl1 hb).1; have p := (HN.out.next hb).cell 7 _ rfl; clear hb)
    go_ret
    exact ⟨ret_bool (by simp), B1.out⟩
theorem rright_2 (m : Bd) (r : Int) (w : World) : Calls Try.prog 9 #[.agg #[.int .i64 2, .int .u64 (U m.ul), .int .u64 (U m.uh), .int .i64 (S m.sl), .int .i64 (S m.sh), .int .u64 (U m.t.v), .int .u64 (U m.t.m), .int .i64 r]] w fun e w' => e = .returned (.bool (bcheck m && (decide (1 ≤ r) && decide (r ≤ 10)))) ∧ Below w.heap.size w w' := by
  have HC := Lib.hid (fun W => rbcheck_any m W)
  have HN := Lib.hid ((Box.new w [.int .i64 2, .int .u64 (U m.ul), .int .u64 (U m.uh), .int .i64 (S m.sl), .int .i64 (S m.sh), .int .u64 (U m.t.v), .int .u64 (U m.t.m), .int .i64 r] 33 rfl))
  generalize bcheck m = c at *
  cases c with
  | false =>
    go_enter Try.func9, Try.ntmps9
    go_wp2_with (go_at_call 29; (with_reducible refine (HC.out _).mono ?_); rintro e w1 ⟨rfl, hb⟩; have B1 := Lib.hid (bl1 hb).1; clear hb)
    go_ret
    exact ⟨rfl, B1.out⟩
  | true =>
    by_cases h1 : 1 ≤ r
    · go_enter Try.func9, Try.ntmps9
      go_wp2_with (go_at_call 29; (with_reducible refine (HC.out _).mono ?_); rintro e w1 ⟨rfl, hb⟩; have B1 := Lib.hid (bl1 hb).1; have p := (HN.out.next hb).cell 7 _ rfl; clear hb)
      go_ret
      exact ⟨ret_bool (by simp [h1]), B1.out⟩
    · go_enter Try.func9, Try.ntmps9
      go_wp2_with (go_at_call 29; (with_reducible refine (HC.out _).mono ?_); rintro e w1 ⟨rfl, hb⟩; have B1 := Lib.hid (bl1 hb).1; have p := (HN.out.next hb).cell 7 _ rfl; clear hb)
      go_ret
      exact ⟨ret_bool (by simp; omega), B1.out⟩
theorem rright_no (k : Int) (m : Bd) (r : Int) (h0 : (k == 0) = false) (h1 : (k == 1) = false) (h2 : (k == 2) = false) (w : World) : Calls Try.prog 9 #[.agg #[.int .i64 k, .int .u64 (U m.ul), .int .u64 (U m.uh), .int .i64 (S m.sl), .int .i64 (S m.sh), .int .u64 (U m.t.v), .int .u64 (U m.t.m), .int .i64 r]] w fun e w' => e = .returned (.bool false) ∧ Below w.heap.size w w' := by
  go_enter Try.func9, Try.ntmps9
  go_wp2_with fail
  go_ret
  exact ⟨rfl, b1⟩
theorem rright_any (k : Kn) (w : World) : Calls Try.prog 9 #[.agg #[.int .i64 k.kind, .int .u64 (U k.num.ul), .int .u64 (U k.num.uh), .int .i64 (S k.num.sl), .int .i64 (S k.num.sh), .int .u64 (U k.num.t.v), .int .u64 (U k.num.t.m), .int .i64 k.reg]] w fun e w' => e = .returned (.bool (right k)) ∧ Below w.heap.size w w' := by
  obtain ⟨kd, m, r⟩ := k
  by_cases h0 : kd = 0
  · subst h0; exact rright_0 m r w
  by_cases h1 : kd = 1
  · subst h1; exact rright_1 m r w
  by_cases h2 : kd = 2
  · subst h2; exact rright_2 m r w
  have e : right ⟨kd, m, r⟩ = false := by unfold right; rw [if_neg h0, if_neg h1, if_neg h2]
  rw [e]
  exact rright_no kd m r (by simpa using h0) (by simpa using h1) (by simpa using h2) w
end Go.Proofs.Ytdipmlamjjpcoaa

/- States: the document's own answer on which bytes are set. -/
namespace Go.Proofs.Ytdipmlamjjpcoaa
open Go.RowKit
attribute [local go_sem] b_and b_or b_xor b_andNot b_low b_top b_most b_signed b_unsigned b_zero b_eq s_eq b_nzero b_neq s_neq b_max b_min s_max s_min
attribute [local go_sem ↓] Go.wp_at_zero Go.wp_at_succ

theorem setB_true {l : List Bool} {low n : Nat} (h : ∀ j, j < n → st l (low + j) = true) : setB l low n = true := allB_iff.2 h
theorem setB_false {l : List Bool} {low n j : Nat} (hj : j < n) (h : st l (low + j) = false) : setB l low n = false := by
  cases e : setB l low n with
  | false => rfl
  | true => rw [allB_iff.1 e j hj] at h; cases h
set_option maxRecDepth 100000 in
theorem rset_any (A : AbA) (s : Ab) (low high : Nat) (w : World) (h : AbAt w A s) (hl : low ≤ high) (hh : high ≤ s.set.length) : Calls Try.prog 43 #[.agg #[.slice A.p1 s.regs.length A.c1, .slice A.p2 s.set.length A.c2, .slice A.p3 s.saved.length A.c3], .int .i64 (low : Int), .int .i64 (high : Int)] w fun e w' => e = .returned (.bool (setB s.set low (high - low))) ∧ Below w.heap.size w w' := by
  obtain ⟨p1, p2, p3, c1, c2, c3⟩ := A
  have hs := h.b.small
  have HC := Lib.hid (h.alloc (.cells #[.slice p1 s.regs.length c1, .slice p2 s.set.length c2, .slice p3 s.saved.length c3] 25)).b.cells
  dsimp only at HC ⊢
  generalize s.set = l at *
  generalize s.regs.length = N1 at *
  generalize s.saved.length = N3 at *
  obtain ⟨N, hN⟩ : ∃ N, l.length = N := ⟨_, rfl⟩
  rw [hN] at hs hh HC ⊢
  clear hN h
  by_cases hlt : low < high
  · obtain ⟨b, off, rfl, hb0, _⟩ := HC.out low (by omega)
    have HF : Hid (setB l low (high - low) = true ∨ setB l low (high - low) = false) := Lib.hid (by cases setB l low (high - low) <;> simp)
    have HT := Lib.hid (fun (h : ∀ j, j < high - low → st l (low + j) = true) => setB_true h)
    have HX := Lib.hid (fun (j : Nat) (h1 : j < high - low) (h2 : st l (low + j) = false) => setB_false h1 h2)
    clear HF
    generalize setB l low (high - low) = g at *
    go_enter Try.func43, Try.ntmps43
    go_wp2
    go_loop [7] (fun i => ∃ k : Nat, low ≤ k ∧ k ≤ high ∧ i = .int .i64 (k : Int) ∧ Hid (∀ j, j < k - low → st l (low + j) = true)) (fun i => high - (intOf i).toNat)
    case atStart => exact ⟨low, Nat.le_refl _, hl, rfl, Lib.hid (fun j hj => by omega)⟩
    case round =>
      obtain ⟨k, hk1, hk2, rfl, HK⟩ := hrel
      by_cases hk : k < high
      · obtain ⟨b', off', hq, _, hc⟩ := HC.out k (by omega)
        obtain ⟨rfl, rfl⟩ : b = b' ∧ off = off' := by injection hq with hq; injection hq with h1 h2; exact ⟨h1, h2⟩
        clear hq
        cases hv : st l k with
        | true =>
          rw [hv] at hc
          have HV := Lib.hid hv
          clear hv
          go_wp2
          go_round
          case rel => exact ⟨k + 1, by omega, by omega, rfl, Lib.hid (fun j hj => by
            by_cases e : low + j = k
            · rw [e]; exact HV.out
            · exact HK.out j (by omega))⟩
          case measure => simp [intOf]; omega
        | false =>
          rw [hv] at hc
          have HG := Lib.hid (HX.out (k - low) (by omega) (by rw [show low + (k - low) = k by omega]; exact hv))
          clear hv
          go_wp2
          go_ret
          rw [HG.out]
          exact ⟨rfl, b1⟩
      · have HG := Lib.hid (HT.out (fun j hj => HK.out j (by omega)))
        obtain rfl : k = high := by omega
        go_wp2
        go_ret
        rw [HG.out]
        exact ⟨rfl, b1⟩
  · have HG := Lib.hid (setB_true (l := l) (low := low) (n := high - low) (fun j hj => by omega))
    obtain rfl : low = high := by omega
    generalize setB l low (low - low) = g at *
    go_enter Try.func43, Try.ntmps43
    go_wp2
    go_loop [7] (fun i => i = .int .i64 (low : Int)) (fun _ => 0)
    case atStart => rfl
    case round =>
      obtain rfl := hrel
      go_wp2
      go_ret
      rw [HG.out]
      exact ⟨rfl, b1⟩
end Go.Proofs.Ytdipmlamjjpcoaa

/- States: the document's own answer on which states may be. -/
namespace Go.Proofs.Ytdipmlamjjpcoaa
open Go.RowKit
attribute [local go_sem] b_and b_or b_xor b_andNot b_low b_top b_most b_signed b_unsigned b_zero b_eq s_eq b_nzero b_neq s_neq b_max b_min s_max s_min
attribute [local go_sem ↓] Go.wp_at_zero Go.wp_at_succ

theorem rset_8 (A : AbA) (s : Ab) (k : Nat) (w : World) (h : AbAt w A s) (hh : 8 * k + 8 ≤ s.set.length) : Calls Try.prog 43 #[.agg #[.slice A.p1 s.regs.length A.c1, .slice A.p2 s.set.length A.c2, .slice A.p3 s.saved.length A.c3], .int .i64 (8 * (k : Int)), .int .i64 (8 * (k : Int) + 8)] w fun e w' => e = .returned (.bool (setB s.set (8 * k) 8)) ∧ Below w.heap.size w w' := by
  have h := rset_any A s (8 * k) (8 * k + 8) w h (by omega) hh
  rw [show ((8 * k + 8 : Nat) : Int) = 8 * (k : Int) + 8 by omega, show ((8 * k : Nat) : Int) = 8 * (k : Int) by omega, show 8 * k + 8 - 8 * k = 8 by omega] at h
  exact h
/-- a box, all else as it was -/
structure Bx (w W : World) (cs : List Value) : Prop where
  low : Below w.heap.size w W
  bx : Box W w.heap.size cs
theorem Bx.next {w W W' : World} {cs : List Value} (h : Bx w W cs) (hb : Below W.heap.size W W') : Bx w W' cs := ⟨bnext h.low hb, h.bx.next hb⟩
theorem Bx.new (w : World) (cs : List Value) (t : TypeId) : Bx w (w.alloc (.cells cs.toArray t)) cs := ⟨b1, Box.new w cs t rfl⟩
theorem check_no {s : Ab} (h : ¬ (s.regs.length = 11 ∧ s.set.length = 512 ∧ s.saved.length = 64)) : checkS s = false := by
  cases e : checkS s with
  | false => rfl
  | true => exact absurd (check_iff.1 e).1 h
theorem check_no1 {s : Ab} {k : Nat} (hk : k < 11) (h : right (rg s.regs k) = false) : checkS s = false := by
  cases e : checkS s with
  | false => rfl
  | true => rw [(check_iff.1 e).2.1 k hk] at h; cases h
theorem check_no2 {s : Ab} {k : Nat} (hk : k < 64) (h : savedB s k = false) : checkS s = false := by
  cases e : checkS s with
  | false => rfl
  | true =>
    unfold checkS at e
    rw [Bool.and_eq_true, allB_iff] at e
    rw [e.2 k hk] at h; cases h
theorem check_yes {s : Ab} (h : s.regs.length = 11 ∧ s.set.length = 512 ∧ s.saved.length = 64) (h1 : ∀ k, k < 11 → right (rg s.regs k) = true) (h2 : ∀ k, k < 64 → savedB s k = true) : checkS s = true := by
  unfold checkS
  rw [Bool.and_eq_true, Bool.and_eq_true, Bool.and_eq_true, Bool.and_eq_true, allB_iff, allB_iff, decide_eq_true_eq, decide_eq_true_eq, decide_eq_true_eq]
  exact ⟨⟨⟨⟨h.1, h.2.1⟩, h.2.2⟩, h1⟩, h2⟩
theorem rcheck_len (A : AbA) (s : Ab) (hn : ¬ (s.regs.length = 11 ∧ s.set.length = 512 ∧ s.saved.length = 64)) (w : World) : Calls Try.prog 42 #[.agg #[.slice A.p1 s.regs.length A.c1, .slice A.p2 s.set.length A.c2, .slice A.p3 s.saved.length A.c3]] w fun e w' => e = .returned (.bool (checkS s)) ∧ Below w.heap.size w w' := by
  rw [check_no hn]
  obtain ⟨p1, p2, p3, c1, c2, c3⟩ := A
  dsimp only
  generalize s.set.length = N2 at *
  generalize s.regs.length = N1 at *
  generalize s.saved.length = N3 at *
  by_cases e1 : N1 = 11
  · by_cases e2 : N2 = 512
    · have e3 : ¬ N3 = 64 := fun e3 => hn ⟨e1, e2, e3⟩
      clear hn
      subst e1
      subst e2
      have f3 : ((N3 : Int) == 64) = false := by simp; omega
      go_enter Try.func42, Try.ntmps42
      go_wp2
      go_ret
      exact ⟨rfl, b1⟩
    · clear hn
      subst e1
      have f2 : ((N2 : Int) == 512) = false := by simp; omega
      go_enter Try.func42, Try.ntmps42
      go_wp2
      go_ret
      exact ⟨rfl, b1⟩
  · clear hn
    have f1 : ((N1 : Int) == 11) = false := by simp; omega
    go_enter Try.func42, Try.ntmps42
    go_wp2
    go_ret
    exact ⟨rfl, b1⟩
end Go.Proofs.Ytdipmlamjjpcoaa

/- States: the document's own answer on which states may be, walked. -/
namespace Go.Proofs.Ytdipmlamjjpcoaa
open Go.RowKit
attribute [local go_sem] b_and b_or b_xor b_andNot b_low b_top b_most b_signed b_unsigned b_zero b_eq s_eq b_nzero b_neq s_neq b_max b_min s_max s_min
attribute [local go_sem ↓] Go.wp_at_zero Go.wp_at_succ

theorem savedB_no {s : Ab} {k : Nat} (h : right (rg s.saved k) = false) : savedB s k = false := by unfold savedB; rw [h]; rfl
theorem savedB_un {s : Ab} {k : Nat} (h : right (rg s.saved k) = true) (h0 : (rg s.saved k).kind = 0) : savedB s k = true := by unfold savedB; rw [h, decide_eq_true h0]; rfl
theorem savedB_set {s : Ab} {k : Nat} (h : right (rg s.saved k) = true) (h0 : ¬ (rg s.saved k).kind = 0) : savedB s k = setB s.set (8 * k) 8 := by unfold savedB; rw [h, decide_eq_false h0]; rfl
set_option maxRecDepth 100000 in
set_option maxHeartbeats 2000000 in
theorem rcheck_any (A : AbA) (s : Ab) (w : World) (h : AbAt w A s) : Calls Try.prog 42 #[.agg #[.slice A.p1 s.regs.length A.c1, .slice A.p2 s.set.length A.c2, .slice A.p3 s.saved.length A.c3]] w fun e w' => e = .returned (.bool (checkS s)) ∧ Below w.heap.size w w' := by
  by_cases hn : s.regs.length = 11 ∧ s.set.length = 512 ∧ s.saved.length = 64
  case neg => exact rcheck_len A s hn w
  have HQ := Lib.hid (fun h1 h2 => check_yes (s := s) hn h1 h2)
  have HX1 := Lib.hid (fun (k : Nat) (h1 : k < 11) h2 => check_no1 (s := s) h1 h2)
  have HX2 := Lib.hid (fun (k : Nat) (h1 : k < 64) h2 => check_no2 (s := s) h1 h2)
  have HS := Lib.hid (fun (k : Nat) (hk : k < 64) (W : World) (hW : AbAt W A s) => rset_8 A s k W hW (by omega))
  have HA := Lib.hid (fun (W : World) (hb : Below w.heap.size w W) => h.below hb)
  obtain ⟨n1, n2, n3⟩ := hn
  rw [n1, n2, n3] at HS ⊢
  generalize checkS s = g at *
  have HB := Lib.hid (fun (cs : List Value) => Bx.new w cs 25)
  have HN := Lib.hid (HB.out [.slice A.p1 11 A.c1, .slice A.p2 512 A.c2, .slice A.p3 64 A.c3])
  have HR := Lib.hid (fun (i : Nat) (hi : i < 11) (W : World) (hb : Below w.heap.size w W) => (h.below hb).r.cells i (by omega))
  have HV := Lib.hid (fun (i : Nat) (hi : i < 64) (W : World) (hb : Below w.heap.size w W) => (h.below hb).v.cells i (by omega))
  obtain ⟨b1', o1, hp1, _⟩ := h.r.cells 0 (by omega)
  obtain ⟨b3', o3, hp3, _⟩ := h.v.cells 0 (by omega)
  have HP1 := Lib.hid hp1
  have HP3 := Lib.hid hp3
  clear h n1 n2 n3 HB hp1 hp3
  rw [HP1.out] at HN ⊢
  rw [HP3.out] at HN ⊢
  rw [HP1.out, HP3.out] at HS
  go_enter Try.func42, Try.ntmps42
  go_wp2
  go_loopw [3] (fun i wr => ∃ k : Nat, k ≤ 11 ∧ i = .int .i64 (k : Int) ∧ Hid (∀ j, j < k → right (rg s.regs j) = true) ∧ Bx w wr [.slice (some ⟨b1', o1, none⟩) 11 A.c1, .slice A.p2 512 A.c2, .slice (some ⟨b3', o3, none⟩) 64 A.c3]) (fun i _ => 11 - (intOf i).toNat)
  case atStart => exact ⟨0, Nat.zero_le _, rfl, Lib.hid (fun j hj => by omega), HN.out⟩
  case round =>
    clear HN
    obtain ⟨k, hk1, rfl, HK, hbx⟩ := hrel
    have HN := Lib.hid hbx
    have q1 := hbx.bx.cell 0 _ rfl
    have q2 := hbx.bx.cell 1 _ rfl
    have q3 := hbx.bx.cell 2 _ rfl
    have z0 := hbx.bx.lt
    clear hbx
    by_cases hk : k < 11
    · obtain ⟨b', off', hq, _, e0, e1, e2, e3, e4, e5, e6, e7⟩ := HR.out k hk wr HN.out.low
      obtain ⟨rfl, rfl⟩ : b1' = b' ∧ o1 = off' := by rw [HP1.out] at hq; injection hq with hq; injection hq with h1 h2; exact ⟨h1, h2⟩
      clear hq
      have HC := Lib.hid (fun W => rright_any (rg s.regs k) W)
      cases hv : right (rg s.regs k) with
      | true =>
        rw [hv] at HC
        have HK' : Hid (∀ j, j < k + 1 → right (rg s.regs j) = true) := Lib.hid (fun j hj => by
          by_cases e : j = k
          · rw [e]; exact hv
          · exact HK.out j (by omega))
        clear hv
        generalize rg s.regs k = x at *
        go_wp2_with (go_at_call 9; (with_reducible refine (HC.out _).mono ?_); rintro e w1 ⟨rfl, hb⟩; have H' := Lib.hid (HN.out.next hb); have z1 := hb.size; clear hb HN q1 q2 q3 z0; have HN := H'; clear H'; have q1 := HN.out.bx.cell 0 _ rfl; have q2 := HN.out.bx.cell 1 _ rfl; have q3 := HN.out.bx.cell 2 _ rfl; have z0 := HN.out.bx.lt)
        go_roundw
        case rel => exact ⟨k + 1, by omega, rfl, HK', HN.out⟩
        case measure => simp [intOf]; omega
      | false =>
        rw [hv] at HC
        have HG := Lib.hid (HX1.out k hk hv)
        clear hv
        generalize rg s.regs k = x at *
        go_wp2_with (go_at_call 9; (with_reducible refine (HC.out _).mono ?_); rintro e w1 ⟨rfl, hb⟩; have H' := Lib.hid (HN.out.next hb); have z1 := hb.size; clear hb HN q1 q2 q3 z0; have HN := H'; clear H'; have q1 := HN.out.bx.cell 0 _ rfl; have q2 := HN.out.bx.cell 1 _ rfl; have q3 := HN.out.bx.cell 2 _ rfl; have z0 := HN.out.bx.lt)
        go_ret
        rw [HG.out]
        exact ⟨rfl, HN.out.low⟩
    · have HK11 : Hid (∀ j, j < 11 → right (rg s.regs j) = true) := Lib.hid (fun j hj => HK.out j (by omega))
      go_wp2_with fail
      clear hk hk1 q1 q2 q3 z0 HK
      go_loopw [4] (fun i wr => ∃ m : Nat, m ≤ 64 ∧ i = .int .i64 (m : Int) ∧ Hid (∀ j, j < m → savedB s j = true) ∧ Bx w wr [.slice (some ⟨b1', o1, none⟩) 11 A.c1, .slice A.p2 512 A.c2, .slice (some ⟨b3', o3, none⟩) 64 A.c3]) (fun i _ => 64 - (intOf i).toNat)
      case atStart => exact ⟨0, Nat.zero_le _, rfl, Lib.hid (fun j hj => by omega), HN.out⟩
      case round =>
        clear HN
        obtain ⟨m, hm1, rfl, HL, hbx⟩ := hrel
        have HN := Lib.hid hbx
        have q1 := hbx.bx.cell 0 _ rfl
        have q2 := hbx.bx.cell 1 _ rfl
        have q3 := hbx.bx.cell 2 _ rfl
        have z0 := hbx.bx.lt
        clear hbx
        by_cases hm : m < 64
        · have HE := Lib.hid (fun (W : World) (hb : Below w.heap.size w W) => (show W.cell? ⟨b3', o3 + m * 8, none⟩ = some (.int .i64 (rg s.saved m).kind) from by
            obtain ⟨b', off', hq, _, e0, _⟩ := HV.out m hm W hb
            obtain ⟨rfl, rfl⟩ : b3' = b' ∧ o3 = off' := by rw [HP3.out] at hq; injection hq with hq; injection hq with h1 h2; exact ⟨h1, h2⟩
            exact e0))
          obtain ⟨b', off', hq, _, e0, e1, e2, e3, e4, e5, e6, e7⟩ := HV.out m hm _ HN.out.low
          obtain ⟨rfl, rfl⟩ : b3' = b' ∧ o3 = off' := by rw [HP3.out] at hq; injection hq with hq; injection hq with h1 h2; exact ⟨h1, h2⟩
          clear hq
          have HC := Lib.hid (fun W => rright_any (rg s.saved m) W)
          cases hv : right (rg s.saved m) with
          | false =>
            rw [hv] at HC
            have HG := Lib.hid (HX2.out m hm (savedB_no hv))
            clear hv
            generalize rg s.saved m = x at *
            go_wp2_with (go_at_call 9; (with_reducible refine (HC.out _).mono ?_); rintro e w1 ⟨rfl, hb⟩; have H' := Lib.hid (HN.out.next hb); have z1 := hb.size; clear hb HN q1 q2 q3 z0; have HN := H'; clear H'; have q1 := HN.out.bx.cell 0 _ rfl; have q2 := HN.out.bx.cell 1 _ rfl; have q3 := HN.out.bx.cell 2 _ rfl; have z0 := HN.out.bx.lt)
            go_ret
            rw [HG.out]
            exact ⟨rfl, HN.out.low⟩
          | true =>
            rw [hv] at HC
            by_cases h0 : (rg s.saved m).kind = 0
            · have HK' : Hid (∀ j, j < m + 1 → savedB s j = true) := Lib.hid (fun j hj => by
                by_cases e : j = m
                · rw [e]; exact savedB_un hv h0
                · exact HL.out j (by omega))
              rw [h0] at e0 HE
              have hc := fun W => rright_any (rg s.saved m) W
              simp only [h0] at hc
              rw [hv] at hc
              have HC := Lib.hid hc
              clear hv h0 hc
              generalize rg s.saved m = x at *
              go_wp2_with (go_at_call 9; (with_reducible refine (HC.out _).mono ?_); rintro e w1 ⟨rfl, hb⟩; have H' := Lib.hid (HN.out.next hb); have z1 := hb.size; clear hb HN q1 q2 q3 z0; have HN := H'; clear H'; have q1 := HN.out.bx.cell 0 _ rfl; have q2 := HN.out.bx.cell 1 _ rfl; have q3 := HN.out.bx.cell 2 _ rfl; have z0 := HN.out.bx.lt; have e9 := HE.out _ HN.out.low)
              go_roundw
              case rel => exact ⟨m + 1, by omega, rfl, HK', HN.out⟩
              case measure => simp [intOf]; omega
            · have HS' := Lib.hid (HS.out m hm)
              have h9 : ¬ (rg s.saved m).kind = 0 := h0
              cases hw : setB s.set (8 * m) 8 with
              | true =>
                rw [hw] at HS'
                have HK' : Hid (∀ j, j < m + 1 → savedB s j = true) := Lib.hid (fun j hj => by
                  by_cases e : j = m
                  · rw [e, savedB_set hv h0]; exact hw
                  · exact HL.out j (by omega))
                clear hv h0 hw
                generalize rg s.saved m = x at *
                go_wp2_with (first
                  | (go_at_call 43; (with_reducible refine (HS'.out _ (HA.out _ HN.out.low)).mono ?_); rintro e w2 ⟨rfl, hb⟩; have H' := Lib.hid (HN.out.next hb); clear hb HN q1 q2 q3 z0; have HN := H'; clear H')
                  | (go_at_call 9; (with_reducible refine (HC.out _).mono ?_); rintro e w1 ⟨rfl, hb⟩; have H' := Lib.hid (HN.out.next hb); have z1 := hb.size; clear hb HN q1 q2 q3 z0; have HN := H'; clear H'; have q1 := HN.out.bx.cell 0 _ rfl; have q2 := HN.out.bx.cell 1 _ rfl; have q3 := HN.out.bx.cell 2 _ rfl; have z0 := HN.out.bx.lt; have e9 := HE.out _ HN.out.low))
                go_roundw
                case rel => exact ⟨m + 1, by omega, rfl, HK', HN.out⟩
                case measure => simp [intOf]; omega
              | false =>
                rw [hw] at HS'
                have HG := Lib.hid (HX2.out m hm (by rw [savedB_set hv h0]; exact hw))
                clear hv h0 hw
                generalize rg s.saved m = x at *
                go_wp2_with (first
                  | (go_at_call 43; (with_reducible refine (HS'.out _ (HA.out _ HN.out.low)).mono ?_); rintro e w2 ⟨rfl, hb⟩; have H' := Lib.hid (HN.out.next hb); clear hb HN q1 q2 q3 z0; have HN := H'; clear H')
                  | (go_at_call 9; (with_reducible refine (HC.out _).mono ?_); rintro e w1 ⟨rfl, hb⟩; have H' := Lib.hid (HN.out.next hb); have z1 := hb.size; clear hb HN q1 q2 q3 z0; have HN := H'; clear H'; have q1 := HN.out.bx.cell 0 _ rfl; have q2 := HN.out.bx.cell 1 _ rfl; have q3 := HN.out.bx.cell 2 _ rfl; have z0 := HN.out.bx.lt; have e9 := HE.out _ HN.out.low))
                go_ret
                rw [HG.out]
                exact ⟨rfl, HN.out.low⟩
        · have HL64 : Hid (∀ j, j < 64 → savedB s j = true) := Lib.hid (fun j hj => HL.out j (by omega))
          have HG := Lib.hid (HQ.out HK11.out HL64.out)
          go_wp2_with fail
          go_ret
          rw [HG.out]
          exact ⟨rfl, HN.out.low⟩
end Go.Proofs.Ytdipmlamjjpcoaa

/- States: the document's own answer on places and on what is ready. -/
namespace Go.Proofs.Ytdipmlamjjpcoaa
open Go.RowKit
attribute [local go_sem] b_and b_or b_xor b_andNot b_low b_top b_most b_signed b_unsigned b_zero b_eq s_eq b_nzero b_neq s_neq b_max b_min s_max s_min
attribute [local go_sem ↓] Go.wp_at_zero Go.wp_at_succ

theorem places_no {s : Ab} {low high n : Int} (h : ¬ (0 ≤ low ∧ low ≤ high ∧ 1 ≤ n ∧ high ≤ 512 ∧ n ≤ 512 - high)) : placesS s low high n = false := by
  unfold placesS; rw [decide_eq_false h, Bool.and_false]
theorem places_check {s : Ab} {low high n : Int} (h : checkS s = false) : placesS s low high n = false := by
  unfold placesS; rw [h, Bool.false_and]
theorem places_yes {s : Ab} {low high n : Int} (hc : checkS s = true) (h : 0 ≤ low ∧ low ≤ high ∧ 1 ≤ n ∧ high ≤ 512 ∧ n ≤ 512 - high) : placesS s low high n = true := places_iff.2 ⟨hc, h⟩
set_option maxRecDepth 100000 in
theorem rplaces_any (A : AbA) (s : Ab) (low high n : Int) (w : World) (h : AbAt w A s) : Calls Try.prog 41 #[.agg #[.slice A.p1 s.regs.length A.c1, .slice A.p2 s.set.length A.c2, .slice A.p3 s.saved.length A.c3], .int .i64 low, .int .i64 high, .int .i64 n] w fun e w' => e = .returned (.bool (placesS s low high n)) ∧ Below w.heap.size w w' := by
  have HC := Lib.hid (fun (W : World) (hb : Below w.heap.size w W) => rcheck_any A s W (h.below hb))
  have HP := Lib.hid (fun (hc : checkS s = true) hp => places_yes (s := s) (low := low) (high := high) (n := n) hc hp)
  have HN := Lib.hid (fun hp => places_no (s := s) (low := low) (high := high) (n := n) hp)
  have HX := Lib.hid (fun (hc : checkS s = false) => places_check (s := s) (low := low) (high := high) (n := n) hc)
  generalize placesS s low high n = g at *
  generalize s.regs.length = N1 at *
  generalize s.set.length = N2 at *
  generalize s.saved.length = N3 at *
  clear h
  cases hc : checkS s with
  | false =>
    rw [hc] at HC
    have HG := Lib.hid (HX.out hc)
    clear hc HN HX HP
    go_enter Try.func41, Try.ntmps41
    go_wp2_with (go_at_call 42; (with_reducible refine (HC.out _ b1).mono ?_); rintro e w1 ⟨rfl, hb⟩; have B1 := Lib.hid (bl1 hb).1; clear hb)
    go_ret
    rw [HG.out]
    exact ⟨rfl, B1.out⟩
  | true =>
    rw [hc] at HC
    have HG := Lib.hid (HP.out hc)
    clear hc HP HX
    by_cases p1 : 0 ≤ low
    · by_cases p2 : low ≤ high
      · by_cases p3 : 1 ≤ n
        · by_cases p4 : high ≤ 512
          · by_cases p5 : n ≤ 512 - high
            · have HG' := Lib.hid (HG.out ⟨p1, p2, p3, p4, p5⟩)
              go_enter Try.func41, Try.ntmps41
              go_wp2_with (go_at_call 42; (with_reducible refine (HC.out _ b1).mono ?_); rintro e w1 ⟨rfl, hb⟩; have B1 := Lib.hid (bl1 hb).1; clear hb)
              go_ret
              rw [HG'.out]
              exact ⟨ret_bool (by first | (simp; omega) | simp), B1.out⟩
            · have HG' := Lib.hid (HN.out (fun h => p5 h.2.2.2.2))
              go_enter Try.func41, Try.ntmps41
              go_wp2_with (go_at_call 42; (with_reducible refine (HC.out _ b1).mono ?_); rintro e w1 ⟨rfl, hb⟩; have B1 := Lib.hid (bl1 hb).1; clear hb)
              go_ret
              rw [HG'.out]
              exact ⟨ret_bool (by first | (simp; omega) | simp), B1.out⟩
          · have HG' := Lib.hid (HN.out (fun h => p4 h.2.2.2.1))
            go_enter Try.func41, Try.ntmps41
            go_wp2_with (go_at_call 42; (with_reducible refine (HC.out _ b1).mono ?_); rintro e w1 ⟨rfl, hb⟩; have B1 := Lib.hid (bl1 hb).1; clear hb)
            go_ret
            rw [HG'.out]
            exact ⟨rfl, B1.out⟩
        · have HG' := Lib.hid (HN.out (fun h => p3 h.2.2.1))
          go_enter Try.func41, Try.ntmps41
          go_wp2_with (go_at_call 42; (with_reducible refine (HC.out _ b1).mono ?_); rintro e w1 ⟨rfl, hb⟩; have B1 := Lib.hid (bl1 hb).1; clear hb)
          go_ret
          rw [HG'.out]
          exact ⟨rfl, B1.out⟩
      · have HG' := Lib.hid (HN.out (fun h => p2 h.2.1))
        go_enter Try.func41, Try.ntmps41
        go_wp2_with (go_at_call 42; (with_reducible refine (HC.out _ b1).mono ?_); rintro e w1 ⟨rfl, hb⟩; have B1 := Lib.hid (bl1 hb).1; clear hb)
        go_ret
        rw [HG'.out]
        exact ⟨rfl, B1.out⟩
    · have HG' := Lib.hid (HN.out (fun h => p1 h.1))
      go_enter Try.func41, Try.ntmps41
      go_wp2_with (go_at_call 42; (with_reducible refine (HC.out _ b1).mono ?_); rintro e w1 ⟨rfl, hb⟩; have B1 := Lib.hid (bl1 hb).1; clear hb)
      go_ret
      rw [HG'.out]
      exact ⟨rfl, B1.out⟩
theorem ready_no {s : Ab} {low high : Int} (h : ¬ (0 ≤ low ∧ low ≤ high ∧ high ≤ 512)) : readyS s low high = false := by
  unfold readyS; rw [decide_eq_false h, Bool.and_false, Bool.false_and]
theorem ready_check {s : Ab} {low high : Int} (h : checkS s = false) : readyS s low high = false := by
  unfold readyS; rw [h, Bool.false_and, Bool.false_and]
theorem ready_yes {s : Ab} {l h : Nat} (hc : checkS s = true) (h1 : l ≤ h) (h2 : h ≤ 512) : readyS s (l : Int) (h : Int) = setB s.set l (h - l) := by
  unfold readyS
  rw [hc, decide_eq_true (show (0 : Int) ≤ (l : Int) ∧ (l : Int) ≤ (h : Int) ∧ (h : Int) ≤ 512 from ⟨by omega, by omega, by omega⟩), Bool.true_and, Bool.true_and, Int.toNat_natCast, Int.toNat_natCast]
set_option maxRecDepth 100000 in
theorem rready_any (A : AbA) (s : Ab) (low high : Int) (w : World) (h : AbAt w A s) : Calls Try.prog 22 #[.agg #[.slice A.p1 s.regs.length A.c1, .slice A.p2 s.set.length A.c2, .slice A.p3 s.saved.length A.c3], .int .i64 low, .int .i64 high] w fun e w' => e = .returned (.bool (readyS s low high)) ∧ Below w.heap.size w w' := by
  have HC := Lib.hid (fun (W : World) (hb : Below w.heap.size w W) => rcheck_any A s W (h.below hb))
  have HN := Lib.hid (fun hp => ready_no (s := s) (low := low) (high := high) hp)
  have HX := Lib.hid (fun (hc : checkS s = false) => ready_check (s := s) (low := low) (high := high) hc)
  cases hc : checkS s with
  | false =>
    rw [hc] at HC
    have HG := Lib.hid (HX.out hc)
    generalize readyS s low high = g at *
    generalize s.regs.length = N1 at *
    generalize s.set.length = N2 at *
    generalize s.saved.length = N3 at *
    clear hc HN HX h
    go_enter Try.func22, Try.ntmps22
    go_wp2_with (go_at_call 42; (with_reducible refine (HC.out _ b1).mono ?_); rintro e w1 ⟨rfl, hb⟩; have B1 := Lib.hid (bl1 hb).1; clear hb)
    go_ret
    rw [HG.out]
    exact ⟨rfl, B1.out⟩
  | true =>
    rw [hc] at HC
    by_cases p1 : 0 ≤ low
    · by_cases p2 : low ≤ high
      · by_cases p3 : high ≤ 512
        · obtain ⟨l, rfl⟩ := Int.eq_ofNat_of_zero_le p1
          obtain ⟨k, rfl⟩ := Int.eq_ofNat_of_zero_le (Int.le_trans p1 p2)
          have n2 := (check_iff.1 hc).1.2.1
          rw [ready_yes hc (by omega) (by omega)]
          have HS := Lib.hid (fun (W : World) (hb : Below w.heap.size w W) => rset_any A s l k W (h.below hb) (by omega) (by omega))
          generalize setB s.set l (k - l) = g at *
          have HB := Lib.hid (Bx.new w [.slice A.p1 s.regs.length A.c1, .slice A.p2 s.set.length A.c2, .slice A.p3 s.saved.length A.c3] 25)
          generalize s.regs.length = N1 at *
          generalize s.set.length = N2 at *
          generalize s.saved.length = N3 at *
          clear hc HN HX h n2 p1
          go_enter Try.func22, Try.ntmps22
          go_wp2_with (first
            | (go_at_call 43; (with_reducible refine (HS.out _ HN'.out.low).mono ?_); rintro e w2 ⟨rfl, hb⟩; have H2 := Lib.hid (HN'.out.next hb); clear hb)
            | (go_at_call 42; (with_reducible refine (HC.out _ b1).mono ?_); rintro e w1 ⟨rfl, hb⟩; have HN' := Lib.hid (HB.out.next hb); have q1 := HN'.out.bx.cell 0 _ rfl; have q2 := HN'.out.bx.cell 1 _ rfl; have q3 := HN'.out.bx.cell 2 _ rfl; have z0 := HN'.out.bx.lt; clear hb))
          go_ret
          exact ⟨rfl, H2.out.low⟩
        · have HG := Lib.hid (HN.out (fun h => p3 h.2.2))
          generalize readyS s low high = g at *
          generalize s.regs.length = N1 at *
          generalize s.set.length = N2 at *
          generalize s.saved.length = N3 at *
          clear hc HN HX h
          go_enter Try.func22, Try.ntmps22
          go_wp2_with (go_at_call 42; (with_reducible refine (HC.out _ b1).mono ?_); rintro e w1 ⟨rfl, hb⟩; have B1 := Lib.hid (bl1 hb).1; clear hb)
          go_ret
          rw [HG.out]
          exact ⟨rfl, B1.out⟩
      · have HG := Lib.hid (HN.out (fun h => p2 h.2.1))
        generalize readyS s low high = g at *
        generalize s.regs.length = N1 at *
        generalize s.set.length = N2 at *
        generalize s.saved.length = N3 at *
        clear hc HN HX h
        go_enter Try.func22, Try.ntmps22
        go_wp2_with (go_at_call 42; (with_reducible refine (HC.out _ b1).mono ?_); rintro e w1 ⟨rfl, hb⟩; have B1 := Lib.hid (bl1 hb).1; clear hb)
        go_ret
        rw [HG.out]
        exact ⟨rfl, B1.out⟩
    · have HG := Lib.hid (HN.out (fun h => p1 h.1))
      generalize readyS s low high = g at *
      generalize s.regs.length = N1 at *
      generalize s.set.length = N2 at *
      generalize s.saved.length = N3 at *
      clear hc HN HX h
      go_enter Try.func22, Try.ntmps22
      go_wp2_with (go_at_call 42; (with_reducible refine (HC.out _ b1).mono ?_); rintro e w1 ⟨rfl, hb⟩; have B1 := Lib.hid (bl1 hb).1; clear hb)
      go_ret
      rw [HG.out]
      exact ⟨rfl, B1.out⟩
end Go.Proofs.Ytdipmlamjjpcoaa
