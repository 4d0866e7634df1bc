/- Flow: the law on what stands inside a block. -/
import Derived.Test.YtlpijnnlmgoihaaGH
import Derived.Deep.QuietTactic
namespace Go.Proofs.Ytlpijnnlmgoihaa
open Go.RowKit M

set_option maxRecDepth 100000 in
theorem inside_no (q : Option Addr) (qc : Nat) (l : List In) (w : World) (h : InsAt w q l) (hc : ((checkS l).2 == 0) = false) : Calls Try.prog 6 #[.slice q l.length qc] w fun e w' => e = .returned (.bool true) ∧ Below w.heap.size w w' := by
  have HB := Lib.hid (fun (W : World) (hb : Below w.heap.size w W) => sblocks_any q qc l W (h.below hb))
  have hs := h.small
  clear h
  generalize (checkS l).2 = x at *
  generalize blocksL l = B at *
  generalize B.length = n at *
  generalize l.length = N at *
  go_enter Try.func6, Try.ntmps6
  go_wp2_with (first
    | (go_at_call 7; (with_reducible refine (HB.out _ (Below.refl _ _)).mono ?_); rintro e w1 ⟨p, c, rfl, _, hb⟩; have B1 := Lib.hid hb; clear hb)
    | (go_at_call 15; (with_reducible refine (heads14_any _).mono ?_); rintro e w2 ⟨rfl, hb⟩; have B2 := Lib.hid (B1.out.trans (hb.mono B1.out.size)); clear hb))
  go_ret
  exact ⟨rfl, B2.out⟩
set_option maxRecDepth 100000 in
set_option maxHeartbeats 2000000 in
theorem inside_ok (q : Option Addr) (qc : Nat) (l : List In) (w : World) (h : InsAt w q l) (hc : (checkS l).2 = 0) : Calls Try.prog 6 #[.slice q l.length qc] w fun e w' => e = .returned (.bool true) ∧ Below w.heap.size w w' := by
  obtain ⟨n, fr, to, la, hI⟩ := ins4 hc
  have hG := check_flow hc
  have hb0 := fun (W : World) (hb : Below w.heap.size w W) => sblocks_any q qc l W (h.below hb)
  rw [hc, hI.len] at hb0
  have HB := Lib.hid hb0
  have HBK := Lib.hid (fun (p : Option Addr) (W : World) (hB : BksAt W p (blocksL l)) (k : Nat) (hk : k < n) => (show ∃ b off, p = some ⟨b, off, none⟩ ∧ b < W.heap.size ∧ W.cell? ⟨b, off + k * 5, none⟩ = some (.int .i64 (fr k : Int)) ∧ W.cell? ⟨b, off + k * 5 + 1, none⟩ = some (.int .i64 (to k : Int)) ∧ W.cell? ⟨b, off + k * 5 + 2, none⟩ = some (.int .i64 (la k : Int)) from by
    obtain ⟨b, off, sp, sc, pp, pc, hq, hl, c0, c1, c2, _⟩ := hB.cells k (by rw [hI.len]; exact hk)
    obtain ⟨e0, e1, e2, _⟩ := hI.blk k hk
    rw [e0] at c0
    rw [e1] at c1
    rw [e2] at c2
    exact ⟨b, off, hq, hl, c0, c1, c2⟩))
  have HGO := Lib.hid (fun (i : Nat) (hi : (gOf l).R i) (hne : i ≠ (gOf l).last i) => Fl.Fg.go hG hi hne)
  have HSU : Hid (∀ (i : Nat), (gOf l).R i → i ≠ (gOf l).last i → ∀ (W : World), Below w.heap.size w W → Calls Try.prog 16 #[.slice q l.length qc, .int .i64 (i : Int)] W fun e w' => ∃ b off c, e = .returned (.slice (some ⟨b, off, none⟩) 1 c) ∧ w'.cell? ⟨b, off, none⟩ = some (.int .i64 ((gOf l).nx i : Int)) ∧ Below W.heap.size W w') := Lib.hid (fun i hi hne W hW => by
    have H := rsucc_any q qc l (i : Int) W (h.below hW)
    refine H.mono ?_
    rintro e w' ⟨p, c, rfl, hn, hb⟩
    rw [su_ints hc hi, (Fl.Fg.go hG hi hne).1] at hn ⊢
    obtain ⟨b, off, rfl, _, h0⟩ := hn.cells 0 (by simp)
    exact ⟨b, off, c, rfl, h0, hb⟩)
  have HK := Lib.hid hI.blk
  have hbig := hI.big
  clear hb0 hI h hc hG
  generalize blocksL l = B at *
  have HNX : Hid (∃ f : Nat → Nat, f = (gOf l).nx) := Lib.hid ⟨_, rfl⟩
  generalize (gOf l).nx = nx at *
  clear HNX
  generalize l.length = N at *
  obtain ⟨g1, g2⟩ := hbig
  go_enter Try.func6, Try.ntmps6
  go_wp2_with (first
    | (go_at_call 7; (with_reducible refine (HB.out _ (Below.refl _ _)).mono ?_); rintro e w1 ⟨p, c, rfl, hB, hb⟩; have B1 := Lib.hid hb; have HBB := Lib.hid (fun (W : World) (h : Below w1.heap.size w1 W) => HBK.out p W (hB.below h)); clear hb hB))
  clear HB HBK
  go_loopw [5] (fun i wr => ∃ k : Nat, k ≤ n ∧ i = .int .i64 (k : Int) ∧ Below w1.heap.size w1 wr) (fun i _ => n - (intOf i).toNat)
  case atStart => exact ⟨0, Nat.zero_le _, rfl, Below.refl _ _⟩
  case round =>
    obtain ⟨k, hk1, rfl, hbw⟩ := hrel
    have HW := Lib.hid hbw
    by_cases hk : k < n
    · obtain ⟨b, off, rfl, hl, c0, c1, c2⟩ := HBB.out wr hbw k hk
      clear hbw
      obtain ⟨_, _, _, hR, hla, t1, t2, t3, t4⟩ := HK.out k hk
      have HI0 : Hid ((gOf l).R (fr k) ∧ (gOf l).last (fr k) = la k) := Lib.hid ⟨hR, hla⟩
      clear hR hla
      have HB1 := Lib.hid (fun (W : World) (hW : Below w1.heap.size w1 W) => HBB.out W hW k hk)
      generalize la k = E at *
      generalize to k = T at *
      generalize fr k = F0 at *
      go_wp2_with fail
      clear c0 c1 c2 HBB
      go_loopw [6, 7] (fun v6 v7 wr2 => ∃ i m : Nat, v6 = .int .i64 (i : Int) ∧ v7 = .int .i64 (m : Int) ∧ Hid ((gOf l).R i ∧ (gOf l).last i = E) ∧ i ≤ E ∧ m ≤ i ∧ Below w1.heap.size w1 wr2) (fun v6 _ _ => E - (intOf v6).toNat)
      case atStart => exact ⟨F0, 0, rfl, rfl, HI0, t4, Nat.zero_le _, HW.out⟩
      case round =>
        clear HW HI0 hl
        obtain ⟨i, m, rfl, rfl, HI, hiE, hmi, hbw2⟩ := hrel
        have HW := Lib.hid hbw2
        obtain ⟨b', off', hq, hl2, d0, d1, d2⟩ := HB1.out wr.drew hbw2.drew
        obtain ⟨rfl, rfl⟩ : b = b' ∧ off = off' := by injection hq with hq; injection hq with h1 h2; exact ⟨h1, h2⟩
        have HD := Lib.hid hbw2.drew
        clear hq
        obtain ⟨b', off', hq, _, _, _, c2⟩ := HB1.out wr hbw2
        obtain ⟨rfl, rfl⟩ : b = b' ∧ off = off' := by injection hq with hq; injection hq with h1 h2; exact ⟨h1, h2⟩
        clear hq hbw2
        by_cases hi : i = E
        · subst hi
          clear HI
          have HC := Lib.hid (And.intro d1 d2)
          have hw : IntKind.i64.wrap ((i : Int) + 2) = (i : Int) + 2 := by rw [IntKind.wrap_i64]; omega
          have t1' : ¬ (T : Int) ≤ (i : Int) := by omega
          have t2' : ¬ (i : Int) + 2 < (T : Int) := by omega
          go_wp2_with fail
          go_quiet (fail)
          go_wp2_with fail
          go_roundw
          case rel => exact ⟨k + 1, by omega, rfl, below_drewN HW.out _⟩
          case measure => simp [intOf]; omega
        · have hne : ((i : Int) == (E : Int)) = false := by simp; omega
          have hi2 : i ≠ (gOf l).last i := by rw [HI.out.2]; exact hi
          obtain ⟨_, j1, j2, j3, j4⟩ := HGO.out i HI.out.1 hi2
          rw [HI.out.2] at j3 j4
          have HS1 := Lib.hid (fun (W : World) (hW : Below w1.heap.size w1 W) => HSU.out i HI.out.1 hi2 W (B1.out.trans (hW.mono B1.out.size)))
          have HJ : Hid ((gOf l).R (nx i) ∧ (gOf l).last (nx i) = E) := Lib.hid ⟨j2, j3⟩
          clear hi hi2 j2 j3 HI
          generalize nx i = J at *
          go_wp2_with (go_at_call 16; (with_reducible refine (HS1.out _ HW.out).mono ?_); rintro e w2 ⟨b2, o2, c2', rfl, s0, hb⟩; have HX := Lib.hid (HW.out.trans (hb.mono HW.out.size)); clear hb)
          obtain ⟨b', off', hq, hl3, _, _, x2⟩ := HB1.out w2 HX.out
          obtain ⟨rfl, rfl⟩ : b = b' ∧ off = off' := by injection hq with hq; injection hq with h1 h2; exact ⟨h1, h2⟩
          have u1 : ¬ (J : Int) ≤ (i : Int) := by omega
          have u2 : ¬ (E : Int) < (J : Int) := by omega
          have u3 : ¬ (N : Int) < (m : Int) := by omega
          clear hq hl3
          go_quiet (fail)
          go_wp2_with fail
          go_roundw
          case rel => exact ⟨J, m + 1, rfl, rfl, HJ, by omega, by omega, below_drewN HX.out _⟩
          case measure => simp [intOf]; omega
    · go_wp2_with (go_at_call 15; (with_reducible refine (heads14_any _).mono ?_); rintro e w2 ⟨rfl, hb⟩; have B2 := Lib.hid ((B1.out.trans (HW.out.mono B1.out.size)).trans (hb.mono (B1.out.trans (HW.out.mono B1.out.size)).size)); clear hb)
      go_ret
      exact ⟨rfl, B2.out⟩
theorem inside_law (q : Option Addr) (qc : Nat) (l : List In) (w : World) (h : InsAt w q l) : Calls Try.prog 6 #[.slice q l.length qc] w fun e w' => e = .returned (.bool true) ∧ Below w.heap.size w w' := by
  by_cases hc : (checkS l).2 = 0
  · exact inside_ok q qc l w h hc
  · exact inside_no q qc l w h (by simpa using hc)
end Go.Proofs.Ytlpijnnlmgoihaa
