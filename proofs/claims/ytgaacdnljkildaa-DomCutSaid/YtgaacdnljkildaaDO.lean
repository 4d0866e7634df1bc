/- Dominance: the law on orders. -/
import Derived.Test.YtgaacdnljkildaaDN
namespace Go.Proofs.Ytgaacdnljkildaa
open Go.RowKit
open Dm

theorem small_any (q : Option Addr) (qc N : Nat) (w : World) : Calls Try.prog 8 #[.slice q N qc] w fun e w' => e = .returned (.bool (decide (N ≤ 60))) ∧ w = w' := by
  by_cases h : N ≤ 60
  · rw [decide_eq_true h]
    go_enter Try.func8, Try.ntmps8
    go_wp2
    go_ret
    exact ⟨by simp; omega, rfl⟩
  · rw [decide_eq_false h]
    go_enter Try.func8, Try.ntmps8
    go_wp2
    go_ret
    exact ⟨by simp; omega, rfl⟩
/-- what the law holds -/
structure Do (w W : World) (q : Option Addr) (g : List (List Int)) (p1 : Option Addr) (L1 : List Bool) (gr : Nat) (L2 : List Bool) : Prop where
  low : Below w.heap.size w W
  gs : GsAt W q g
  bl : BlsAt W p1 L1
  rb : Rb W gr L2
theorem Do.next {w W W' : World} {q : Option Addr} {g : List (List Int)} {p1 : Option Addr} {L1 : List Bool} {gr : Nat} {L2 : List Bool} (h : Do w W q g p1 L1 gr L2) (hb : Below W.heap.size W W') : Do w W' q g p1 L1 gr L2 :=
  ⟨h.low.trans (hb.mono h.low.size), h.gs.below hb, h.bl.below hb, h.rb.next hb⟩
theorem reach_same {g : List (List Int)} {L : List Bool} (h : ∀ b, b < g.length → (L.getD b false = true ↔ (gL g).R b)) {i : Nat} (hi : i < g.length) : (reachB g).getD i false = L.getD i false := by
  rw [Bool.eq_iff_iff, reachB_at hi, h i hi]
set_option maxRecDepth 100000 in
set_option maxHeartbeats 4000000 in
theorem orders_law (q : Option Addr) (qc : Nat) (g : List (List Int)) (w : World) (h : GsAt w q g) (hT : tot g ≤ 1048576) : Calls Try.prog 5 #[.slice q g.length qc] w fun e w' => e = .returned (.bool true) ∧ Below w.heap.size w w' := by
  have HSM := Lib.hid (fun W => small_any q qc g.length W)
  by_cases hN : g.length ≤ 60
  · have H1 := Lib.hid (fun W hW => sreach_any q qc g W hW hN hT)
    have H2 := Lib.hid (fun W hW => rgreach_any q qc g W hW (by omega) hT)
    have H3 := Lib.hid (fun W hW => sorder_any q qc g W hW hN hT)
    have H4 := Lib.hid (fun W hW => rorder_any q qc g W hW (by omega) hT)
    have H5 := Lib.hid (fun p c d q W h1 h2 => ints_eq p q c d (ordL g) W h1 h2)
    unfold BlsQ at H1
    unfold ReachQ at H2
    unfold NumsQ at H3 H4
    have HSA := Lib.hid (fun L hL i hi => reach_same (g := g) (L := L) hL (i := i) hi)
    have HLN := Lib.hid (reachB_len g)
    rw [HLN.out] at H1
    have HG := Lib.hid h
    rw [decide_eq_true hN] at HSM
    generalize reachB g = RB at *
    generalize ordL g = O at *
    generalize O.length = n at *
    obtain ⟨N, hNl⟩ : ∃ N, g.length = N := ⟨_, rfl⟩
    rw [hNl] at hN HSM H1 H2 H3 H4 HSA HLN ⊢
    clear h hNl
    go_enter Try.func5, Try.ntmps5
    go_wp2_with (first
      | (go_at_call 8; (with_reducible refine (HSM.out _).mono ?_); rintro e w1 ⟨rfl, rfl⟩)
      | (go_at_call 10; (with_reducible refine (H1.out _ HG.out).mono ?_); rintro e w2 ⟨p1, c1, rfl, h1, hb⟩; have B2 := Lib.hid hb; have HG2 := Lib.hid (HG.out.below hb); have HB2 := Lib.hid h1; clear hb h1)
      | (go_at_call 18; (with_reducible refine (H2.out _ HG2.out).mono ?_); rintro e w3 ⟨gr, LR, rfl, _, hr, hl, hd, hb⟩; have HN := Lib.hid (Do.mk (B2.out.trans (hb.mono B2.out.size)) (HG2.out.below hb) (HB2.out.below hb) hr); have HRL := Lib.hid hl; have HRD := Lib.hid hd; clear hb hr hl hd))
    go_loopw [5] (fun v wr => ∃ k : Nat, k ≤ N ∧ v = .int .i64 (k : Int) ∧ Do w wr q g p1 RB gr LR) (fun v _ => N - (intOf v).toNat)
    case atStart => exact ⟨0, Nat.zero_le _, rfl, HN.out⟩
    case round =>
      clear HN HG2 HB2
      obtain ⟨k, hk, rfl, hn⟩ := hrel
      have HN := Lib.hid hn
      by_cases hlt : k < N
      · obtain ⟨b1, o1, rfl, hl1, e1⟩ := hn.bl.cells k (by rw [HLN.out]; exact hlt)
        have e2 := hn.rb.cell k (by rw [HRL.out]; exact hlt)
        have l2 := hn.rb.lt
        rw [HSA.out LR HRD.out k hlt] at e1
        generalize LR.getD k false = v at *
        clear hn
        go_wp2_with fail
        go_quiet (fail)
        go_wp2_with fail
        go_roundw
        case rel => exact ⟨k + 1, by omega, rfl, HN.out.next (below_drewN (Below.refl _ _) _)⟩
        case measure => simp [intOf]; omega
      · obtain rfl : k = N := by omega
        clear hn
        go_wp2_with (first
          | (go_at_call 19; (with_reducible refine (H3.out _ HN.out.gs).mono ?_); rintro e w4 ⟨p4, c4, rfl, h4, hb⟩; have HA := Lib.hid h4; have H' := Lib.hid (HN.out.next hb); clear hb h4 HN; have HN := H'; clear H')
          | (go_at_call 20; (with_reducible refine (H4.out _ HN.out.gs).mono ?_); rintro e w5 ⟨p5, c5, rfl, h5, hb⟩; have HB := Lib.hid h5; have HA' := Lib.hid (HA.out.below hb); have H' := Lib.hid (HN.out.next hb); clear hb h5 HN HA; have HN := H'; have HA := HA'; clear H' HA')
          | (go_at_call 15; (with_reducible refine (H5.out _ _ _ _ _ HA.out HB.out).mono ?_); rintro e w6 ⟨rfl, hb⟩; have H' := Lib.hid (HN.out.next hb); clear hb HN; have HN := H'; clear H')
          | (go_at_call 9; (with_reducible refine (heads15_any _).mono ?_); rintro e w7 ⟨rfl, hb⟩; have H' := Lib.hid (HN.out.next hb); clear hb HN; have HN := H'; clear H'))
        go_ret
        exact ⟨rfl, HN.out.low⟩
  · rw [decide_eq_false hN] at HSM
    generalize g.length = N at *
    clear h
    go_enter Try.func5, Try.ntmps5
    go_wp2_with (first
      | (go_at_call 8; (with_reducible refine (HSM.out _).mono ?_); rintro e w1 ⟨rfl, rfl⟩)
      | (go_at_call 9; (with_reducible refine (heads15_any _).mono ?_); rintro e w7 ⟨rfl, hb⟩; have B1 := Lib.hid hb; clear hb))
    go_ret
    exact ⟨rfl, B1.out⟩
end Go.Proofs.Ytgaacdnljkildaa
