/- Flow: package flow's own small functions: jumps, behind, Find. -/
import Derived.Test.YtlpijnnlmgoihaaFG
import Derived.Test.YtlpijnnlmgoihaaHA
import Derived.Test.YtlpijnnlmgoihaaC
namespace Go.Proofs.Ytlpijnnlmgoihaa
open Go.RowKit M

set_option maxRecDepth 100000 in
theorem pjumps_any (x : In) (hx : Bd x) (w : World) : Calls Try.prog 35 #[.agg #[.int .i64 x.op, .int .i64 x.dst, .int .i64 x.src, .int .i64 x.off, .int .i64 x.imm, .int .u64 x.wide]] w fun e w' => e = .returned (.bool (jB x)) ∧ Below w.heap.size w w' := by
  have hj := fun W => jump_any x.op W hx.op.1 hx.op.2
  unfold JmpP at hj
  have he : jB x = (jmpB x.op || (x.op == 5)) := rfl
  rw [he]
  clear he hx
  obtain ⟨x0, x1, x2, x3, x4, x5⟩ := x
  dsimp only at hj ⊢
  generalize (jmpB x0 && decide (x0 % 8 = 5)) = b at *
  generalize (if jmpB x0 = true then x0 - x0 % 16 else 0) = c at *
  generalize jmpB x0 = g at *
  have HJ := Lib.hid hj
  clear hj
  cases g with
  | true =>
    rw [Bool.true_or]
    go_enter Try.func35, Try.ntmps35
    go_wp2_with (go_at_call 45; (with_reducible refine (HJ.out _).mono ?_); rintro e w1 ⟨rfl, rfl⟩)
    go_ret
    exact ⟨rfl, (Below.refl _ _).alloc (Nat.le_refl _) _⟩
  | false =>
    rw [Bool.false_or]
    go_enter Try.func35, Try.ntmps35
    go_wp2_with (go_at_call 45; (with_reducible refine (HJ.out _).mono ?_); rintro e w1 ⟨rfl, rfl⟩)
    go_ret
    exact ⟨rfl, (Below.refl _ _).alloc (Nat.le_refl _) _⟩
/-- the place behind, as layer 4 tells holes -/
theorem behind_is {l : List In} (hc : (checkS l).2 = 0) {i : Nat} (hi : (gOf l).R i) : nxI (l.getD i z) i = if holeB l ((i : Int) + 1) = true then i + 2 else i + 1 := by
  have hG := check_flow hc
  obtain ⟨h1, h2⟩ := hi.ok hG
  unfold nxI
  by_cases c : (l.getD i z).op = 24
  · rw [if_pos c]
    rcases hG.nx i h1 h2 with e | ⟨_, e⟩
    · have e' : nxI (l.getD i z) i = i + 1 := e
      unfold nxI at e'
      rw [if_pos c] at e'
      omega
    · have e' : holeB l (((i + 1 : Nat)) : Int) = true := e
      rw [show ((i : Int) + 1) = ((i + 1 : Nat) : Int) by omega, if_pos e']
  · rw [if_neg c, if_neg]
    intro hh
    have hlt : i + 1 < l.length := by
      unfold holeB at hh
      simp at hh
      omega
    have h3 : holeB l ((i + 1 : Nat) : Int) = true := by rw [show ((i + 1 : Nat) : Int) = (i : Int) + 1 by omega]; exact hh
    rw [holeB_nat hlt, hR_succ] at h3
    have c' : ¬ opL l i = 24 := c
    rw [decide_eq_false c'] at h3
    simp at h3
set_option maxRecDepth 100000 in
theorem behind_any (q : Option Addr) (qc : Nat) (l : List In) (i : Nat) (w : World) (h : InsAt w q l) (hc : (checkS l).2 = 0) (hi : (gOf l).R i) : Calls Try.prog 39 #[.slice q l.length qc, .int .i64 (i : Int)] w fun e w' => e = .returned (.int .i64 ((nxI (l.getD i z) i : Nat) : Int)) ∧ w = w' := by
  have HH := hole_any q qc l ((i : Int) + 1) w h
  have hN := (check_ok hc).1
  have hiN : i < l.length := (hi.ok (check_flow hc)).1
  rw [behind_is hc hi]
  generalize holeB l ((i : Int) + 1) = b at *
  generalize l.length = N at *
  have HH := Lib.hid HH
  clear h hc hi
  cases b with
  | true =>
    rw [if_pos rfl]
    go_enter Try.func39, Try.ntmps39
    go_wp2_with (go_at_call 32; (with_reducible refine HH.out.mono ?_); rintro e w1 ⟨rfl, rfl⟩)
    go_ret
    exact ⟨rfl, rfl⟩
  | false =>
    rw [if_neg (by simp)]
    go_enter Try.func39, Try.ntmps39
    go_wp2_with (go_at_call 32; (with_reducible refine HH.out.mono ?_); rintro e w1 ⟨rfl, rfl⟩)
    go_ret
    exact ⟨rfl, rfl⟩
set_option maxRecDepth 100000 in
theorem fwith_any (fr to la : Int) (sp pp : Option Addr) (sn sc pn pc : Nat) (b : Nat) (x : Int) (w : World) (hb : b < w.heap.size) (hx : w.cell? ⟨b, 0, none⟩ = some (.int .i64 x)) :
    Calls Try.prog 29 #[.agg #[.int .i64 fr, .int .i64 to, .int .i64 la, .slice sp sn sc, .slice pp pn pc], .pointer (some ⟨b, 0, none⟩)] w fun e w' => e = .returned (.bool (decide (fr ≤ x) && decide (x < to))) ∧ Below w.heap.size w w' := by
  by_cases h1 : fr ≤ x
  · by_cases h2 : x < to
    · go_enter Try.func29, Try.ntmps29
      go_wp2
      go_ret
      exact ⟨by simp [h1, h2], (Below.refl _ _).alloc (Nat.le_refl _) _⟩
    · go_enter Try.func29, Try.ntmps29
      go_wp2
      go_ret
      exact ⟨by simp [h2], (Below.refl _ _).alloc (Nat.le_refl _) _⟩
  · go_enter Try.func29, Try.ntmps29
    go_wp2
    go_ret
    exact ⟨by simp; omega, (Below.refl _ _).alloc (Nat.le_refl _) _⟩
set_option maxRecDepth 100000 in
set_option maxHeartbeats 1000000 in
theorem index_any (q : Option Addr) (qc : Nat) (B : List Bk) (x : Int) (b : Nat) (w : World) (h : BksAt w q B) (hb : b < w.heap.size) (hx : w.cell? ⟨b, 0, none⟩ = some (.int .i64 x)) :
    Calls Try.prog 28 #[.slice q B.length qc, .func (.func 29) #[] #[.pointer (some ⟨b, 0, none⟩)]] w fun e w' => e = .returned (.int .i64 (findB B x)) ∧ Below w.heap.size w w' := by
  have hs := h.small
  have HC := Lib.hid (fun (i : Nat) (hi : i < B.length) (W : World) (hb : Below w.heap.size w W) => (h.below hb).cells i hi)
  have HX := Lib.hid (fun (W : World) (hW : Below w.heap.size w W) => (hW.cell (p := ⟨b, 0, none⟩) hb).trans hx)
  have HBL := Lib.hid hb
  have HT := Lib.hid (fun k (hk : k < B.length) h1 h2 hj => findI_some (fr := fun k => (bk B k).fr) (to := fun k => (bk B k).to) (x := x) hk h1 h2 hj)
  have HF := Lib.hid (fun hj => findI_none (fr := fun k => (bk B k).fr) (to := fun k => (bk B k).to) (n := B.length) (x := x) hj)
  rw [show findB B x = findI (fun k => (bk B k).fr) (fun k => (bk B k).to) B.length x from rfl]
  generalize findI (fun k => (bk B k).fr) (fun k => (bk B k).to) B.length x = g at *
  obtain ⟨N, hN⟩ : ∃ N, B.length = N := ⟨_, rfl⟩
  rw [hN] at hs HC HT HF ⊢
  clear h hb hx hN
  go_enter Try.func28, Try.ntmps28
  go_wp2
  go_loopw [8] (fun i wr => ∃ k : Nat, k ≤ N ∧ i = .int .i64 (k : Int) ∧ Hid (∀ j, j < k → ¬ ((bk B j).fr ≤ x ∧ x < (bk B j).to)) ∧ Below w.heap.size w wr) (fun i _ => N - (RowKit.intOf i).toNat)
  case atStart => exact ⟨0, Nat.zero_le _, rfl, Lib.hid (fun j hj => absurd hj (Nat.not_lt_zero _)), Below.refl _ _⟩
  case round =>
    obtain ⟨k, hk1, rfl, HK, hbw⟩ := hrel
    have HW := Lib.hid hbw
    by_cases hk : k < N
    · obtain ⟨b1, off, sp, sc, pp, pc, rfl, hl, c0, c1, c2, c3, c4, _, _⟩ := HC.out k hk wr hbw
      have HM := Lib.hid (fun W (hW : Below w.heap.size w W) => fwith_any (bk B k).fr (bk B k).to (bk B k).la sp pp (bk B k).su.length sc (bk B k).pr.length pc b x W (Nat.lt_of_lt_of_le HBL.out hW.size) (HX.out W hW))
      have HT' := Lib.hid (HT.out k hk)
      have HN : Hid (¬ ((bk B k).fr ≤ x ∧ x < (bk B k).to) → ∀ j, j < k + 1 → ¬ ((bk B j).fr ≤ x ∧ x < (bk B j).to)) := Lib.hid (fun hn j hj => by
        by_cases e : j = k
        · rw [e]; exact hn
        · exact HK.out j (by omega))
      clear hbw
      generalize (bk B k).fr = f at *
      generalize (bk B k).to = t at *
      generalize (bk B k).la = la at *
      generalize (bk B k).su.length = sn at *
      generalize (bk B k).pr.length = pn at *
      cases hv : (decide (f ≤ x) && decide (x < t)) with
      | true =>
        rw [hv] at HM
        have hv' : f ≤ x ∧ x < t := by simpa using hv
        have HG := Lib.hid (HT'.out hv'.1 hv'.2 HK.out)
        clear hv hv' HT' HN
        go_wp2_with (go_at_call 29; (with_reducible refine (HM.out _ HW.out).mono ?_); rintro e w1 ⟨rfl, hb⟩; have B1 := Lib.hid (HW.out.trans (hb.mono HW.out.size)); clear hb)
        go_ret
        rw [HG.out]
        exact ⟨rfl, B1.out⟩
      | false =>
        rw [hv] at HM
        have HK' := Lib.hid (HN.out (fun c => by rw [decide_eq_true c.1, decide_eq_true c.2] at hv; cases hv))
        clear hv HT' HN
        go_wp2_with (go_at_call 29; (with_reducible refine (HM.out _ HW.out).mono ?_); rintro e w1 ⟨rfl, hb⟩; have B1 := Lib.hid (HW.out.trans (hb.mono HW.out.size)); clear hb)
        go_roundw
        case rel => exact ⟨k + 1, by omega, rfl, HK', B1.out⟩
        case measure => simp [RowKit.intOf]; omega
    · have HG := Lib.hid (HF.out (fun j hj => HK.out j (by omega)))
      clear hbw
      obtain rfl : k = N := by omega
      go_wp2
      go_ret
      rw [HG.out]
      exact ⟨rfl, HW.out⟩
theorem sfind_any (q : Option Addr) (qc : Nat) (B : List Bk) (x : Int) (w : World) (h : BksAt w q B) : Calls Try.prog 13 #[.slice q B.length qc, .int .i64 x] w fun e w' => e = .returned (.int .i64 (findB B x)) ∧ Below w.heap.size w w' := by
  have HI := Lib.hid (fun (W : World) (b : Nat) (hW : Below w.heap.size w W) (hb : b < W.heap.size) hx => index_any q qc B x b W (h.below hW) hb hx)
  generalize findB B x = g at *
  generalize B.length = N at *
  clear h
  go_enter Try.func13, Try.ntmps13
  go_wp2_with (go_at_call 28; (with_reducible refine (HI.out _ w.heap.size ((Below.refl _ _).alloc (Nat.le_refl _) _) (by simp) (cell_new w rfl)).mono ?_); rintro e w1 ⟨rfl, hb⟩; have B1 := Lib.hid (((Below.refl _ _).alloc (Nat.le_refl _) _).trans (hb.mono (by simp))); clear hb)
  go_ret
  exact ⟨rfl, B1.out⟩
end Go.Proofs.Ytlpijnnlmgoihaa
