/- Contract of the document's own Check. -/
import Derived.Test.YtlpijnnlmgoihaaT3
namespace Go.Proofs.Ytlpijnnlmgoihaa
open Go.RowKit M

set_option maxRecDepth 100000 in
set_option maxHeartbeats 8000000 in
theorem rcheck_any (q : Option Addr) (qc : Nat) (l : List In) (w : World) (h : InsAt w q l) :
    Calls Try.prog 23 #[.slice q l.length qc] w (CheckP l w) := by
  have hs := h.small
  have H := Lib.hid h
  unfold CheckP
  by_cases h1 : 4096 < l.length
  · have hv2 : checkS l = (0, 31) := by unfold checkS; rw [if_pos h1]
    rw [hv2]
    generalize l.length = N at *
    clear h hv2
    go_enter Try.func23, Try.ntmps23
    go_wp2
    go_ret2
    exact ⟨rfl, Below.refl _ _⟩
  by_cases h0 : l.length = 0
  · have hv2 : checkS l = (0, 40) := by unfold checkS; rw [if_neg h1, if_pos h0]
    rw [hv2, h0]
    clear h hv2 h1 h0 hs H
    go_enter Try.func23, Try.ntmps23
    go_wp2
    go_ret2
    exact ⟨rfl, Below.refl _ _⟩
  have HH := Lib.hid (fun (k : Int) W hW => rhole_any q qc l k W hW)
  have HG := Lib.hid (fun hj => check_good (l := l) (by omega) h0 hj)
  have HBD := Lib.hid (fun k hk hb hj => check_bad (l := l) (k := k) (by omega) hk hb hj)
  have HSU := Lib.hid (fun (k : Nat) W hW => rsucc_any q qc l (k : Int) W hW)
  have HNN := Lib.hid (show l.length = l.length from rfl)
  have h2 : l.length ≤ 4096 := by omega
  have h3 : 1 ≤ l.length := by omega
  unfold SuccP at HSU
  obtain ⟨N, hN⟩ : ∃ N, l.length = N := ⟨_, rfl⟩
  rw [hN] at HH HBD HG HSU h2 h3 hs ⊢
  have HN := Lib.hid hN
  generalize checkS l = cs at *
  clear h h1 h0 hN HNN
  have g0 : ((N : Int) == 0) = false := by simp; omega
  have g1 : decide ((4096 : Int) < (N : Int)) = false := decide_eq_false (by omega)
  go_enter Try.func23, Try.ntmps23
  go_wp2
  go_loopw [4] (fun i wr => ∃ k : Nat, k ≤ N ∧ i = .int .i64 k ∧ Below w.heap.size w wr ∧ Hid (∀ j, j < k → badI l j = false)) (fun i _ => N - (intOf i).toNat)
  case atStart => exact ⟨0, Nat.zero_le _, rfl, Below.refl _ _, Lib.hid (fun j hj => absurd hj (Nat.not_lt_zero _))⟩
  case round =>
    obtain ⟨k, hk, rfl, hb, hx⟩ := hrel
    have HB := Lib.hid hb
    clear hb
    by_cases hlt : k < N
    case neg =>
      have hkN : k = N := by omega
      subst hkN
      have HV := Lib.hid (HG.out hx.out)
      go_wp2
      go_ret2
      rw [HV.out]
      exact ⟨rfl, HB.out⟩
    case pos =>
    have HHk := Lib.hid (fun W hW => HH.out (k : Int) W hW)
    have HX2 := Lib.hid (fun (hv : badI l k = false) j (hj : j < k + 1) => (show badI l j = false by
      by_cases e : j = k
      · rw [e]; exact hv
      · exact hx.out j (by omega)))
    have HBk := Lib.hid (fun hb => HBD.out k hlt hb hx.out)
    cases hh : holeB l (k : Int)
    case true =>
      have HF := Lib.hid (HX2.out (badI_hole hh))
      rw [hh] at HHk
      clear hh
      go_wp2_with (go_at_call 30; refine (HHk.out _ (H.out.below HB.out)).mono ?_; rintro e w1 ⟨rfl, rfl⟩)
      go_roundw
      case rel => exact ⟨k + 1, by omega, by go_num, HB.out, HF⟩
      case measure => simp [intOf]; omega
    case false =>
    rw [hh] at HHk
    have HI := Lib.hid (fun W => rins_v (l.getD k z) (H.out.bd k (by rw [HN.out]; exact hlt)) W)
    obtain ⟨b, o, rfl, hbl, d0, d1, d2, d3, d4, d5⟩ := (H.out.below HB.out).cells k (by rw [HN.out]; exact hlt)
    cases hi : insB (l.getD k z)
    case false =>
      have HF := Lib.hid (HBk.out (bad_ins hh hi))
      rw [hi] at HI
      generalize l.getD k z = X at *
      clear hh hi
      go_wp2_with (first
        | (go_at_call 30; refine (HHk.out _ (H.out.below HB.out)).mono ?_; rintro e w1 ⟨rfl, rfl⟩)
        | (go_at_call 41; refine (HI.out _).mono ?_; rintro e w2 ⟨rfl, hb⟩; have HB2 := Lib.hid (HB.out.trans (hb.mono HB.out.size)); clear hb))
      go_ret2
      rw [HF.out]
      exact ⟨rfl, HB2.out⟩
    case true =>
    rw [hi] at HI
    have hin : IntKind.i64.wrap ((k : Int) + 1) = (k : Int) + 1 := by rw [IntKind.wrap_i64]; omega
    cases hw : wideOk l k
    case false =>
      have HF := Lib.hid (HBk.out (bad_wide hh hw))
      obtain ⟨g24, hwhy⟩ := wide_no hw
      rw [HN.out] at hwhy
      rcases hwhy with hge | ⟨hlt2, hne⟩
      · generalize l.getD k z = X at *
        clear hh hi hw hin
        go_wp2_with (first
          | (go_at_call 30; refine (HHk.out _ (H.out.below HB.out)).mono ?_; rintro e w1 ⟨rfl, rfl⟩)
          | (go_at_call 41; refine (HI.out _).mono ?_; rintro e w2 ⟨rfl, hb⟩; have HB2 := Lib.hid (HB.out.trans (hb.mono HB.out.size)); obtain ⟨hc, hf⟩ := bcell hb; clear hb))
        go_ret2
        rw [HF.out]
        exact ⟨rfl, HB2.out⟩
      · obtain ⟨b', o', hq, hbl', n0, n1, n2, n3, n4, n5⟩ := (H.out.below HB.out).cells (k + 1) (by rw [HN.out]; exact hlt2)
        obtain ⟨rfl, rfl⟩ : b = b' ∧ o = o' := by injection hq with hq; injection hq with h1 h2; exact ⟨h1, h2⟩
        have heq := fun W => eq_r (l.getD (k + 1) z) W
        rw [hne] at heq
        generalize l.getD (k + 1) z = Y at *
        generalize l.getD k z = X at *
        clear hh hi hw hin hq hne
        go_wp2_with (first
          | (go_at_call 30; refine (HHk.out _ (H.out.below HB.out)).mono ?_; rintro e w1 ⟨rfl, rfl⟩)
          | (go_at_call 41; refine (HI.out _).mono ?_; rintro e w2 ⟨rfl, hb⟩; have HB2 := Lib.hid (HB.out.trans (hb.mono HB.out.size)); obtain ⟨hc, hf⟩ := bcell hb; clear hb))
        go_ret2
        rw [HF.out]
        exact ⟨rfl, HB2.out⟩
    case true =>
    have HYES := Lib.hid (fun h3 => HX2.out (bad_none hh hi hw h3))
    have HNO := Lib.hid (fun m hm h => HBk.out (bad_succ (m := m) hh hm h))
    have HSk := Lib.hid (HSU.out k)
    have hM2 := succL_le l (k : Int)
    generalize hxs : succL l (k : Int) = xs at *
    clear hxs
    obtain ⟨M, hM⟩ : ∃ M, xs.length = M := ⟨_, rfl⟩
    rw [hM] at HSk HYES HNO hM2
    have HM := Lib.hid hM
    clear hM
    have hww := wide_yes hw
    rw [HN.out] at hww
    have hcase : ((l.getD k z).op == 24) = false ∨ (((l.getD k z).op == 24) = true ∧ k + 1 < N ∧ ∃ Y : In, (∀ W, (Op.equalIn 10000 55 (.agg #[.int .i64 Y.op, .int .i64 Y.dst, .int .i64 Y.src, .int .i64 Y.off, .int .i64 Y.imm, .int .u64 Y.wide]) (.agg #[.int .i64 0, .int .i64 0, .int .i64 0, .int .i64 0, .int .i64 0, .int .u64 0])).run Try.prog W = .ok true W) ∧
        wr.cell? ⟨b, o + (k + 1) * 6, none⟩ = some (.int .i64 Y.op) ∧ wr.cell? ⟨b, o + (k + 1) * 6 + 1, none⟩ = some (.int .i64 Y.dst) ∧ wr.cell? ⟨b, o + (k + 1) * 6 + 2, none⟩ = some (.int .i64 Y.src) ∧ wr.cell? ⟨b, o + (k + 1) * 6 + 3, none⟩ = some (.int .i64 Y.off) ∧ wr.cell? ⟨b, o + (k + 1) * 6 + 4, none⟩ = some (.int .i64 Y.imm) ∧ wr.cell? ⟨b, o + (k + 1) * 6 + 5, none⟩ = some (.int .u64 Y.wide)) := by
      rcases hww with g | ⟨g, hlt2, hz⟩
      · exact .inl g
      · obtain ⟨b', o', hq, _, n0, n1, n2, n3, n4, n5⟩ := (H.out.below HB.out).cells (k + 1) (by rw [HN.out]; exact hlt2)
        obtain ⟨rfl, rfl⟩ : b = b' ∧ o = o' := by injection hq with hq; injection hq with h1 h2; exact ⟨h1, h2⟩
        have heq := fun W => eq_r (l.getD (k + 1) z) W
        rw [hz] at heq
        exact .inr ⟨g, hlt2, _, heq, n0, n1, n2, n3, n4, n5⟩
    generalize l.getD k z = X at *
    clear hh hi hw hww hin
    rcases hcase with g24 | ⟨g24, hlt2, Y, heq, n0, n1, n2, n3, n4, n5⟩
    all_goals
      go_wp2_with (first
        | (go_at_call 30; refine (HHk.out _ (H.out.below HB.out)).mono ?_; rintro e w1 ⟨rfl, rfl⟩)
        | (go_at_call 41; refine (HI.out _).mono ?_; rintro e w2 ⟨rfl, hb⟩; have HB2 := Lib.hid (HB.out.trans (hb.mono HB.out.size)); obtain ⟨hc, hf⟩ := bcell hb; clear hb)
        | (go_at_call 16; refine (HSk.out _ (H.out.below HB2.out)).mono ?_; rintro e w3 ⟨p, cap, rfl, hn, hb⟩; have HB3 := Lib.hid (HB2.out.trans (hb.mono HB2.out.size)); have N3 := Lib.hid hn; clear hb hn hc hf))
      go_loop [6] (fun i => ∃ m : Nat, m ≤ M ∧ i = .int .i64 m ∧ Hid (∀ j, j < m → placeB l (xs.getD j 0) = true)) (fun i => M - (intOf i).toNat)
      case atStart => exact ⟨0, Nat.zero_le _, rfl, Lib.hid (fun j hj => absurd hj (Nat.not_lt_zero _))⟩
      case round =>
        obtain ⟨m, hm, rfl, hy⟩ := hrel
        by_cases hltm : m < M
        case neg =>
          have hmM : m = M := by omega
          subst hmM
          have HV := Lib.hid (HYES.out hy.out)
          go_wp2
          go_roundw
          case rel => exact ⟨k + 1, by omega, by go_num, HB3.out, HV⟩
          case measure => simp [intOf]; omega
        case pos =>
        obtain ⟨bk, off, rfl, hbl2, c0⟩ := N3.out.cells m (by rw [HM.out]; exact hltm)
        have HP2 := Lib.hid (fun W hW => HH.out (xs.getD m 0) W hW)
        have HV := Lib.hid (fun h => HNO.out m hltm h)
        have HX3 := Lib.hid (fun (hv : placeB l (xs.getD m 0) = true) j (hj : j < m + 1) => (show placeB l (xs.getD j 0) = true by
          by_cases e : j = m
          · rw [e]; exact hv
          · exact hy.out j (by omega)))
        generalize xs.getD m 0 = Z at c0 HP2 HV HX3
        cases hv : placeB l Z
        case false =>
          have HVV := Lib.hid (HV.out hv)
          rcases place_no HN.out hv with hneg | hbig | ⟨⟨hz0, hz1⟩, hhole⟩
          · clear hv
            go_wp2
            go_ret2
            rw [HVV.out]
            exact ⟨rfl, HB3.out⟩
          · have hz0 : ¬ Z < 0 := by omega
            clear hv
            go_wp2
            go_ret2
            rw [HVV.out]
            exact ⟨rfl, HB3.out⟩
          · rw [hhole] at HP2
            clear hv hhole
            go_wp2_with (go_at_call 30; refine (HP2.out _ (H.out.below HB3.out)).mono ?_; rintro e w4 ⟨rfl, rfl⟩)
            go_ret2
            rw [HVV.out]
            exact ⟨rfl, HB3.out⟩
        case true =>
          have HVV := Lib.hid (HX3.out hv)
          obtain ⟨hz0, hz1, hhole⟩ := place_yes HN.out hv
          rw [hhole] at HP2
          clear hv hhole
          go_wp2_with (go_at_call 30; refine (HP2.out _ (H.out.below HB3.out)).mono ?_; rintro e w4 ⟨rfl, rfl⟩)
          go_round
          case rel => exact ⟨m + 1, by omega, by go_num, HVV⟩
          case measure => simp [intOf]; omega
end Go.Proofs.Ytlpijnnlmgoihaa
