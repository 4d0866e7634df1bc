/- LegalStays: its walk. -/
import Derived.Test.YtnpnpjpmklmklaaU2
import Derived.Test.YtnpnpjpmklmklaaO2
namespace Go.Proofs.Ytnpnpjpmklmklaa
open Go.RowKit M

theorem place_zero {l : List In} (h : ¬ l.length = 0) : placeB l ((0 : Nat) : Int) = true := by
  rw [placeB_true]
  refine ⟨by omega, ?_⟩
  rw [holeB_nat (by omega)]
  rfl
theorem next_place {l : List In} (h : ∀ j, j < l.length → badI l j = false) {k : Nat} (hp : placeB l (k : Int) = true) {m : Nat} (hm : m < (succL l (k : Int)).length) :
    ∃ j : Nat, (succL l (k : Int)).getD m 0 = (j : Int) ∧ placeB l (j : Int) = true := by
  have hin : (succL l (k : Int)).getD m 0 ∈ succL l (k : Int) := by simp [hm]
  have := may_place h hp _ hin
  obtain ⟨⟨h0, _⟩, _⟩ := placeB_true.1 this
  obtain ⟨j, hj⟩ := Int.eq_ofNat_of_zero_le h0
  exact ⟨j, hj, by rw [← hj]; exact this⟩
set_option maxRecDepth 100000 in
set_option maxHeartbeats 8000000 in
theorem stays_any (q : Option Addr) (qc : Nat) (l : List In) (p : Option Addr) (pc : Nat) (ch : List Bool) (w : World) (h : InsAt w q l) (hc : BoolsAt w p ch) :
    Calls Try.prog 6 #[.slice q l.length qc, .slice p ch.length pc] w fun e w' => e = .returned (.bool true) ∧ Below w.heap.size w w' := by
  have HC := Lib.hid (fun W hW => check_any q qc l W hW)
  unfold CheckP at HC
  have hs := h.small
  have hcs := hc.small
  have H := Lib.hid h
  have HB := Lib.hid hc
  by_cases hk : (checkS l).2 = 0
  case neg =>
    generalize checkS l = cs at *
    obtain ⟨c1, c2⟩ := cs
    have hne : (c2 != 0) = true := by simpa using hk
    generalize l.length = N at *
    generalize ch.length = K at *
    clear h hc hk
    go_enter Try.func6, Try.ntmps6
    go_wp2_with (first
      | (go_at_call 15; refine (HC.out _ H.out).mono ?_; rintro e w1 ⟨rfl, hb⟩; have B1 := Lib.hid hb; clear hb)
      | (go_at_call 14; refine (heads_any _).mono ?_; rintro e w1 ⟨rfl, hb⟩; have B := Lib.hid (below_next B1.out hb); clear hb))
    go_ret
    exact ⟨rfl, B.out⟩
  case pos =>
  obtain ⟨h1, h0, hgood⟩ := check_ok hk
  have HH := Lib.hid (fun (k : Nat) W hW => rhole_any q qc l (k : Int) W hW)
  have HSU := Lib.hid (fun (k : Nat) W hW => succ_any q qc l (k : Int) W hW)
  unfold SuccP at HSU
  have HNX := Lib.hid (fun k hp m hm => next_place (l := l) hgood (k := k) hp (m := m) hm)
  have HNO := Lib.hid (fun k hp h => next_none (l := l) (i := ((k : Nat) : Int)) hp h)
  have HZ := Lib.hid (place_zero h0)
  have HPL := Lib.hid (fun k hp => placeB_true.1 (show placeB l ((k : Nat) : Int) = true from hp))
  generalize checkS l = cs at *
  obtain ⟨c1, c2⟩ := cs
  obtain rfl : c2 = 0 := hk
  obtain ⟨N, hN⟩ : ∃ N, l.length = N := ⟨_, rfl⟩
  rw [hN] at HC HH HSU h1 h0 hs HPL ⊢
  have HN := Lib.hid hN
  obtain ⟨K, hK⟩ : ∃ K, ch.length = K := ⟨_, rfl⟩
  rw [hK] at hcs ⊢
  have HK := Lib.hid hK
  clear h hc hN hK hgood
  go_enter Try.func6, Try.ntmps6
  go_wp2_with (go_at_call 15; refine (HC.out _ H.out).mono ?_; rintro e w1 ⟨rfl, hb⟩; have B1 := Lib.hid hb; clear hb)
  go_loopw [7, 8] (fun a i wr => ∃ (j k : Nat), k ≤ K ∧ a = .int .i64 (j : Int) ∧ i = .int .i64 k ∧ Below w.heap.size w wr ∧ Hid (placeB l (j : Int) = true)) (fun _ i _ => K - (intOf i).toNat)
  case atStart => exact ⟨0, 0, Nat.zero_le _, by first | rfl | go_num, rfl, B1.out, HZ⟩
  case round =>
    obtain ⟨j, k, hk, rfl, rfl, hb, hx⟩ := hrel
    have HBE := Lib.hid hb
    clear hb
    by_cases hlt : k < K
    case neg =>
      have hkK : k = K := by omega
      subst hkK
      go_wp2_with (go_at_call 14; refine (heads_any _).mono ?_; rintro e w1 ⟨rfl, hb⟩; have B := Lib.hid (HBE.out.trans (hb.mono HBE.out.size)); clear hb)
      go_ret
      exact ⟨rfl, B.out⟩
    case pos =>
    by_cases hth : k < 1000
    case neg =>
      go_wp2_with (go_at_call 14; refine (heads_any _).mono ?_; rintro e w1 ⟨rfl, hb⟩; have B := Lib.hid (HBE.out.trans (hb.mono HBE.out.size)); clear hb)
      go_ret
      exact ⟨rfl, B.out⟩
    case pos =>
    obtain ⟨⟨_, hjN⟩, hh⟩ := HPL.out j hx.out
    have hjN2 : j < N := by omega
    have HHj := Lib.hid (HH.out j)
    rw [hh] at HHj
    clear hh
    have HSj := Lib.hid (HSU.out j)
    have HNj := Lib.hid (HNX.out j hx.out)
    have HOj := Lib.hid (HNO.out j hx.out)
    have h2 := succL_le l (j : Int)
    generalize hxs : succL l (j : Int) = xs at *
    clear hxs
    obtain ⟨M, hM⟩ : ∃ M, xs.length = M := ⟨_, rfl⟩
    rw [hM] at HSj HNj HOj h2
    have HM := Lib.hid hM
    clear hM
    obtain ⟨bc, oc, rfl, hblc, cc⟩ := (HB.out.below HBE.out).cells k (by rw [HK.out]; exact hlt)
    generalize ch.getD k false = choice at *
    have h3 : M = 0 ∨ M = 1 ∨ M = 2 := by omega
    clear h2
    rcases h3 with rfl | rfl | rfl
    · skip
      have HOP := Lib.hid (HOj.out rfl)
      obtain ⟨b, o, rfl, hbl, d0, _⟩ := (H.out.below HBE.out).cells j (by rw [HN.out]; exact hjN2)
      have hop : (l.getD j z).op = 149 := HOP.out
      rw [hop] at d0
      clear hop
      go_wp2_with (first
        | (go_at_call 22; refine (HHj.out _ (H.out.below HBE.out)).mono ?_; rintro e w1 ⟨rfl, rfl⟩)
        | (go_at_call 20; refine (HSj.out _ (H.out.below HBE.out)).mono ?_; rintro e w3 ⟨ps, cap, rfl, hn, hb⟩; have HB3 := Lib.hid (HBE.out.trans (hb.mono HBE.out.size)); obtain ⟨hc, hf⟩ := bcell hb; clear hb hn)
        | (go_at_call 14; refine (heads_any _).mono ?_; rintro e w4 ⟨rfl, hb⟩; have B := Lib.hid (HB3.out.trans (hb.mono HB3.out.size)); clear hb))
      go_ret
      exact ⟨rfl, B.out⟩
    · skip
      obtain ⟨t, ht, hpt⟩ := HNj.out 0 (by decide)
      have HT := Lib.hid hpt
      have HTT := Lib.hid ht
      clear ht hpt
      cases choice
      all_goals
        go_wp2_with (first
          | (go_at_call 22; refine (HHj.out _ (H.out.below HBE.out)).mono ?_; rintro e w1 ⟨rfl, rfl⟩)
          | (go_at_call 20; refine (HSj.out _ (H.out.below HBE.out)).mono ?_; rintro e w3 ⟨ps, cap, rfl, hn, hb⟩; have HB3 := Lib.hid (HBE.out.trans (hb.mono HBE.out.size)); obtain ⟨hc, hf⟩ := bcell hb; clear hb; obtain ⟨bs, os, rfl, hbs, e0⟩ := hn.cells 0 (by have := HM.out; omega); rw [HTT.out, Nat.add_zero] at e0; clear hn))
        go_roundw
        case rel => exact ⟨t, k + 1, by omega, by first | rfl | go_num, by go_num, HB3.out, HT⟩
        case measure => simp [intOf]; omega
    · skip
      obtain ⟨t, ht, hpt⟩ := HNj.out 0 (by decide)
      have HT := Lib.hid hpt
      have HTT := Lib.hid ht
      obtain ⟨u, hu, hpu⟩ := HNj.out 1 (by decide)
      have HU := Lib.hid hpu
      have HUU := Lib.hid hu
      clear ht hpt hu hpu
      cases choice
      all_goals
        go_wp2_with (first
          | (go_at_call 22; refine (HHj.out _ (H.out.below HBE.out)).mono ?_; rintro e w1 ⟨rfl, rfl⟩)
          | (go_at_call 20; refine (HSj.out _ (H.out.below HBE.out)).mono ?_; rintro e w3 ⟨ps, cap, rfl, hn, hb⟩; have HB3 := Lib.hid (HBE.out.trans (hb.mono HBE.out.size)); obtain ⟨hc, hf⟩ := bcell hb; clear hb; obtain ⟨bs, os, rfl, hbs, e0⟩ := hn.cells 0 (by have := HM.out; omega); rw [HTT.out, Nat.add_zero] at e0; obtain ⟨bs', os', hq, hbs', e1⟩ := hn.cells 1 (by have := HM.out; omega); injection hq with hq; injection hq with hq1 hq2; subst hq1 hq2; rw [HUU.out] at e1; clear hn))
        go_roundw
        case rel => first | exact ⟨t, k + 1, by omega, by first | rfl | go_num, by go_num, HB3.out, HT⟩ | exact ⟨u, k + 1, by omega, by first | rfl | go_num, by go_num, HB3.out, HU⟩
        case measure => simp [intOf]; omega
end Go.Proofs.Ytnpnpjpmklmklaa
