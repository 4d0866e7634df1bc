/- LegalAlone: its walk. -/
import Derived.Test.YtnpnpjpmklmklaaU2
import Derived.Test.YtnpnpjpmklmklaaV1
namespace Go.Proofs.Ytnpnpjpmklmklaa
open Go.RowKit M

set_option maxRecDepth 100000 in
set_option maxHeartbeats 8000000 in
theorem alone_any (q : Option Addr) (qc : Nat) (l : List In) (i : Int) (w : World) (h : InsAt w q l) :
    Calls Try.prog 7 #[.slice q l.length qc, .int .i64 i] w fun e w' => e = .returned (.bool true) ∧ Below w.heap.size w w' := by
  have HC := Lib.hid (fun W hW => check_any q qc l W hW)
  unfold CheckP at HC
  have hs := h.small
  have H := Lib.hid h
  by_cases hk : (checkS l).2 = 0
  case neg =>
    generalize checkS l = cs at *
    obtain ⟨c1, c2⟩ := cs
    have hne : (c2 != 0) = true := by simpa using hk
    generalize l.length = N at *
    clear h hk
    go_enter Try.func7, Try.ntmps7
    go_wp2_with (first
      | (go_at_call 15; refine (HC.out _ H.out).mono ?_; rintro e w1 ⟨rfl, hb⟩; have B1 := Lib.hid hb; clear hb)
      | (go_at_call 14; refine (heads_any _).mono ?_; rintro e w1 ⟨rfl, hb⟩; have B := Lib.hid (below_next B1.out hb); clear hb))
    go_ret
    exact ⟨rfl, B.out⟩
  case pos =>
  obtain ⟨h1, h0, hgood⟩ := check_ok hk
  have HA1 := Lib.hid (fun i hi hop hh => alone_ok (l := l) (i := i) hgood h1 hi hop hh)
  have HA2 := Lib.hid (fun i hi hop hh => alone_bad (l := l) (i := i) hgood h1 hi hop hh)
  generalize checkS l = cs at *
  obtain ⟨c1, c2⟩ := cs
  obtain rfl : c2 = 0 := hk
  by_cases hin : 0 ≤ i ∧ i < l.length
  case neg =>
    have hcmp : (0 ≤ i ∧ (l.length : Int) ≤ i) ∨ i < 0 := by omega
    generalize l.length = N at *
    clear h hin hgood HA1 HA2
    rcases hcmp with ⟨i0, i1⟩ | i0
    all_goals
      go_enter Try.func7, Try.ntmps7
      go_wp2_with (first
        | (go_at_call 15; refine (HC.out _ H.out).mono ?_; rintro e w1 ⟨rfl, hb⟩; have B1 := Lib.hid hb; clear hb)
        | (go_at_call 14; refine (heads_any _).mono ?_; rintro e w1 ⟨rfl, hb⟩; have B := Lib.hid (below_next B1.out hb); clear hb))
      go_ret
      exact ⟨rfl, B.out⟩
  case pos =>
  obtain ⟨i0, i1⟩ := hin
  obtain ⟨j, rfl⟩ := Int.eq_ofNat_of_zero_le i0
  have hj : j < l.length := by omega
  obtain ⟨b, o, rfl, hbl, _⟩ := h.cells j hj
  have HD := Lib.hid (fun W (hW : InsAt W (some ⟨b, o, none⟩) l) => hW.cells j hj)
  by_cases hop : (l.getD j z).op = 24
  case pos =>
    rw [hop] at HD
    generalize l.length = N at *
    clear h hgood hop HA1 HA2
    go_enter Try.func7, Try.ntmps7
    go_wp2_with (first
      | (go_at_call 15; refine (HC.out _ H.out).mono ?_; rintro e w1 ⟨rfl, hb⟩; have B1 := Lib.hid hb; obtain ⟨b', o', hq, _, d0, _⟩ := HD.out _ (H.out.below hb); obtain ⟨rfl, rfl⟩ : b = b' ∧ o = o' := (by injection hq with hq; injection hq with h1 h2; exact ⟨h1, h2⟩); clear hb hq)
      | (go_at_call 14; refine (heads_any _).mono ?_; rintro e w1 ⟨rfl, hb⟩; have B := Lib.hid (below_next B1.out hb); clear hb))
    go_ret
    exact ⟨rfl, B.out⟩
  case neg =>
  have HH := Lib.hid (fun W hW => rhole_any (some ⟨b, o, none⟩) qc l (j : Int) W hW)
  have gop : ((l.getD j z).op == 24) = false := by
    rw [beq_eq_false_iff_ne]; exact hop
  cases hh : holeB l (j : Int)
  case true =>
    rw [hh] at HH
    generalize l.getD j z = X at *
    generalize l.length = N at *
    clear h hgood hop hh HA1 HA2
    go_enter Try.func7, Try.ntmps7
    go_wp2_with (first
      | (go_at_call 15; refine (HC.out _ H.out).mono ?_; rintro e w1 ⟨rfl, hb⟩; have B1 := Lib.hid hb; obtain ⟨b', o', hq, _, d0, _⟩ := HD.out _ (H.out.below hb); obtain ⟨rfl, rfl⟩ : b = b' ∧ o = o' := (by injection hq with hq; injection hq with h1 h2; exact ⟨h1, h2⟩); clear hb hq)
      | (go_at_call 22; refine (HH.out _ (H.out.below B1.out)).mono ?_; rintro e w2 ⟨rfl, rfl⟩)
      | (go_at_call 14; refine (heads_any _).mono ?_; rintro e w1 ⟨rfl, hb⟩; have B := Lib.hid (below_next B1.out hb); clear hb))
    go_ret
    exact ⟨rfl, B.out⟩
  case false =>
  rw [hh] at HH
  have HK1 := Lib.hid (fun q qc W hW => check_any q qc (l.set j xE) W hW)
  have HK2 := Lib.hid (fun q qc W hW => check_any q qc (l.set j xF) W hW)
  unfold CheckP at HK1 HK2
  rw [HA1.out j hj hop hh] at HK1
  rw [HA2.out j hj hop hh] at HK2
  dsimp only at HK1 HK2
  rw [List.length_set] at HK1 HK2
  have HS1 := Lib.hid (fun g W hW => ins_set (w := W) (g := g) (l := l) (x := xE) hW hj bdE)
  have HS2 := Lib.hid (fun g W hW => ins_set (w := W) (g := g) (l := l) (x := xF) hW hj bdF)
  have HX := Lib.hid (fun (W : World) (B : Nat) v (hW : W.ownsRow B 36 6 v (0 + l.length) ([] ++ flatV l)) => ownX (w := W) (base := B) (n := l.length) (v := v) (l := l) (by simpa using hW) (by omega) rfl (by omega) h.bd)
  generalize l.getD j z = X at *
  obtain ⟨N, hN⟩ : ∃ N, N = l.length := ⟨_, rfl⟩
  rw [← hN] at HC HH HK1 HK2 HX hj h1 h0 hs i1 ⊢
  have HNN := Lib.hid hN
  clear h hgood hop hh HA1 HA2 hN
  obtain ⟨i36, h36, g36, s36, b36⟩ := info_parts info36
  have A36 := Lib.hid h36
  have G36 := Lib.hid g36
  have S36 := Lib.hid s36
  have T36 := Lib.hid b36
  clear h36 g36 s36 b36
  go_enter Try.func7, Try.ntmps7
  have tok1 : True := trivial
  go_wp2_with (first
    | (go_at_call 15; have _t := tok1; refine (HC.out _ H.out).mono ?_; rintro e w1 ⟨rfl, hb⟩; have B1 := Lib.hid hb; obtain ⟨b', o', hq, _, d0, _⟩ := HD.out _ (H.out.below hb); obtain ⟨rfl, rfl⟩ : b = b' ∧ o = o' := (by injection hq with hq; injection hq with h1 h2; exact ⟨h1, h2⟩); have tok2 : True := trivial; clear hb hq tok1)
    | (go_at_call 22; refine (HH.out _ (H.out.below B1.out)).mono ?_; rintro e w2 ⟨rfl, rfl⟩)
    | (at_builtin; have _t := tok2; refine wpList_append_own _ rfl (.tmp 44) (.tmp 45) 27 rfl w1.heap.size 36 i36 _ 6 48 Try.underlying27 A36.out G36.out S36.out T36.out rfl (by decide) _ _ _ rfl (own_empty w1 36 6 w1.heap.size (Nat.le_refl _)) ⟨b, o, none⟩ N qc (flatV l) rfl (flatV_len HNN.out) (srcI ((H.out.below B1.out).below (alloc_own w1 _))) (flatV_one _) (by simp only [maxLen]; omega) (by omega) (alloc_own w1 _).size ?_
       intro v2 w2 hown2 hg2 _
       have hB2 := growB (alloc_own w1 _) (own_empty w1 36 6 w1.heap.size (Nat.le_refl _)) hg2
       obtain ⟨g2, cap2, rfl, hI2, hge2, hfr2⟩ := HX.out _ _ _ hown2
       obtain ⟨b', o', hq, _, e0, e1, e2, e3, e4, e5⟩ := hI2.cells j (by rw [← HNN.out]; exact hj)
       injection hq with hq
       injection hq with hq1 hq2
       subst hq1 hq2
       rw [Nat.zero_add] at e0 e1 e2 e3 e4 e5
       have B2 := Lib.hid hB2; have I2 := Lib.hid hI2; have GE2 := Lib.hid hge2; have tok3 : True := trivial; clear tok2 hown2 hg2 hB2 hI2 hge2)
    | (go_at_call 15; have _t := tok3; refine (HK1.out _ _ _ (HS1.out g2 w2 I2.out)).mono ?_; rintro e w3 ⟨rfl, hb⟩; have B3 := Lib.hid (below_next (below_set6 B2.out GE2.out) hb); have tok4 : True := trivial; clear hb tok3 e0 e1 e2 e3 e4 e5 hfr2)
    | (at_builtin; have _t := tok4; refine wpList_append_own _ rfl (.tmp 56) (.tmp 57) 27 rfl w3.heap.size 36 i36 _ 6 48 Try.underlying27 A36.out G36.out S36.out T36.out rfl (by decide) _ _ _ rfl (own_empty w3 36 6 w3.heap.size (Nat.le_refl _)) ⟨b, o, none⟩ N qc (flatV l) rfl (flatV_len HNN.out) (srcI (((H.out.below B1.out).below B3.out).below (alloc_own w3 _))) (flatV_one _) (by simp only [maxLen]; omega) (by omega) (alloc_own w3 _).size ?_
       intro v4 w4 hown4 hg4 _
       have hB4 := growB (alloc_own w3 _) (own_empty w3 36 6 w3.heap.size (Nat.le_refl _)) hg4
       obtain ⟨g4, cap4, rfl, hI4, hge4, hfr4⟩ := HX.out _ _ _ hown4
       obtain ⟨b', o', hq, _, e0, e1, e2, e3, e4, e5⟩ := hI4.cells j (by rw [← HNN.out]; exact hj)
       injection hq with hq
       injection hq with hq1 hq2
       subst hq1 hq2
       rw [Nat.zero_add] at e0 e1 e2 e3 e4 e5
       have B4 := Lib.hid hB4; have I4 := Lib.hid hI4; have GE4 := Lib.hid hge4; have tok5 : True := trivial; clear tok4 hown4 hg4 hB4 hI4 hge4)
    | (go_at_call 15; have _t := tok5; refine (HK2.out _ _ _ (HS2.out g4 w4 I4.out)).mono ?_; rintro e w5 ⟨rfl, hb⟩; have B5 := Lib.hid (below_next (below_set6 B4.out GE4.out) hb); have tok6 : True := trivial; clear hb tok5 e0 e1 e2 e3 e4 e5 hfr4)
    | (go_at_call 14; refine (heads_any _).mono ?_; rintro e w6 ⟨rfl, hb⟩; have B := Lib.hid (below_next (below_next B1.out B3.out) (below_next B5.out hb)); clear hb))
  go_ret
  exact ⟨rfl, B.out⟩
end Go.Proofs.Ytnpnpjpmklmklaa
