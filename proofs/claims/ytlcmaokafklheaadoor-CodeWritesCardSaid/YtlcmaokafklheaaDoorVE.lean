/- Contract of the document's own Encode. -/
import Derived.Test.YtlcmaokafklheaaDoorVE0
namespace Go.Proofs.YtlcmaokafklheaaDoor
open Go.RowKit M

theorem renc_none (p : Option Addr) (c N : Nat) (w : World) (hN : N ≤ 140737488351232) (h : N < 1 ∨ 4096 < N) :
    Calls Tryd.prog 14 #[.slice p N c] w fun e w' => e = .returned (.tuple #[.slice none 0 0, .int .i64 2]) ∧ w = w' := by
  by_cases h0 : N < 1
  · have hN0 : N = 0 := by omega
    subst hN0
    clear h h0 hN
    go_enter Tryd.func14, Tryd.ntmps14
    go_wp2
    go_ret2
    exact ⟨rfl, rfl⟩
  · have h1 : 4096 < N := by omega
    have h2 : 1 ≤ N := by omega
    clear h h0
    go_enter Tryd.func14, Tryd.ntmps14
    go_wp2
    go_ret2
    exact ⟨rfl, rfl⟩
set_option maxRecDepth 100000 in
set_option maxHeartbeats 8000000 in
theorem renc_some (p : Option Addr) (c : Nat) (l : List In) (w : World) (h : InsAt w p l) (h1 : 1 ≤ l.length) (h2 : l.length ≤ 4096) :
    Calls Tryd.prog 14 #[.slice p l.length c] w (EncR l w) := by
  have H := Lib.hid h
  have HBAD := Lib.hid (fun i hi ho => enc_bad h1 h2 (i := i) hi ho)
  have HGOOD := Lib.hid (fun ho => enc_good h1 h2 ho)
  have HP1 := Lib.hid (fun k (hk : k < l.length) hh hop => next_plain (l := l) (k := k) hk hh hop)
  have HP3 := Lib.hid (fun k (hk : k < l.length) hh hop => ok_wide (l := l) (k := k) hk hh hop)
  have HP4 := Lib.hid (fun k (hk : k < l.length) hh hop h3 => hole_wide (l := l) (k := k) hk hh hop h3)
  obtain ⟨L, hL⟩ : ∃ L, l.length = L := ⟨_, rfl⟩
  rw [hL] at HBAD HGOOD HP1 HP3 HP4 h1 h2 ⊢
  have HL := Lib.hid hL
  clear hL h
  obtain ⟨i5, h5, g5, s5, b5⟩ := info_parts info5
  have A5 := Lib.hid h5
  have G5 := Lib.hid g5
  have S5 := Lib.hid s5
  have T5 := Lib.hid b5
  clear h5 g5 s5 b5
  go_enter Tryd.func14, Tryd.ntmps14
  go_wp2
  go_loopw [4, 5] (fun v i wr => ∃ k : Nat, k ≤ L ∧ i = .int .i64 k ∧ Below w.heap.size w wr ∧ wr.ownsRow w.heap.size 5 1 v (k * 8) (bytesV (encTo l k)) ∧ Hid (∀ j, j < k → okE l j = true) ∧ Hid (holeB l (k : Int) = false)) (fun _ i _ => L - (intOf i).toNat)
  case atStart => exact ⟨0, Nat.zero_le _, rfl, Below.refl _ _, ⟨rfl, .inl ⟨rfl, rfl⟩⟩, Lib.hid (fun j hj => absurd hj (Nat.not_lt_zero _)), Lib.hid (by unfold holeB; simp [hR])⟩
  case round =>
    obtain ⟨k, hk, rfl, hb, hown, hok, hhole⟩ := hrel
    have HB := Lib.hid hb
    have HO := Lib.hid hown
    clear hb hown
    by_cases hlt : k < L
    case neg =>
      have hkL : k = L := by omega
      subst hkL
      have HV := Lib.hid (HGOOD.out hok.out)
      go_wp2
      go_ret2
      exact encR_good HV.out (by omega) h2 HO.out rfl HB.out
    case pos =>
    have HX := Lib.hid (H.out.bd k (by rw [HL.out]; exact hlt))
    have HOK := Lib.hid (fun hop => ok_plain hhole.out hop)
    have HOW := Lib.hid (fun hop => HP3.out k hlt hhole.out hop)
    have HNP := Lib.hid (fun hop => HP1.out k hlt hhole.out hop)
    have HNW := Lib.hid (fun hop h3 => HP4.out k hlt hhole.out hop h3)
    have HE1 := Lib.hid (enc_plain hhole.out)
    have HE2 := Lib.hid (fun hw => enc_wide hhole.out hw)
    obtain ⟨b, o, rfl, hbl, d0, d1, d2, d3, d4, d5⟩ := (H.out.below HB.out).cells k (by rw [HL.out]; exact hlt)
    cases hfit : fitsB (l.getD k z)
    case false =>
      have hokk : okE l k = false := by
        by_cases hop : (l.getD k z).op = 24
        · rw [HOW.out hop, hfit]; rfl
        · rw [HOK.out hop, hfit]; rfl
      have HBK := Lib.hid (HBAD.out k hlt hokk)
      have hwhy := fits_why hfit
      generalize l.getD k z = X at *
      clear hfit hokk
      rcases hwhy with v1 | ⟨v1, v2⟩ | ⟨v1, v2, v3⟩ | ⟨v1, v2, v3, v4⟩ | ⟨v1, v2, v3, v4, v5⟩
      all_goals
        go_wp2_with (go_at_call 25; refine (within_b _ _ _ _).mono ?_; rintro e w3 ⟨rfl, rfl⟩)
        go_ret2
        exact encR_bad HBK.out rfl (HB.out.alloc HB.out.size _)
    case true =>
    obtain ⟨v1, v2, v3, v4, v5⟩ := fits_all hfit
    have hft := fits_true.1 hfit
    have HP := Lib.hid (fun W => rbytes_any (l.getD k z) (by omega) (by omega) (by omega) W)
    have HPL := Lib.hid (show (putL (pk (l.getD k z)) 8).length = 8 from putL_length _ 8)
    unfold PutPost at HP
    obtain ⟨Bs, hBs⟩ : ∃ Bs, putL (pk (l.getD k z)) 8 = Bs := ⟨_, rfl⟩
    rw [hBs] at HP HE1 HE2 HPL
    rw [show Bs.length = 8 from HPL.out] at HP
    by_cases hop : (l.getD k z).op = 24
    case neg =>
      have g24 : ((l.getD k z).op != 24) = true := by simpa using hop
      have HNH := Lib.hid (HNP.out hop)
      have HOKP := Lib.hid (HOK.out hop)
      rw [hfit, Bool.true_and] at HOKP
      cases hw0 : (l.getD k z).wide == 0
      case false =>
        have gw : ((l.getD k z).wide != 0) = true := by simp at hw0 ⊢; exact hw0
        rw [hw0] at HOKP
        have HBK := Lib.hid (HBAD.out k hlt HOKP.out)
        generalize l.getD k z = X at *
        clear hfit hft hop hw0 hBs
        go_wp2_with (first
          | (go_at_call 25; refine (within_b _ _ _ _).mono ?_; rintro e w3 ⟨rfl, rfl⟩)
          | (go_at_call 26; refine (HP.out _).mono ?_; rintro e w4 ⟨g, cap, rfl, hb4, hrow⟩; have HB4 := Lib.hid (HB.out.trans ((below1 hb4).mono HB.out.size)); have HO4 := Lib.hid (own_below (HO.out.alloc _) hb4); have HROW := Lib.hid hrow
             have e0 : w4.cell? ⟨wr.heap.size, 0, none⟩ = some (.int .i64 X.op) := (hb4.cell (p := ⟨wr.heap.size, 0, none⟩) (by simp)).trans (cell_new _ rfl)
             have e5 : w4.cell? ⟨wr.heap.size, 5, none⟩ = some (.int .u64 X.wide) := (hb4.cell (p := ⟨wr.heap.size, 5, none⟩) (by simp)).trans (cell_new _ rfl)
             have hne := box_ne HO.out
             clear hb4 hrow)
          | (at_builtin; refine wpList_append_own _ rfl (.tmp 53) (.tmp 55) 22 rfl w.heap.size 5 i5 _ 1 1 Tryd.underlying22 A5.out G5.out S5.out T5.out rfl (by decide) _ _ _ rfl HO4.out ⟨g, 0, none⟩ 8 cap (bytesV Bs) rfl (by rw [bytesV_length, HPL.out]) (src0 HROW.out) (bytesV_one Bs) (by simp only [maxLen]; omega) (by omega) HB4.out.size ?_
             intro v' w5 hown' hg _
             have f0 := hg.cell e0 hne; have f5 := hg.cell e5 hne
             have HB5 := Lib.hid (HB4.out.grown hg HB4.out.size (own_ge HO4.out))
             clear hown' hg e0 e5 hne))
        go_ret2
        exact encR_bad HBK.out rfl HB5.out
      case true =>
        have gw : ((l.getD k z).wide != 0) = false := by simp at hw0 ⊢; exact hw0
        rw [hw0] at HOKP
        generalize l.getD k z = X at *
        clear hfit hft hop hw0 hBs
        go_wp2_with (first
          | (go_at_call 25; refine (within_b _ _ _ _).mono ?_; rintro e w3 ⟨rfl, rfl⟩)
          | (go_at_call 26; refine (HP.out _).mono ?_; rintro e w4 ⟨g, cap, rfl, hb4, hrow⟩; have HB4 := Lib.hid (HB.out.trans ((below1 hb4).mono HB.out.size)); have HO4 := Lib.hid (own_below (HO.out.alloc _) hb4); have HROW := Lib.hid hrow
             have e0 : w4.cell? ⟨wr.heap.size, 0, none⟩ = some (.int .i64 X.op) := (hb4.cell (p := ⟨wr.heap.size, 0, none⟩) (by simp)).trans (cell_new _ rfl)
             have e5 : w4.cell? ⟨wr.heap.size, 5, none⟩ = some (.int .u64 X.wide) := (hb4.cell (p := ⟨wr.heap.size, 5, none⟩) (by simp)).trans (cell_new _ rfl)
             have hne := box_ne HO.out
             clear hb4 hrow)
          | (at_builtin; refine wpList_append_own _ rfl (.tmp 53) (.tmp 55) 22 rfl w.heap.size 5 i5 _ 1 1 Tryd.underlying22 A5.out G5.out S5.out T5.out rfl (by decide) _ _ _ rfl HO4.out ⟨g, 0, none⟩ 8 cap (bytesV Bs) rfl (by rw [bytesV_length, HPL.out]) (src0 HROW.out) (bytesV_one Bs) (by simp only [maxLen]; omega) (by omega) HB4.out.size ?_
             intro v' w5 hown' hg _
             have f0 := hg.cell e0 hne; have f5 := hg.cell e5 hne
             have HB5 := Lib.hid (HB4.out.grown hg HB4.out.size (own_ge HO4.out))
             have HO5 := Lib.hid hown'
             clear hown' hg e0 e5 hne))
        go_roundw
        case rel =>
          refine ⟨k + 1, by omega, by go_num, HB5.out, ?_, Lib.hid (fun j hj => ?_), HNH⟩
          · rw [HE1.out, bytesV_app, show (k + 1) * 8 = k * 8 + 8 by omega]
            exact HO5.out
          · by_cases e : j = k
            · subst e; exact HOKP.out
            · exact hok.out j (by omega)
        case measure => simp [intOf]; omega
    case pos =>
    have g24 : ((l.getD k z).op != 24) = false := by rw [hop]; rfl
    have HOKW := Lib.hid (HOW.out hop)
    rw [hfit, Bool.true_and] at HOKW
    have HI := Lib.hid (fun W => rimm_no (l.getD k z).imm W (by omega) (by omega))
    have himw := imm_wide (i := (l.getD k z).imm) (w := (l.getD k z).wide) (by omega) (by omega)
    obtain ⟨hw0, hw1⟩ := HX.out.wide
    by_cases heq : (l.getD k z).imm = sg32 (l.getD k z).wide
    case neg =>
      have gi : ((l.getD k z).imm % 4294967296 != (l.getD k z).wide % 4294967296) = true := by
        simp only [bne_iff_ne, ne_eq]
        exact fun h => heq (himw.1 h)
      rw [decide_eq_false heq, Bool.false_and] at HOKW
      have HBK := Lib.hid (HBAD.out k hlt HOKW.out)
      generalize l.getD k z = X at *
      clear hfit hft hop hBs heq himw
      have tok1 : True := trivial
      have tok2 : True := trivial
      go_wp2_with (first
          | (go_at_call 25; refine (within_b _ _ _ _).mono ?_; rintro e w3 ⟨rfl, rfl⟩)
          | (go_at_call 26; have _t := tok1; refine (HP.out _).mono ?_; rintro e w4 ⟨g, cap, rfl, hb4, hrow⟩; have HB4 := Lib.hid (HB.out.trans ((below1 hb4).mono HB.out.size)); have HO4 := Lib.hid (own_below (HO.out.alloc _) hb4); have HROW := Lib.hid hrow
             have e0 : w4.cell? ⟨wr.heap.size, 0, none⟩ = some (.int .i64 X.op) := (hb4.cell (p := ⟨wr.heap.size, 0, none⟩) (by simp)).trans (cell_new _ rfl)
             have e4 : w4.cell? ⟨wr.heap.size, 4, none⟩ = some (.int .i64 X.imm) := (hb4.cell (p := ⟨wr.heap.size, 4, none⟩) (by simp)).trans (cell_new _ rfl)
             have e5 : w4.cell? ⟨wr.heap.size, 5, none⟩ = some (.int .u64 X.wide) := (hb4.cell (p := ⟨wr.heap.size, 5, none⟩) (by simp)).trans (cell_new _ rfl)
             have hne := box_ne HO.out
             have hz4 : wr.heap.size < w4.heap.size := one_in hb4
             clear hb4 hrow tok1)
          | (at_builtin; have _t := tok2; refine wpList_append_own _ rfl (.tmp 53) (.tmp 55) 22 rfl w.heap.size 5 i5 _ 1 1 Tryd.underlying22 A5.out G5.out S5.out T5.out rfl (by decide) _ _ _ rfl HO4.out ⟨g, 0, none⟩ 8 cap (bytesV Bs) rfl (by rw [bytesV_length, HPL.out]) (src0 HROW.out) (bytesV_one Bs) (by simp only [maxLen]; omega) (by omega) HB4.out.size ?_
             intro v' w5 hown' hg _
             have f0 := hg.cell e0 hne; have f4 := hg.cell e4 hne; have f5 := hg.cell e5 hne
             have HB5 := Lib.hid (HB4.out.grown hg HB4.out.size (own_ge HO4.out))
             have HO5 := Lib.hid hown'
             have hz5 : wr.heap.size < w5.heap.size := Nat.lt_of_lt_of_le hz4 hg.size
             clear hown' hg e0 e4 e5 hne tok2))
      go_quiet ((go_at_call 23; exact Calls.quiet_of_same ((HI.out _).mono fun _ _ ⟨h1, h2⟩ => ⟨h1, h2.symm⟩)))
      go_wp2
      go_ret2
      exact encR_bad HBK.out rfl (below_drewN HB5.out _)
    case pos =>
    have gi : ((l.getD k z).imm % 4294967296 != (l.getD k z).wide % 4294967296) = false := by
      simp only [bne_eq_false_iff_eq]
      exact himw.2 heq
    rw [decide_eq_true heq, Bool.true_and] at HOKW
    by_cases hlt2 : k + 1 < L
    case neg =>
      rw [decide_eq_false hlt2] at HOKW
      have HBK := Lib.hid (HBAD.out k hlt HOKW.out)
      generalize l.getD k z = X at *
      have hge : decide ((L : Int) ≤ (k : Int) + 1) = true := decide_eq_true (by omega)
      have hkk : L ≤ k + 1 := by omega
      clear hfit hft hop hBs heq himw hlt2
      have tok1 : True := trivial
      have tok2 : True := trivial
      go_wp2_with (first
          | (go_at_call 25; refine (within_b _ _ _ _).mono ?_; rintro e w3 ⟨rfl, rfl⟩)
          | (go_at_call 26; have _t := tok1; refine (HP.out _).mono ?_; rintro e w4 ⟨g, cap, rfl, hb4, hrow⟩; have HB4 := Lib.hid (HB.out.trans ((below1 hb4).mono HB.out.size)); have HO4 := Lib.hid (own_below (HO.out.alloc _) hb4); have HROW := Lib.hid hrow
             have e0 : w4.cell? ⟨wr.heap.size, 0, none⟩ = some (.int .i64 X.op) := (hb4.cell (p := ⟨wr.heap.size, 0, none⟩) (by simp)).trans (cell_new _ rfl)
             have e4 : w4.cell? ⟨wr.heap.size, 4, none⟩ = some (.int .i64 X.imm) := (hb4.cell (p := ⟨wr.heap.size, 4, none⟩) (by simp)).trans (cell_new _ rfl)
             have e5 : w4.cell? ⟨wr.heap.size, 5, none⟩ = some (.int .u64 X.wide) := (hb4.cell (p := ⟨wr.heap.size, 5, none⟩) (by simp)).trans (cell_new _ rfl)
             have hne := box_ne HO.out
             have hz4 : wr.heap.size < w4.heap.size := one_in hb4
             clear hb4 hrow tok1)
          | (at_builtin; have _t := tok2; refine wpList_append_own _ rfl (.tmp 53) (.tmp 55) 22 rfl w.heap.size 5 i5 _ 1 1 Tryd.underlying22 A5.out G5.out S5.out T5.out rfl (by decide) _ _ _ rfl HO4.out ⟨g, 0, none⟩ 8 cap (bytesV Bs) rfl (by rw [bytesV_length, HPL.out]) (src0 HROW.out) (bytesV_one Bs) (by simp only [maxLen]; omega) (by omega) HB4.out.size ?_
             intro v' w5 hown' hg _
             have f0 := hg.cell e0 hne; have f4 := hg.cell e4 hne; have f5 := hg.cell e5 hne
             have HB5 := Lib.hid (HB4.out.grown hg HB4.out.size (own_ge HO4.out))
             have HO5 := Lib.hid hown'
             have hz5 : wr.heap.size < w5.heap.size := Nat.lt_of_lt_of_le hz4 hg.size
             clear hown' hg e0 e4 e5 hne tok2))
      have hk1 : IntKind.i64.wrap ((k : Int) + 1) = (k : Int) + 1 := by rw [IntKind.wrap_i64]; omega
      go_quiet ((go_at_call 23; exact Calls.quiet_of_same ((HI.out _).mono fun _ _ ⟨h1, h2⟩ => ⟨h1, h2.symm⟩)))
      clear hk1
      go_wp2
      go_ret2
      exact encR_bad HBK.out rfl (below_drewN HB5.out _)
    case pos =>
    rw [decide_eq_true hlt2] at HOKW
    have HW := Lib.hid (HNW.out hop hlt2)
    have HOK2 := Lib.hid (okE_hole HW.out)
    have HEZ := Lib.hid (fun W => eq_zero (l.getD (k + 1) z) W)
    have HC2 := Lib.hid (fun W (hW : InsAt W (some ⟨b, o, none⟩) l) => hW.cells (k + 1) (by rw [HL.out]; exact hlt2))
    have HBD2 := Lib.hid (HBAD.out (k + 1) hlt2)
    have HAFT := Lib.hid (hole_after HW.out)
    have HE2W := Lib.hid (HE2.out HW.out)
    generalize l.getD (k + 1) z = Y at *
    cases hz : eqB Y z
    case false =>
      rw [hz] at HEZ HOK2
      have HBK := Lib.hid (HBD2.out HOK2.out)
      have heqz := HEZ.out
      generalize l.getD k z = X at *
      clear hfit hft hop hBs heq himw hz
      have tok1 : True := trivial
      have tok2 : True := trivial
      go_wp2_with (first
          | (go_at_call 25; refine (within_b _ _ _ _).mono ?_; rintro e w3 ⟨rfl, rfl⟩)
          | (go_at_call 26; have _t := tok1; refine (HP.out _).mono ?_; rintro e w4 ⟨g, cap, rfl, hb4, hrow⟩; have HB4 := Lib.hid (HB.out.trans ((below1 hb4).mono HB.out.size)); have HO4 := Lib.hid (own_below (HO.out.alloc _) hb4); have HROW := Lib.hid hrow
             have e0 : w4.cell? ⟨wr.heap.size, 0, none⟩ = some (.int .i64 X.op) := (hb4.cell (p := ⟨wr.heap.size, 0, none⟩) (by simp)).trans (cell_new _ rfl)
             have e4 : w4.cell? ⟨wr.heap.size, 4, none⟩ = some (.int .i64 X.imm) := (hb4.cell (p := ⟨wr.heap.size, 4, none⟩) (by simp)).trans (cell_new _ rfl)
             have e5 : w4.cell? ⟨wr.heap.size, 5, none⟩ = some (.int .u64 X.wide) := (hb4.cell (p := ⟨wr.heap.size, 5, none⟩) (by simp)).trans (cell_new _ rfl)
             have hne := box_ne HO.out
             have hz4 : wr.heap.size < w4.heap.size := one_in hb4
             clear hb4 hrow tok1)
          | (at_builtin; have _t := tok2; refine wpList_append_own _ rfl (.tmp 53) (.tmp 55) 22 rfl w.heap.size 5 i5 _ 1 1 Tryd.underlying22 A5.out G5.out S5.out T5.out rfl (by decide) _ _ _ rfl HO4.out ⟨g, 0, none⟩ 8 cap (bytesV Bs) rfl (by rw [bytesV_length, HPL.out]) (src0 HROW.out) (bytesV_one Bs) (by simp only [maxLen]; omega) (by omega) HB4.out.size ?_
             intro v' w5 hown' hg _
             have f0 := hg.cell e0 hne; have f4 := hg.cell e4 hne; have f5 := hg.cell e5 hne
             have HB5 := Lib.hid (HB4.out.grown hg HB4.out.size (own_ge HO4.out))
             have HO5 := Lib.hid hown'
             have hz5 : wr.heap.size < w5.heap.size := Nat.lt_of_lt_of_le hz4 hg.size
             clear hown' hg e0 e4 e5 hne tok2))
      obtain ⟨b', o', hq, hbl', n0, n1, n2, n3, n4, n5⟩ := HC2.out _ (H.out.below HB5.out)
      obtain ⟨rfl, rfl⟩ : b = b' ∧ o = o' := by injection hq with hq; injection hq with h1 h2; exact ⟨h1, h2⟩
      clear hq
      have hk0 : (0 : Int) ≤ (k : Int) + 1 := by omega
      have hk2 : (k : Int) + 1 < (L : Int) := by omega
      have hk3 : ((k : Int) + 1).toNat = k + 1 := by omega
      have hk4 : decide ((L : Int) ≤ (k : Int) + 1) = false := decide_eq_false (by omega)
      have hk1 : IntKind.i64.wrap ((k : Int) + 1) = (k : Int) + 1 := by rw [IntKind.wrap_i64]; omega
      go_quiet ((go_at_call 23; exact Calls.quiet_of_same ((HI.out _).mono fun _ _ ⟨h1, h2⟩ => ⟨h1, h2.symm⟩)))
      clear hk0 hk1 hk2 hk3 hk4
      go_wp2
      go_ret2
      exact encR_bad HBK.out rfl (below_drewN HB5.out _)
    case true =>
    rw [hz] at HEZ HOK2
    have heqz := HEZ.out
    have HP2 := Lib.hid (fun W => rbytes_any ⟨0, 0, 0, 0, (l.getD k z).wide / 4294967296, 0⟩ ⟨Int.le_refl 0, show (0 : Int) ≤ 255 by decide⟩ ⟨Int.le_refl 0, show (0 : Int) ≤ 15 by decide⟩ ⟨Int.le_refl 0, show (0 : Int) ≤ 15 by decide⟩ W)
    unfold PutPost at HP2
    rw [pk_rest] at HP2
    have HPL2 := Lib.hid (show (putL (pk (restI (l.getD k z).wide)) 8).length = 8 from putL_length _ 8)
    obtain ⟨Cs, hCs⟩ : ∃ Cs, putL (pk (restI (l.getD k z).wide)) 8 = Cs := ⟨_, rfl⟩
    rw [hCs] at HP2 HPL2 HE2W
    rw [show Cs.length = 8 from HPL2.out] at HP2
    dsimp only at HP2
    generalize l.getD k z = X at *
    clear hfit hft hop hBs heq himw hz hCs
    have tok1 : True := trivial
    have tok2 : True := trivial
    go_wp2_with (first
          | (go_at_call 25; refine (within_b _ _ _ _).mono ?_; rintro e w3 ⟨rfl, rfl⟩)
          | (go_at_call 26; have _t := tok1; refine (HP.out _).mono ?_; rintro e w4 ⟨g, cap, rfl, hb4, hrow⟩; have HB4 := Lib.hid (HB.out.trans ((below1 hb4).mono HB.out.size)); have HO4 := Lib.hid (own_below (HO.out.alloc _) hb4); have HROW := Lib.hid hrow
             have e0 : w4.cell? ⟨wr.heap.size, 0, none⟩ = some (.int .i64 X.op) := (hb4.cell (p := ⟨wr.heap.size, 0, none⟩) (by simp)).trans (cell_new _ rfl)
             have e4 : w4.cell? ⟨wr.heap.size, 4, none⟩ = some (.int .i64 X.imm) := (hb4.cell (p := ⟨wr.heap.size, 4, none⟩) (by simp)).trans (cell_new _ rfl)
             have e5 : w4.cell? ⟨wr.heap.size, 5, none⟩ = some (.int .u64 X.wide) := (hb4.cell (p := ⟨wr.heap.size, 5, none⟩) (by simp)).trans (cell_new _ rfl)
             have hne := box_ne HO.out
             have hz4 : wr.heap.size < w4.heap.size := one_in hb4
             clear hb4 hrow tok1)
          | (at_builtin; have _t := tok2; refine wpList_append_own _ rfl (.tmp 53) (.tmp 55) 22 rfl w.heap.size 5 i5 _ 1 1 Tryd.underlying22 A5.out G5.out S5.out T5.out rfl (by decide) _ _ _ rfl HO4.out ⟨g, 0, none⟩ 8 cap (bytesV Bs) rfl (by rw [bytesV_length, HPL.out]) (src0 HROW.out) (bytesV_one Bs) (by simp only [maxLen]; omega) (by omega) HB4.out.size ?_
             intro v' w5 hown' hg _
             have f0 := hg.cell e0 hne; have f4 := hg.cell e4 hne; have f5 := hg.cell e5 hne
             have HB5 := Lib.hid (HB4.out.grown hg HB4.out.size (own_ge HO4.out))
             have HO5 := Lib.hid hown'
             have hz5 : wr.heap.size < w5.heap.size := Nat.lt_of_lt_of_le hz4 hg.size
             clear hown' hg e0 e4 e5 hne tok2))
    obtain ⟨b', o', hq, hbl', n0, n1, n2, n3, n4, n5⟩ := HC2.out _ (H.out.below HB5.out)
    obtain ⟨rfl, rfl⟩ : b = b' ∧ o = o' := by injection hq with hq; injection hq with h1 h2; exact ⟨h1, h2⟩
    clear hq
    have hk0 : (0 : Int) ≤ (k : Int) + 1 := by omega
    have hk2 : (k : Int) + 1 < (L : Int) := by omega
    have hk3 : ((k : Int) + 1).toNat = k + 1 := by omega
    have hk4 : decide ((L : Int) ≤ (k : Int) + 1) = false := decide_eq_false (by omega)
    have hk1 : IntKind.i64.wrap ((k : Int) + 1) = (k : Int) + 1 := by rw [IntKind.wrap_i64]; omega
    go_quiet ((go_at_call 23; exact Calls.quiet_of_same ((HI.out _).mono fun _ _ ⟨h1, h2⟩ => ⟨h1, h2.symm⟩)))
    clear hk0 hk1 hk2 hk3 hk4
    have tok3 : True := trivial
    go_wp2_with (first
      | (go_at_call 26; refine (HP2.out _).mono ?_; rintro e w6 ⟨g6, cap6, rfl, hb6, hrow6⟩; have HB6 := Lib.hid ((below_drewN HB5.out nq).trans (hb6.mono (below_drewN HB5.out nq).size)); have HO6 := Lib.hid (own_below (own_drewN HO5.out nq) hb6); have HROW6 := Lib.hid hrow6; clear hb6 hrow6)
      | (at_builtin; refine wpList_append_own _ rfl (.tmp 86) (.tmp 92) 22 rfl w.heap.size 5 i5 _ 1 1 Tryd.underlying22 A5.out G5.out S5.out T5.out rfl (by decide) _ _ _ rfl HO6.out ⟨g6, 0, none⟩ 8 cap6 (bytesV Cs) rfl (by rw [bytesV_length, HPL2.out]) (src0 HROW6.out) (bytesV_one Cs) (by simp only [maxLen]; omega) (by omega) HB6.out.size ?_
         intro v7 w7 hown7 hg7 _
         have HB7 := Lib.hid (HB6.out.grown hg7 HB6.out.size (own_ge HO6.out))
         have HO7 := Lib.hid hown7
         clear hown7 hg7))
    go_roundw
    case rel =>
      refine ⟨k + 2, by omega, by go_num, HB7.out, ?_, Lib.hid (fun j hj => ?_), Lib.hid (by have := HAFT.out; rw [show ((k + 2 : Nat) : Int) = (k : Int) + 1 + 1 by omega]; exact this)⟩
      · rw [HE2W.out, bytesV_app, bytesV_app, show (k + 2) * 8 = k * 8 + 8 + 8 by omega]
        exact HO7.out
      · by_cases e : j = k
        · subst e; exact HOKW.out
        · by_cases e2 : j = k + 1
          · subst e2; exact HOK2.out
          · exact hok.out j (by omega)
    case measure => simp [intOf]; omega
theorem rencode_any (p : Option Addr) (c : Nat) (l : List In) (w : World) (h : InsAt w p l) :
    Calls Tryd.prog 14 #[.slice p l.length c] w (EncR l w) := by
  by_cases hn : l.length < 1 ∨ 4096 < l.length
  · refine (renc_none p c l.length w h.small hn).mono fun e w' ⟨he, hw⟩ => ?_
    exact encR_bad (by unfold encS; rw [if_pos hn]) he (hw ▸ Below.refl _ _)
  · exact renc_some p c l w h (by omega) (by omega)
end Go.Proofs.YtlcmaokafklheaaDoor
