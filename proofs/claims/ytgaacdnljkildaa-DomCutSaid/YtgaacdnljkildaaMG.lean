/- Dominance: package dom's own above, against landed code. -/
import Derived.Test.YtgaacdnljkildaaMF
namespace Go.Proofs.Ytgaacdnljkildaa
open Go.RowKit
open Dm
variable {G : Dg} {par hi : Nat → Nat}

set_option maxRecDepth 100000 in
set_option maxHeartbeats 4000000 in
theorem sabove_any (T : Tr G par hi) {B B' b gp : Nat} {S : Ws} {r : Nat → List Int} {P : Nat → Option Addr} {C : Nat → Nat} (w : World) (ht : Tt B w b S) (hfl : S.frm.length = G.N) (hfr : ∀ m, 0 < m → m < G.N → S.frm.getD m 0 = (par m : Int)) (hp : Sr B' w gp (List.range G.N) r P C) (hr : ∀ j, j < G.N → ∀ x, x ∈ r j ↔ ∃ p : Nat, x = (p : Int) ∧ G.e p j) (hln : ∀ j, (r j).length ≤ 134217728) (hN : G.N ≤ 1048576) :
    Calls Try.prog 24 #[.pointer (some ⟨b, 0, none⟩), .slice (some ⟨gp, 0, none⟩) G.N G.N] w (AbQ w G) := by
  obtain ⟨q2, c2, d2, n2, _⟩ := ht.r2
  rw [hfl] at d2
  have hbl := ht.bl
  have HFR : Hid (∀ W, Below w.heap.size w W → W.cell? ⟨b, 2, none⟩ = some (.slice q2 G.N c2) ∧ NumsAt .i64 W q2 S.frm) := Lib.hid (fun W hb => ⟨(hb.cell (p := ⟨b, 2, none⟩) hbl).trans d2, n2.below hb⟩)
  have HPR : Hid (∀ W, Below w.heap.size w W → Sr B' W gp (List.range G.N) r P C) := Lib.hid (fun W hb => hp.chg ⟨hb.os, hb.tape, hb.output, hb.size, fun k hk _ => hb.block k hk⟩ (X := fun _ => False) (fun c => c) (fun _ _ _ _ c => c))
  have HTR := Lib.hid T
  have HR := Lib.hid hr
  have HLN := Lib.hid hln
  have HFV := Lib.hid hfr
  have HFL := Lib.hid hfl
  have HQ : Hid (∀ W gr res, Lp G hi G.N res → W.ownsRow w.heap.size 3 1 (.slice (some ⟨gr, 0, none⟩) G.N G.N) G.N (intsV res) → Below w.heap.size w W → AbQ w G (.returned (.slice (some ⟨gr, 0, none⟩) G.N G.N)) W) := Lib.hid (fun W gr res h1 h2 h3 => ⟨gr, res, rfl, h2, h1.rl, h1.done, h3⟩)
  generalize AbQ w G = Q at *
  obtain ⟨N, hNd⟩ : ∃ N, G.N = N := ⟨_, rfl⟩
  have HND := Lib.hid hNd
  have hmk := fun W => run_make_row' (P := Try.prog) 22 27 (.slice none 0 0) 24 Try.underlying22 infoInts rfl .i64 .i64 N (by omega) (by omega) W
  have HREP : Hid (∀ (k : Nat) (W : World), W.heap[k]? = some (.cells #[.int .i64 (-1)] 3 (0, 0)) → Calls Try.prog 25 #[.slice (some ⟨k, 0, none⟩) 1 1, .int .i64 (N : Int)] W fun e w' => ∃ g, e = .returned (.slice (some ⟨g, 0, none⟩) N N) ∧ W.heap.size ≤ g ∧ w'.heap[g]? = some (.cells (rpc (-1) N N).toArray 3 (0, 0)) ∧ Below W.heap.size W w') := Lib.hid (fun k W h => rep_any _ 1 (-1) N W (by omega) ⟨by simp, fun i hi => ⟨k, 0, rfl, (Array.getElem?_eq_some_iff.1 h).1, by
    have : i = 0 := by simpa using hi
    subst this
    simp [World.cell?, h]⟩⟩)
  have HPL : Hid (∀ W, Calls Try.prog 34 #[.int .i64 (N : Int)] W _) := Lib.hid (fun W => splant_any N W (by omega))
  have HN9 : Hid (∀ W : World, (W.alloc (.cells #[.int .i64 (-1)] 3)).heap[W.heap.size]? = some (.cells #[.int .i64 (-1)] 3 (0, 0))) := Lib.hid (fun W => heap_new _ _)
  have HA0 : Hid (∀ w1 w2 fb gr q c, w.heap.size ≤ fb → Sr w.heap.size w1 fb FJ (fr (List.replicate N (-1)) ((List.range N).map Int.ofNat) ((List.range N).map Int.ofNat) []) q c → Below w.heap.size w w1 → Below w1.heap.size w1 w2 → w1.heap.size ≤ gr → w2.heap[gr]? = some (.cells (rpc (-1) N N).toArray 3 (0, 0)) →
      A1 w (w2.alloc (.cells (madeCells #[.slice none 0 0] N) 27)) fb w2.heap.size gr G par hi N ((List.range N).map Int.ofNat) (List.replicate N (-1)) ((List.range N).map Int.ofNat) [] q c (fun _ => []) (fun _ => none) (fun _ => 0) (List.replicate N (-1))) := Lib.hid (fun w1 w2 fb gr q c h1 h2 h3 h4 h5 h6 => by
    have hm := Mm.start h1 h2 h3 h4 h5 h6 (by omega)
    rw [← HND.out] at hm ⊢
    exact ⟨hm, by rw [wt_nil]; exact Ab.start, fun j => Nat.zero_le _, Nat.zero_le _⟩)
  rw [hNd] at HFR HPR hN ⊢
  clear ht hfl hfr hp hr hln d2 n2 hNd T
  go_enter Try.func24, Try.ntmps24
  go_wp2_with (first
    | (go_at_call 34; (with_reducible refine (HPL.out _).mono ?_); rintro e w1 ⟨fb, q, c, rfl, hfb, hsr, hb1⟩; have HFB := Lib.hid hfb; have HSR := Lib.hid hsr; have HB1 := Lib.hid hb1; clear hfb hsr hb1)
    | (go_at_call 25; (with_reducible refine (HREP.out _ _ (HN9.out _)).mono ?_); rintro e w2 ⟨gr, rfl, hgr, hu, hb2⟩; have HGR := Lib.hid hgr; have HU := Lib.hid hu; have HB2 := Lib.hid hb2; clear hgr hu hb2))
  have HA1 := Lib.hid (HA0.out _ _ fb gr q c HFB.out HSR.out HB1.out ((b1 (w := w1)).trans (HB2.out.mono (by simp))) (by have := HGR.out; simp at this; omega) HU.out)
  obtain ⟨gw, hgw⟩ : ∃ gw, w2.heap.size = gw := ⟨_, rfl⟩
  obtain ⟨W0, hW0⟩ : ∃ W0, w2.alloc (.cells (madeCells #[.slice none 0 0] N) 27) = W0 := ⟨_, rfl⟩
  rw [hgw, hW0] at HA1 ⊢
  clear hW0 hgw HA0 HREP HPL HN9 HFB HSR HB1 HGR HU HB2 hmk
  go_loopw [8] (fun u wr => ∃ (L : Nat) (x : Int) (semi up least way : List Int) (q : Nat → Option Addr) (c : Nat → Nat) (rw : Nat → List Int) (qw : Nat → Option Addr) (cw : Nat → Nat) (res : List Int), u = .int .i64 x ∧ Hid (x = (L : Int) - 1 ∧ L ≤ N ∧ (L = 0 → N = 0)) ∧ Hid (A1 w wr fb gw gr G par hi L semi up least way q c rw qw cw res)) (fun u _ => (RowKit.intOf u + 1).toNat)
  case atStart => exact ⟨N, _, _, _, _, _, _, _, _, _, _, _, rfl, Lib.hid ⟨by omega, Nat.le_refl _, fun h => h⟩, HA1⟩
  case round =>
    clear HA1
    obtain ⟨L, x, semi, up, least, way, q, c, rw', qw, cw, res, rfl, HX, HA⟩ := hrel
    by_cases hL : 1 < L
    · obtain ⟨v, rfl⟩ : ∃ v, L = v + 1 := ⟨L - 1, by omega⟩
      obtain rfl : x = (v : Int) := by have := HX.out.1; omega
      have hvN : v < N := by have := HX.out.2.1; omega
      have hv0 : 0 < v := by omega
      have hp := HPR.out wr HA.out.mm.bl
      have dp := hp.cl v (List.mem_range.2 hvN)
      have lp := hp.bl
      obtain ⟨rl, hrl⟩ : ∃ l, (r v).length = l := ⟨_, rfl⟩
      have HRL : Hid ((r v).length = rl ∧ rl ≤ 134217728) := Lib.hid ⟨hrl, by rw [← hrl]; exact HLN.out v⟩
      obtain ⟨pv, hpv⟩ : ∃ a, P v = a := ⟨_, rfl⟩
      have HNV : Hid (∀ W, Below w.heap.size w W → NumsAt .i64 W pv (r v)) := Lib.hid (fun W hb => by rw [← hpv]; exact (HPR.out W hb).nums (j := v) (List.mem_range.2 hvN) (by have := HRL.out; omega))
      rw [hrl, hpv] at dp
      have hrlb := HRL.out.2
      have HA2 : Hid (A2 w wr fb gw gr G par hi v v [] semi up least way q c rw' qw cw res) := Lib.hid (HA.out.open (by rw [HND.out]; exact hvN))
      clear hp hrl hpv HA
      go_wp2_with fail
      go_loopw [38] (fun u wr => ∃ (j m : Nat) (up least way : List Int) (q : Nat → Option Addr) (c : Nat → Nat), j ≤ rl ∧ u = .int .i64 (j : Int) ∧ Hid (A2 w wr fb gw gr G par hi v m ((r v).take j) semi up least way q c rw' qw cw res)) (fun u _ => rl - (RowKit.intOf u).toNat)
      case atStart => exact ⟨0, v, _, _, _, _, _, Nat.zero_le _, rfl, by rw [List.take_zero]; exact HA2⟩
      case round =>
        clear HA2
        obtain ⟨j, m, up, least, way, q, c, hj, rfl, HA⟩ := hrel
        by_cases hjr : j < rl
        · have hn := HNV.out wr HA.out.mm.bl
          obtain ⟨b5, o5, eP, hl5, e5⟩ := hn.cells j (by rw [HRL.out.1]; exact hjr)
          have hmem : (r v).getD j 0 ∈ r v := getD_memI (by rw [HRL.out.1]; exact hjr)
          obtain ⟨p, ep, hep⟩ := (HR.out v (by rw [HND.out]; exact hvN) _).1 hmem
          have hpN := HTR.out.src _ _ hep
          have HEP := Lib.hid hep
          have HTK : Hid ((r v).take (j + 1) = (r v).take j ++ [(p : Int)]) := Lib.hid (by
            have hl : j < (r v).length := by rw [HRL.out.1]; exact hjr
            rw [List.take_add_one, List.getElem?_eq_getElem hl, ← ep, List.getD_eq_getElem?_getD, List.getElem?_eq_getElem hl]
            rfl)
          rw [ep] at e5
          have hsl : (semi.set v (m : Int)).length = N := by rw [List.length_set, HA.out.ab.sl]; exact HND.out
          obtain ⟨g1, q1, _, _, _, _, _⟩ := HA.out.mm.sf.row (j := 1) (by decide) (by show 0 < (semi.set v (m : Int)).length; rw [hsl]; omega)
          have HB : Hid (Calls Try.prog 35 #[.pointer (some ⟨fb, 0, none⟩), .int .i64 (p : Int)] wr.drew (BestP wr.drew w.heap.size fb G hi (sdv G) (v + 1) p (semi.set v (m : Int)) q c)) := Lib.hid (sbest_any HTR.out (HA.out.grown (drew_grown1 wr)).sb hpN (by rw [HND.out]; exact hN) (Nat.le_trans HA.out.mm.bl.size (Nat.le_refl _)))
          have d1 := HA.out.mm.sf.clE (j := 1) (by decide) (l := semi.set v (m : Int)) rfl q1 rfl hsl
          have s1 := (HA.out.mm.sf.atI (j := 1) (by decide) q1 (l := semi.set v (m : Int)) rfl (i := v) (by rw [hsl]; exact hvN)).1
          have ew : (semi.set v (m : Int)).getD v 0 = (m : Int) := by
            rw [getD_set_i, if_pos ⟨rfl, by rw [List.length_set] at hsl; omega⟩]
          rw [ew] at s1
          have lfb := HA.out.mm.sf.bl
          have HQ1 := Lib.hid q1
          have HSL := Lib.hid hsl
          rw [HND.out] at hpN
          subst eP
          clear hn hmem hep ep ew q1 hsl
          go_wp2_with fail
          have HSTEP : Hid (∀ w1 (b : Nat) (up' least' way' : List Int) (q' : Nat → Option Addr) (c' : Nat → Nat), b < G.N → Bst G hi (sdv G) (v + 1) p b → Sb w.heap.size w1 fb G hi (sdv G) (v + 1) up' (semi.set v (m : Int)) least' way' q' c' → Fk wr.drew w1 fb q q' → Kp q c q' c' →
              (w1.cell? ⟨fb, 1, none⟩ = some (.slice (some ⟨g1, 0, none⟩) N (c 1)) ∧ w1.cell? ⟨g1, v, none⟩ = some (.int .i64 (m : Int)) ∧ w1.frozen? ⟨g1, v, none⟩ = false ∧ (w1.setCell ⟨g1, v, none⟩ (.int .i64 (min (m : Int) ((semi.set v (m : Int)).getD b 0)))).cell? ⟨fb, 1, none⟩ = some (.slice (some ⟨g1, 0, none⟩) N (c 1)) ∧ w1.cell? ⟨g1, b, none⟩ = some (.int .i64 ((semi.set v (m : Int)).getD b 0))) ∧ b < N ∧
              Hid (∃ m' : Nat, A2 w (w1.setCell ⟨g1, v, none⟩ (.int .i64 (min (m : Int) ((semi.set v (m : Int)).getD b 0)))) fb gw gr G par hi v m' ((r v).take (j + 1)) semi up' least' way' q' c' rw' qw cw res)) := Lib.hid (fun w1 b up' least' way' q' c' hbN hbst hsb hfk hkp => by
            have hA := (HA.out.grown (drew_grown1 wr)).best hsb hfk
            have hq := (hkp 1 (by decide)).1.trans HQ1.out
            have hd := hsb.sr.clE (j := 1) (by decide) (l := semi.set v (m : Int)) rfl hq (hkp 1 (by decide)).2 HSL.out
            have hv := hsb.sr.atI (j := 1) (by decide) hq (l := semi.set v (m : Int)) rfl (i := v) (by rw [HSL.out]; exact hvN)
            have hb := hsb.sr.atI (j := 1) (by decide) hq (l := semi.set v (m : Int)) rfl (i := b) (by rw [HSL.out, ← HND.out]; exact hbN)
            have ew : (semi.set v (m : Int)).getD v 0 = (m : Int) := by
              rw [getD_set_i, if_pos ⟨rfl, by have := HSL.out; rw [List.length_set] at this; omega⟩]
            have hne : g1 ≠ fb := fun e => hsb.sr.ne 1 (by decide) (by rw [hq, e]; rfl)
            rw [ew] at hv
            have hst := hA.step HTR.out (by rw [HND.out]; exact hvN) HEP.out hbst hbN hq
            rw [← HTK.out] at hst
            exact ⟨⟨hd, hv.1, hv.2, (World.cell?_setCell_other _ _ _ _ (fun e => hne (congrArg Addr.block e))).trans hd, hb.1⟩, by rw [← HND.out]; exact hbN, Lib.hid hst⟩)
          generalize semi.set v (m : Int) = sl at *
          clear HA HQ1 HSL HTK HEP
          refine wp_region_held_drew (S := (fun W' => W'.cell? ⟨fb, 1, none⟩ = some (.slice (some ⟨g1, 0, none⟩) N (c 1)))) (by kernel_rfl) ?_ (fun hHeld => ?_)
          · (try dsimp only); first | exact d1 | exact d5 | exact d9
          refine held_take 0 (v := ?_) rfl (by kernel_rfl) (by kernel_rfl) (by kernel_rfl) (fun _ _ _ h => h) (Or.inl ⟨by rfl, ?_⟩) (by assumption) ?_
          rotate_left
          · (intro w hSw; (try dsimp only at hSw); go_simp; try with_reducible rfl)
          try simp only [Act.put, List.setIfInBounds_toArray, List.set_cons_zero, List.set_cons_succ]
          refine held_take 1 (v := ?_) rfl (by kernel_rfl) (by kernel_rfl) (by kernel_rfl) (fun _ _ _ h => h) (Or.inl ⟨by rfl, ?_⟩) (by assumption) ?_
          rotate_left
          · (intro w hSw; (try dsimp only at hSw); go_simp; try with_reducible rfl)
          try simp only [Act.put, List.setIfInBounds_toArray, List.set_cons_zero, List.set_cons_succ]
          refine held_take 2 (v := ?_) rfl (by kernel_rfl) (by kernel_rfl) (by kernel_rfl) (fun _ _ _ h => h) (Or.inl ⟨by rfl, ?_⟩) (by assumption) ?_
          rotate_left
          · (intro w hSw; (try dsimp only at hSw); go_simp; try with_reducible rfl)
          try simp only [Act.put, List.setIfInBounds_toArray, List.set_cons_zero, List.set_cons_succ]
          refine held_take 3 (v := ?_) rfl (by kernel_rfl) (by kernel_rfl) (by kernel_rfl) (fun _ _ _ h => h) (Or.inl ⟨by rfl, ?_⟩) (by assumption) ?_
          rotate_left
          · (intro w hSw; (try dsimp only at hSw); go_simp; try with_reducible rfl)
          try simp only [Act.put, List.setIfInBounds_toArray, List.set_cons_zero, List.set_cons_succ]
          refine held_take 4 (v := ?_) rfl (by kernel_rfl) (by kernel_rfl) (by kernel_rfl) (fun _ _ _ h => h) (Or.inl ⟨by rfl, ?_⟩) (by assumption) ?_
          rotate_left
          · (intro w hSw; (try dsimp only at hSw); go_simp; try with_reducible rfl)
          try simp only [Act.put, List.setIfInBounds_toArray, List.set_cons_zero, List.set_cons_succ]
          refine held_take 5 (v := ?_) rfl (by kernel_rfl) (by kernel_rfl) (by kernel_rfl) (fun _ _ _ h => h) (Or.inl ⟨by rfl, ?_⟩) (by assumption) ?_
          rotate_left
          · (intro w hSw; (try dsimp only at hSw); go_simp; try with_reducible rfl)
          try simp only [Act.put, List.setIfInBounds_toArray, List.set_cons_zero, List.set_cons_succ]
          refine held_take 6 (v := ?_) rfl (by kernel_rfl) (by kernel_rfl) (by kernel_rfl) (fun _ _ _ h => h) (Or.inl ⟨by rfl, ?_⟩) (by assumption) ?_
          rotate_left
          · (intro w hSw; (try dsimp only at hSw); go_simp; try with_reducible rfl)
          try simp only [Act.put, List.setIfInBounds_toArray, List.set_cons_zero, List.set_cons_succ]
          refine held_take 7 (v := ?_) rfl (by kernel_rfl) (by kernel_rfl) (by kernel_rfl) (fun _ _ _ h => h) (Or.inl ⟨by rfl, ?_⟩) (by assumption) ?_
          rotate_left
          · (intro w hSw; (try dsimp only at hSw); go_simp; try with_reducible rfl)
          try simp only [Act.put, List.setIfInBounds_toArray, List.set_cons_zero, List.set_cons_succ]
          refine held_take 8 (v := ?_) rfl (by kernel_rfl) (by kernel_rfl) (by kernel_rfl) (fun _ _ _ h => h) (Or.inl ⟨by rfl, ?_⟩) (by assumption) ?_
          rotate_left
          · (intro w hSw; (try dsimp only at hSw); go_simp; try with_reducible rfl)
          try simp only [Act.put, List.setIfInBounds_toArray, List.set_cons_zero, List.set_cons_succ]
          refine held_take 9 (v := ?_) rfl (by kernel_rfl) (by kernel_rfl) (by kernel_rfl) (fun _ _ _ h => h) (Or.inl ⟨by rfl, ?_⟩) (by assumption) ?_
          rotate_left
          · (intro w hSw; (try dsimp only at hSw); go_simp; try with_reducible rfl)
          try simp only [Act.put, List.setIfInBounds_toArray, List.set_cons_zero, List.set_cons_succ]
          refine held_take 10 (v := ?_) rfl (by kernel_rfl) (by kernel_rfl) (by kernel_rfl) (fun _ _ _ h => h) (Or.inl ⟨by rfl, ?_⟩) (by assumption) ?_
          rotate_left
          · (intro w hSw; (try dsimp only at hSw); go_simp; try with_reducible rfl)
          try simp only [Act.put, List.setIfInBounds_toArray, List.set_cons_zero, List.set_cons_succ]
          refine held_take 12 (v := ?_) rfl (by kernel_rfl) (by kernel_rfl) (by kernel_rfl) (fun _ _ _ h => h) (Or.inl ⟨by rfl, ?_⟩) (by assumption) ?_
          rotate_left
          · (intro w hSw; (try dsimp only at hSw); go_simp; try with_reducible rfl)
          try simp only [Act.put, List.setIfInBounds_toArray, List.set_cons_zero, List.set_cons_succ]
          refine held_take 13 (v := ?_) rfl (by kernel_rfl) (by kernel_rfl) (by kernel_rfl) (fun _ _ _ h => h) (Or.inl ⟨by rfl, ?_⟩) (by assumption) ?_
          rotate_left
          · (intro w hSw; (try dsimp only at hSw); go_simp; try with_reducible rfl)
          try simp only [Act.put, List.setIfInBounds_toArray, List.set_cons_zero, List.set_cons_succ]
          refine held_take 14 (v := ?_) rfl (by kernel_rfl) (by kernel_rfl) (by kernel_rfl) (fun _ _ _ h => h) (Or.inl ⟨by rfl, ?_⟩) (by assumption) ?_
          rotate_left
          · (intro w hSw; (try dsimp only at hSw); go_simp; try with_reducible rfl)
          try simp only [Act.put, List.setIfInBounds_toArray, List.set_cons_zero, List.set_cons_succ]
          refine held_take 15 (v := ?_) rfl (by kernel_rfl) (by kernel_rfl) (by kernel_rfl) (fun _ _ _ h => h) (Or.inl ⟨by rfl, ?_⟩) (by assumption) ?_
          rotate_left
          · (intro w hSw; (try dsimp only at hSw); go_simp; try with_reducible rfl)
          try simp only [Act.put, List.setIfInBounds_toArray, List.set_cons_zero, List.set_cons_succ]
          refine held_take 16 (v := ?_) rfl (by kernel_rfl) (by kernel_rfl) (by kernel_rfl) (fun _ _ _ h => h) (Or.inl ⟨by rfl, ?_⟩) (by assumption) ?_
          rotate_left
          · (intro w hSw; (try dsimp only at hSw); go_simp; try with_reducible rfl)
          try simp only [Act.put, List.setIfInBounds_toArray, List.set_cons_zero, List.set_cons_succ]
          refine held_take 17 (v := ?_) rfl (by kernel_rfl) (by kernel_rfl) (by kernel_rfl) (fun _ _ _ h => h) (Or.inl ⟨by rfl, ?_⟩) (by assumption) ?_
          rotate_left
          · (intro w hSw; (try dsimp only at hSw); go_simp; try with_reducible rfl)
          try simp only [Act.put, List.setIfInBounds_toArray, List.set_cons_zero, List.set_cons_succ]
          refine held_two 11 18 (by kernel_rfl) rfl rfl (fun K hK => ?_) (fun K hK => ?_)
          ·
            go_simp
            refine hK.out _ _ ?_ (fun hHeld => ?_)
            · (try dsimp only); first | exact d1 | exact d5 | exact d9
            clear hK K
            try simp only [Act.put, List.setIfInBounds_toArray, List.set_cons_zero, List.set_cons_succ]
            refine held_one 18 (by kernel_rfl) rfl (fun K hK => ?_)
            go_simp
            (go_at_call 35; (with_reducible refine HB.out.mono ?_); rintro e w1 ⟨b', up', least', way', q', c', rfl, hbN, hbst, hsb, hfk, hkp⟩; obtain ⟨⟨d5, s5, z5, d9, t5⟩, hbN', HA'⟩ := HSTEP.out w1 b' up' least' way' q' c' hbN hbst hsb hfk hkp; clear hbst hsb hfk hkp hbN)
            refine hK.out _ _ ?_ (fun hHeld => ?_)
            · (try dsimp only); first | exact d1 | exact d5 | exact d9
            clear hK K
            try simp only [Act.put, List.setIfInBounds_toArray, List.set_cons_zero, List.set_cons_succ]
            refine held_take 19 (v := ?_) rfl (by kernel_rfl) (by kernel_rfl) (by kernel_rfl) (fun _ _ _ h => h) (Or.inl ⟨by rfl, ?_⟩) (by assumption) ?_
            rotate_left
            · (intro w hSw; (try dsimp only at hSw); go_simp; try with_reducible rfl)
            try simp only [Act.put, List.setIfInBounds_toArray, List.set_cons_zero, List.set_cons_succ]
            refine held_one 20 (by kernel_rfl) rfl (fun K hK => ?_)
            go_simp
            refine hK.out _ _ ?_ (fun hHeld => ?_)
            · (try dsimp only); first | exact d1 | exact d5 | exact d9
            clear hK K
            try simp only [Act.put, List.setIfInBounds_toArray, List.set_cons_zero, List.set_cons_succ]
            refine held_take 21 (v := ?_) rfl (by kernel_rfl) (by kernel_rfl) (by kernel_rfl) (fun _ _ _ h => h) (Or.inl ⟨by rfl, ?_⟩) (by assumption) ?_
            rotate_left
            · (intro w hSw; (try dsimp only at hSw); go_simp; try with_reducible rfl)
            try simp only [Act.put, List.setIfInBounds_toArray, List.set_cons_zero, List.set_cons_succ]
            refine held_take 22 (v := ?_) rfl (by kernel_rfl) (by kernel_rfl) (by kernel_rfl) (fun _ _ _ h => h) (Or.inl ⟨by rfl, ?_⟩) (by assumption) ?_
            rotate_left
            · (intro w hSw; (try dsimp only at hSw); go_simp; try with_reducible rfl)
            try simp only [Act.put, List.setIfInBounds_toArray, List.set_cons_zero, List.set_cons_succ]
            refine held_one 23 (by kernel_rfl) rfl (fun K hK => ?_)
            go_simp
            refine hK.out _ _ ?_ (fun hHeld => ?_)
            · (try dsimp only); first | exact d1 | exact d5 | exact d9
            clear hK K
            try simp only [Act.put, List.setIfInBounds_toArray, List.set_cons_zero, List.set_cons_succ]
            refine wpAnyH_done (by kernel_rfl) ?_ _
            all_goals rw [List.getD_eq_getElem?_getD] at HA'
            all_goals go_wp2_with fail
            all_goals go_roundw
            all_goals first
              | (obtain ⟨m', hA'⟩ := HA'.out; exact ⟨j + 1, m', _, _, _, _, _, by omega, rfl, Lib.hid hA'⟩)
              | (simp [RowKit.intOf]; omega)
          ·
            go_simp
            (go_at_call 35; (with_reducible refine HB.out.mono ?_); rintro e w1 ⟨b', up', least', way', q', c', rfl, hbN, hbst, hsb, hfk, hkp⟩; obtain ⟨⟨d5, s5, z5, d9, t5⟩, hbN', HA'⟩ := HSTEP.out w1 b' up' least' way' q' c' hbN hbst hsb hfk hkp; clear hbst hsb hfk hkp hbN)
            refine hK.out _ _ ?_ (fun hHeld => ?_)
            · (try dsimp only); first | exact d1 | exact d5 | exact d9
            clear hK K
            try simp only [Act.put, List.setIfInBounds_toArray, List.set_cons_zero, List.set_cons_succ]
            refine held_take 19 (v := ?_) rfl (by kernel_rfl) (by kernel_rfl) (by kernel_rfl) (fun _ _ _ h => h) (Or.inl ⟨by rfl, ?_⟩) (by assumption) ?_
            rotate_left
            · (intro w hSw; (try dsimp only at hSw); go_simp; try with_reducible rfl)
            try simp only [Act.put, List.setIfInBounds_toArray, List.set_cons_zero, List.set_cons_succ]
            refine held_two 11 20 (by kernel_rfl) rfl rfl (fun K hK => ?_) (fun K hK => ?_)
            ·
              go_simp
              refine hK.out _ _ ?_ (fun hHeld => ?_)
              · (try dsimp only); first | exact d1 | exact d5 | exact d9
              clear hK K
              try simp only [Act.put, List.setIfInBounds_toArray, List.set_cons_zero, List.set_cons_succ]
              refine held_one 20 (by kernel_rfl) rfl (fun K hK => ?_)
              go_simp
              refine hK.out _ _ ?_ (fun hHeld => ?_)
              · (try dsimp only); first | exact d1 | exact d5 | exact d9
              clear hK K
              try simp only [Act.put, List.setIfInBounds_toArray, List.set_cons_zero, List.set_cons_succ]
              refine held_take 21 (v := ?_) rfl (by kernel_rfl) (by kernel_rfl) (by kernel_rfl) (fun _ _ _ h => h) (Or.inl ⟨by rfl, ?_⟩) (by assumption) ?_
              rotate_left
              · (intro w hSw; (try dsimp only at hSw); go_simp; try with_reducible rfl)
              try simp only [Act.put, List.setIfInBounds_toArray, List.set_cons_zero, List.set_cons_succ]
              refine held_take 22 (v := ?_) rfl (by kernel_rfl) (by kernel_rfl) (by kernel_rfl) (fun _ _ _ h => h) (Or.inl ⟨by rfl, ?_⟩) (by assumption) ?_
              rotate_left
              · (intro w hSw; (try dsimp only at hSw); go_simp; try with_reducible rfl)
              try simp only [Act.put, List.setIfInBounds_toArray, List.set_cons_zero, List.set_cons_succ]
              refine held_one 23 (by kernel_rfl) rfl (fun K hK => ?_)
              go_simp
              refine hK.out _ _ ?_ (fun hHeld => ?_)
              · (try dsimp only); first | exact d1 | exact d5 | exact d9
              clear hK K
              try simp only [Act.put, List.setIfInBounds_toArray, List.set_cons_zero, List.set_cons_succ]
              refine wpAnyH_done (by kernel_rfl) ?_ _
              all_goals rw [List.getD_eq_getElem?_getD] at HA'
              all_goals go_wp2_with fail
              all_goals go_roundw
              all_goals first
                | (obtain ⟨m', hA'⟩ := HA'.out; exact ⟨j + 1, m', _, _, _, _, _, by omega, rfl, Lib.hid hA'⟩)
                | (simp [RowKit.intOf]; omega)
            ·
              go_simp
              refine hK.out _ _ ?_ (fun hHeld => ?_)
              · (try dsimp only); first | exact d1 | exact d5 | exact d9
              clear hK K
              try simp only [Act.put, List.setIfInBounds_toArray, List.set_cons_zero, List.set_cons_succ]
              refine held_one 11 (by kernel_rfl) rfl (fun K hK => ?_)
              go_simp
              refine hK.out _ _ ?_ (fun hHeld => ?_)
              · (try dsimp only); first | exact d1 | exact d5 | exact d9
              clear hK K
              try simp only [Act.put, List.setIfInBounds_toArray, List.set_cons_zero, List.set_cons_succ]
              refine held_take 21 (v := ?_) rfl (by kernel_rfl) (by kernel_rfl) (by kernel_rfl) (fun _ _ _ h => h) (Or.inl ⟨by rfl, ?_⟩) (by assumption) ?_
              rotate_left
              · (intro w hSw; (try dsimp only at hSw); go_simp; try with_reducible rfl)
              try simp only [Act.put, List.setIfInBounds_toArray, List.set_cons_zero, List.set_cons_succ]
              refine held_take 22 (v := ?_) rfl (by kernel_rfl) (by kernel_rfl) (by kernel_rfl) (fun _ _ _ h => h) (Or.inl ⟨by rfl, ?_⟩) (by assumption) ?_
              rotate_left
              · (intro w hSw; (try dsimp only at hSw); go_simp; try with_reducible rfl)
              try simp only [Act.put, List.setIfInBounds_toArray, List.set_cons_zero, List.set_cons_succ]
              refine held_one 23 (by kernel_rfl) rfl (fun K hK => ?_)
              go_simp
              refine hK.out _ _ ?_ (fun hHeld => ?_)
              · (try dsimp only); first | exact d1 | exact d5 | exact d9
              clear hK K
              try simp only [Act.put, List.setIfInBounds_toArray, List.set_cons_zero, List.set_cons_succ]
              refine wpAnyH_done (by kernel_rfl) ?_ _
              all_goals rw [List.getD_eq_getElem?_getD] at HA'
              all_goals go_wp2_with fail
              all_goals go_roundw
              all_goals first
                | (obtain ⟨m', hA'⟩ := HA'.out; exact ⟨j + 1, m', _, _, _, _, _, by omega, rfl, Lib.hid hA'⟩)
                | (simp [RowKit.intOf]; omega)
        · obtain rfl : rl = j := by omega
          have hvG : v < G.N := by rw [HND.out]; exact hvN
          have hnum := HA.out.num HTR.out hv0 hvG (fun p hp => by
            rw [← HRL.out.1, List.take_length]
            exact (HR.out v hvG _).2 ⟨p, rfl, hp⟩)
          have HM := Lib.hid hnum.1
          have hmv := hnum.2
          have hsl : (semi.set v (m : Int)).length = N := by rw [List.length_set, HA.out.ab.sl]; exact HND.out
          have hul : up.length = N := by rw [HA.out.ab.fo.l1]; exact HND.out
          obtain ⟨g1, q1, _, _, hg1, _, _⟩ := HA.out.mm.sf.row (j := 1) (by decide) (by show 0 < (semi.set v (m : Int)).length; rw [hsl]; omega)
          obtain ⟨g0, q0, _, hgl0, hg0, _, _⟩ := HA.out.mm.sf.row (j := 0) (by decide) (by show 0 < up.length; rw [hul]; omega)
          have d1 := HA.out.mm.sf.clE (j := 1) (by decide) (l := semi.set v (m : Int)) rfl q1 rfl hsl
          have s1 := (HA.out.mm.sf.atI (j := 1) (by decide) q1 (l := semi.set v (m : Int)) rfl (i := v) (by rw [hsl]; exact hvN)).1
          have ew : (semi.set v (m : Int)).getD v 0 = (m : Int) := by
            rw [getD_set_i, if_pos ⟨rfl, by rw [List.length_set] at hsl; omega⟩]
          rw [ew] at s1
          have hmN : m < N := by omega
          have hmm : m ∈ List.range N := List.mem_range.2 hmN
          obtain ⟨wl, hwl⟩ : ∃ l, (rw' m).length = l := ⟨_, rfl⟩
          have dw := HA.out.mm.sw.clE (j := m) (by rw [HND.out]; exact hmm) (l := rw' m) rfl rfl rfl hwl
          have fw := HA.out.mm.sw.fz m
          have lgw := HA.out.mm.sw.bl
          have HWL : Hid (wl ≤ N) := Lib.hid (by have := HA.out.ln m; have := HND.out; omega)
          have HXE : Hid ((rw' m).length = wl ∧ (rw' m ++ [(v : Int)]).length = wl + 1 ∧ (rw' m).length + [(v : Int)].length ≤ 1099511627776) := Lib.hid ⟨hwl, by simp [hwl], by have := HWL.out; simp; omega⟩
          have HS9 := Lib.hid (fun (x : Int) (W : World) k (e : k = W.heap.size) => (e ▸ nums_new (k := .i64) W 3 [x] #[.int .i64 x] rfl (by simp) : NumsAt .i64 (W.alloc (.cells #[.int .i64 x] 3)) (some ⟨k, 0, none⟩) [x]).below ((Below.refl _ _).drew))
          have HMA : Hid (Mm w (wr.alloc (.cells #[.int .i64 (v : Int)] 3)).drew fb gw gr G.N (semi.set v (m : Int)) up least way q c rw' qw cw res) := Lib.hid (HA.out.mm.grown (al_drew_grown wr _))
          have HSL := Lib.hid (And.intro hsl ew)
          have HQQ := Lib.hid (And.intro q0 q1)
          have S1 : wr.cell? ⟨fb, 1, none⟩ = some (.slice (some ⟨g1, 0, none⟩) N (c 1)) ∧ wr.cell? ⟨g1, v, none⟩ = some (.int .i64 (m : Int)) := ⟨d1, s1⟩
          have HCEL : Hid (∀ W rwx qwx cwx, Mm w W fb gw gr G.N (semi.set v (m : Int)) up least way q c rwx qwx cwx res → W.cell? ⟨fb, 1, none⟩ = some (.slice (some ⟨g1, 0, none⟩) N (c 1)) ∧ W.cell? ⟨g1, v, none⟩ = some (.int .i64 (m : Int))) := Lib.hid (fun W rwx qwx cwx h =>
            ⟨h.sf.clE (j := 1) (by decide) (l := semi.set v (m : Int)) rfl HQQ.out.2 rfl HSL.out.1, ((h.sf.atI (j := 1) (by decide) HQQ.out.2 (l := semi.set v (m : Int)) rfl (i := v) (by rw [HSL.out.1]; exact hvN)).1).trans (by rw [HSL.out.2])⟩)
          have SA := HCEL.out _ _ _ _ HMA.out
          have HMR : Hid (m ∈ List.range G.N) := Lib.hid (by rw [HND.out]; exact hmm)
          have hgwb : gw ≠ fb ∧ gw ≠ g1 := ⟨HA.out.mm.n1.symm, fun e => (HA.out.mm.xf 1 (by decide) g1 (by rw [q1]; rfl)).1 e.symm⟩
          clear hnum hsl hul q0 q1 ew hwl hmm d1 s1
          go_wp2_with fail
          have HAP : Hid (∀ (w8 : World) (q8 : Option Addr) (c8 : Nat), w8.ownsRow w.heap.size 3 1 (.slice q8 (wl + 1) c8) (wl + 1) (intsV (rw' m ++ [(v : Int)])) → (wr.alloc (.cells #[.int .i64 (v : Int)] 3)).drew.grownBy w8 (Value.slice (qw m) wl (cw m)).ownBlock → ((Value.slice q8 (wl + 1) c8).ownBlock = (Value.slice (qw m) wl (cw m)).ownBlock ∨ (Value.slice q8 (wl + 1) c8).ownBlock = some (wr.alloc (.cells #[.int .i64 (v : Int)] 3)).drew.heap.size) →
              (w8.cell? ⟨fb, 1, none⟩ = some (.slice (some ⟨g1, 0, none⟩) N (c 1)) ∧ w8.cell? ⟨g1, v, none⟩ = some (.int .i64 (m : Int))) ∧ ((w8.setCell ⟨gw, m, none⟩ (.slice q8 (wl + 1) c8)).cell? ⟨fb, 1, none⟩ = some (.slice (some ⟨g1, 0, none⟩) N (c 1)) ∧ (w8.setCell ⟨gw, m, none⟩ (.slice q8 (wl + 1) c8)).cell? ⟨g1, v, none⟩ = some (.int .i64 (m : Int))) ∧
              w8.cell? ⟨gw, m, none⟩ = some (.slice (qw m) wl (cw m)) ∧ w8.frozen? ⟨gw, m, none⟩ = false ∧ Hid (Mm w (w8.setCell ⟨gw, m, none⟩ (.slice q8 (wl + 1) c8)) fb gw gr G.N (semi.set v (m : Int)) up least way q c (up1 rw' m (rw' m ++ [(v : Int)])) (up1 qw m q8) (up1 cw m c8) res)) := Lib.hid (fun w8 q8 c8 ho hg hb => by
            have hmid := HMA.out.sw.mid HMR.out hg
            rw [HXE.out.1] at hmid
            have hx := HMA.out.app HMR.out (by rw [HXE.out.2.1]; exact ho) HXE.out.2.1.symm hg hb
            have h9 := HCEL.out _ _ _ _ hx
            have n1 := World.cell?_setCell_other w8 ⟨gw, m, none⟩ ⟨fb, 1, none⟩ (.slice q8 (wl + 1) c8) (fun e => hgwb.1 (congrArg Addr.block e))
            have n2 := World.cell?_setCell_other w8 ⟨gw, m, none⟩ ⟨g1, v, none⟩ (.slice q8 (wl + 1) c8) (fun e => hgwb.2 (congrArg Addr.block e))
            exact ⟨⟨n1.symm.trans h9.1, n2.symm.trans h9.2⟩, h9, hmid.1, hmid.2.1, Lib.hid hx⟩)
          have HOW : Hid ((wr.alloc (.cells #[.int .i64 (v : Int)] 3)).drew.ownsRow w.heap.size 3 1 (.slice (qw m) wl (cw m)) (rw' m).length (intsV (rw' m))) := Lib.hid (HMA.out.sw.ownE (j := m) HMR.out rfl rfl rfl HXE.out.1.symm)
          have HBW : Hid (w.heap.size ≤ (wr.alloc (.cells #[.int .i64 (v : Int)] 3)).drew.heap.size) := Lib.hid HMA.out.bl.size
          obtain ⟨rm, hrm⟩ : ∃ l, rw' m = l := ⟨_, rfl⟩
          rw [hrm] at HXE HAP HOW
          have HRM := Lib.hid hrm
          clear hrm
          go_cut [8] (fun s8 wx => s8 = .int .i64 (v : Int) ∧ Hid (∃ (q8 : Option Addr) (c8 : Nat), Mm w wx fb gw gr G.N (semi.set v (m : Int)) up least way q c (up1 rw' m (rw' m ++ [(v : Int)])) (up1 qw m q8) (up1 cw m c8) res))
          case first =>
            refine wp_region_held_drew (S := (fun W' => W'.cell? ⟨fb, 1, none⟩ = some (.slice (some ⟨g1, 0, none⟩) N (c 1)) ∧ W'.cell? ⟨g1, v, none⟩ = some (.int .i64 (m : Int)))) (by kernel_rfl) ?_ (fun hHeld => ?_)
            · (try dsimp only); first | exact S1 | exact SA | exact S8 | exact S9
            refine held_take 0 (v := ?_) rfl (by kernel_rfl) (by kernel_rfl) (by kernel_rfl) (fun _ _ _ h => h) (Or.inl ⟨by rfl, ?_⟩) (by assumption) ?_
            rotate_left
            · (intro w hSw; (try dsimp only at hSw); go_simp; try with_reducible rfl)
            try simp only [Act.put, List.setIfInBounds_toArray, List.set_cons_zero, List.set_cons_succ]
            refine held_take 1 (v := ?_) rfl (by kernel_rfl) (by kernel_rfl) (by kernel_rfl) (fun _ _ _ h => h) (Or.inl ⟨by rfl, ?_⟩) (by assumption) ?_
            rotate_left
            · (intro w hSw; (try dsimp only at hSw); go_simp; try with_reducible rfl)
            try simp only [Act.put, List.setIfInBounds_toArray, List.set_cons_zero, List.set_cons_succ]
            refine held_take 2 (v := ?_) rfl (by kernel_rfl) (by kernel_rfl) (by kernel_rfl) (fun _ _ _ h => h) (Or.inl ⟨by rfl, ?_⟩) (by assumption) ?_
            rotate_left
            · (intro w hSw; (try dsimp only at hSw); go_simp; try with_reducible rfl)
            try simp only [Act.put, List.setIfInBounds_toArray, List.set_cons_zero, List.set_cons_succ]
            refine held_take 3 (v := ?_) rfl (by kernel_rfl) (by kernel_rfl) (by kernel_rfl) (fun _ _ _ h => h) (Or.inl ⟨by rfl, ?_⟩) (by assumption) ?_
            rotate_left
            · (intro w hSw; (try dsimp only at hSw); go_simp; try with_reducible rfl)
            try simp only [Act.put, List.setIfInBounds_toArray, List.set_cons_zero, List.set_cons_succ]
            refine held_take 4 (v := ?_) rfl (by kernel_rfl) (by kernel_rfl) (by kernel_rfl) (fun _ _ _ h => h) (Or.inl ⟨by rfl, ?_⟩) (by assumption) ?_
            rotate_left
            · (intro w hSw; (try dsimp only at hSw); go_simp; try with_reducible rfl)
            try simp only [Act.put, List.setIfInBounds_toArray, List.set_cons_zero, List.set_cons_succ]
            refine held_take 5 (v := ?_) rfl (by kernel_rfl) (by kernel_rfl) (by kernel_rfl) (fun _ _ _ h => h) (Or.inl ⟨by rfl, ?_⟩) (by assumption) ?_
            rotate_left
            · (intro w hSw; (try dsimp only at hSw); go_simp; try with_reducible rfl)
            try simp only [Act.put, List.setIfInBounds_toArray, List.set_cons_zero, List.set_cons_succ]
            refine held_take 6 (v := ?_) rfl (by kernel_rfl) (by kernel_rfl) (by kernel_rfl) (fun _ _ _ h => h) (Or.inl ⟨by rfl, ?_⟩) (by assumption) ?_
            rotate_left
            · (intro w hSw; (try dsimp only at hSw); go_simp; try with_reducible rfl)
            try simp only [Act.put, List.setIfInBounds_toArray, List.set_cons_zero, List.set_cons_succ]
            refine held_take 7 (v := ?_) rfl (by kernel_rfl) (by kernel_rfl) (by kernel_rfl) (fun _ _ _ h => h) (Or.inl ⟨by rfl, ?_⟩) (by assumption) ?_
            rotate_left
            · (intro w hSw; (try dsimp only at hSw); go_simp; try with_reducible rfl)
            try simp only [Act.put, List.setIfInBounds_toArray, List.set_cons_zero, List.set_cons_succ]
            refine held_take 8 (v := ?_) rfl (by kernel_rfl) (by kernel_rfl) (by kernel_rfl) (fun _ _ _ h => h) (Or.inl ⟨by rfl, ?_⟩) (by assumption) ?_
            rotate_left
            · (intro w hSw; (try dsimp only at hSw); go_simp; try with_reducible rfl)
            try simp only [Act.put, List.setIfInBounds_toArray, List.set_cons_zero, List.set_cons_succ]
            refine held_take 9 (v := ?_) rfl (by kernel_rfl) (by kernel_rfl) (by kernel_rfl) (fun _ _ _ h => h) (Or.inl ⟨by rfl, ?_⟩) (by assumption) ?_
            rotate_left
            · (intro w hSw; (try dsimp only at hSw); go_simp; try with_reducible rfl)
            try simp only [Act.put, List.setIfInBounds_toArray, List.set_cons_zero, List.set_cons_succ]
            refine held_take 10 (v := ?_) rfl (by kernel_rfl) (by kernel_rfl) (by kernel_rfl) (fun _ _ _ h => h) (Or.inl ⟨by rfl, ?_⟩) (by assumption) ?_
            rotate_left
            · (intro w hSw; (try dsimp only at hSw); go_simp; try with_reducible rfl)
            try simp only [Act.put, List.setIfInBounds_toArray, List.set_cons_zero, List.set_cons_succ]
            refine held_take 11 (v := ?_) rfl (by kernel_rfl) (by kernel_rfl) (by kernel_rfl) (fun _ _ _ h => h) (Or.inl ⟨by rfl, ?_⟩) (by assumption) ?_
            rotate_left
            · (intro w hSw; (try dsimp only at hSw); go_simp; try with_reducible rfl)
            try simp only [Act.put, List.setIfInBounds_toArray, List.set_cons_zero, List.set_cons_succ]
            refine held_take 12 (v := ?_) rfl (by kernel_rfl) (by kernel_rfl) (by kernel_rfl) (fun _ _ _ h => h) (Or.inl ⟨by rfl, ?_⟩) (by assumption) ?_
            rotate_left
            · (intro w hSw; (try dsimp only at hSw); go_simp; try with_reducible rfl)
            try simp only [Act.put, List.setIfInBounds_toArray, List.set_cons_zero, List.set_cons_succ]
            refine held_take 13 (v := ?_) rfl (by kernel_rfl) (by kernel_rfl) (by kernel_rfl) (fun _ _ _ h => h) (Or.inl ⟨by rfl, ?_⟩) (by assumption) ?_
            rotate_left
            · (intro w hSw; (try dsimp only at hSw); go_simp; try with_reducible rfl)
            try simp only [Act.put, List.setIfInBounds_toArray, List.set_cons_zero, List.set_cons_succ]
            refine held_take 14 (v := ?_) rfl (by kernel_rfl) (by kernel_rfl) (by kernel_rfl) (fun _ _ _ h => h) (Or.inl ⟨by rfl, ?_⟩) (by assumption) ?_
            rotate_left
            · (intro w hSw; (try dsimp only at hSw); go_simp; try with_reducible rfl)
            try simp only [Act.put, List.setIfInBounds_toArray, List.set_cons_zero, List.set_cons_succ]
            refine held_take 15 (v := ?_) rfl (by kernel_rfl) (by kernel_rfl) (by kernel_rfl) (fun _ _ _ h => h) (Or.inl ⟨by rfl, ?_⟩) (by assumption) ?_
            rotate_left
            · (intro w hSw; (try dsimp only at hSw); go_simp; try with_reducible rfl)
            try simp only [Act.put, List.setIfInBounds_toArray, List.set_cons_zero, List.set_cons_succ]
            refine held_take 16 (v := ?_) rfl (by kernel_rfl) (by kernel_rfl) (by kernel_rfl) (fun _ _ _ h => h) (Or.inl ⟨by rfl, ?_⟩) (by assumption) ?_
            rotate_left
            · (intro w hSw; (try dsimp only at hSw); go_simp; try with_reducible rfl)
            try simp only [Act.put, List.setIfInBounds_toArray, List.set_cons_zero, List.set_cons_succ]
            refine held_take 18 (v := ?_) rfl (by kernel_rfl) (by kernel_rfl) (by kernel_rfl) (fun _ _ _ h => h) (Or.inl ⟨by rfl, ?_⟩) (by assumption) ?_
            rotate_left
            · (intro w hSw; (try dsimp only at hSw); go_simp; try with_reducible rfl)
            try simp only [Act.put, List.setIfInBounds_toArray, List.set_cons_zero, List.set_cons_succ]
            refine held_two 17 19 (by kernel_rfl) rfl rfl (fun K hK => ?_) (fun K hK => ?_)
            ·
              go_simp
              refine hK.out _ _ ?_ (fun hHeld => ?_)
              · (try dsimp only); first | exact S1 | exact SA | exact S8 | exact S9
              clear hK K
              try simp only [Act.put, List.setIfInBounds_toArray, List.set_cons_zero, List.set_cons_succ]
              refine held_one 19 (by kernel_rfl) rfl (fun K hK => ?_)
              go_simp
              refine hK.out _ _ ?_ (fun hHeld => ?_)
              · (try dsimp only); first | exact S1 | exact SA | exact S8 | exact S9
              clear hK K
              try simp only [Act.put, List.setIfInBounds_toArray, List.set_cons_zero, List.set_cons_succ]
              refine held_one 20 (by kernel_rfl) rfl (fun K hK => ?_)
              (refine step_app_ints rfl (.tmp 83) (.tmp 85) rfl rfl w.heap.size _ [(v : Int)] rm (.slice (qw m) wl (cw m)) 1 1 rfl (by simp [Act.eval]) (by simp [Act.eval]; rfl) HOW.out (HS9.out _ _ _ (by simp)) HBW.out HXE.out.2.2 ?_; intro v8 w8 ho8 hg8 hb8; rw [HXE.out.2.1] at ho8; obtain ⟨q8, c8, rfl⟩ := own_form ho8; obtain ⟨S8, S9, e8, fz8, HMX⟩ := HAP.out w8 q8 c8 ho8 hg8 hb8; clear ho8 hg8 hb8)
              refine hK.out _ _ ?_ (fun hHeld => ?_)
              · (try dsimp only); first | exact S1 | exact SA | exact S8 | exact S9
              clear hK K
              try simp only [Act.put, List.setIfInBounds_toArray, List.set_cons_zero, List.set_cons_succ]
              refine held_take 21 (v := ?_) rfl (by kernel_rfl) (by kernel_rfl) (by kernel_rfl) (fun _ _ _ h => h) (Or.inl ⟨by rfl, ?_⟩) (by assumption) ?_
              rotate_left
              · (intro w hSw; (try dsimp only at hSw); go_simp; try with_reducible rfl)
              try simp only [Act.put, List.setIfInBounds_toArray, List.set_cons_zero, List.set_cons_succ]
              refine held_one 22 (by kernel_rfl) rfl (fun K hK => ?_)
              go_simp
              refine hK.out _ _ ?_ (fun hHeld => ?_)
              · (try dsimp only); first | exact S1 | exact SA | exact S8 | exact S9
              clear hK K
              try simp only [Act.put, List.setIfInBounds_toArray, List.set_cons_zero, List.set_cons_succ]
              refine wpAnyH_done (by kernel_rfl) ?_ _
              all_goals (go_wp2_with fail; go_meet)
              all_goals exact ⟨rfl, Lib.hid ⟨q8, c8, by rw [HRM.out]; exact HMX.out⟩⟩
            ·
              go_simp
              refine hK.out _ _ ?_ (fun hHeld => ?_)
              · (try dsimp only); first | exact S1 | exact SA | exact S8 | exact S9
              clear hK K
              try simp only [Act.put, List.setIfInBounds_toArray, List.set_cons_zero, List.set_cons_succ]
              refine held_one 17 (by kernel_rfl) rfl (fun K hK => ?_)
              go_simp
              refine hK.out _ _ ?_ (fun hHeld => ?_)
              · (try dsimp only); first | exact S1 | exact SA | exact S8 | exact S9
              clear hK K
              try simp only [Act.put, List.setIfInBounds_toArray, List.set_cons_zero, List.set_cons_succ]
              refine held_one 20 (by kernel_rfl) rfl (fun K hK => ?_)
              (refine step_app_ints rfl (.tmp 83) (.tmp 85) rfl rfl w.heap.size _ [(v : Int)] rm (.slice (qw m) wl (cw m)) 1 1 rfl (by simp [Act.eval]) (by simp [Act.eval]; rfl) HOW.out (HS9.out _ _ _ (by simp)) HBW.out HXE.out.2.2 ?_; intro v8 w8 ho8 hg8 hb8; rw [HXE.out.2.1] at ho8; obtain ⟨q8, c8, rfl⟩ := own_form ho8; obtain ⟨S8, S9, e8, fz8, HMX⟩ := HAP.out w8 q8 c8 ho8 hg8 hb8; clear ho8 hg8 hb8)
              refine hK.out _ _ ?_ (fun hHeld => ?_)
              · (try dsimp only); first | exact S1 | exact SA | exact S8 | exact S9
              clear hK K
              try simp only [Act.put, List.setIfInBounds_toArray, List.set_cons_zero, List.set_cons_succ]
              refine held_take 21 (v := ?_) rfl (by kernel_rfl) (by kernel_rfl) (by kernel_rfl) (fun _ _ _ h => h) (Or.inl ⟨by rfl, ?_⟩) (by assumption) ?_
              rotate_left
              · (intro w hSw; (try dsimp only at hSw); go_simp; try with_reducible rfl)
              try simp only [Act.put, List.setIfInBounds_toArray, List.set_cons_zero, List.set_cons_succ]
              refine held_one 22 (by kernel_rfl) rfl (fun K hK => ?_)
              go_simp
              refine hK.out _ _ ?_ (fun hHeld => ?_)
              · (try dsimp only); first | exact S1 | exact SA | exact S8 | exact S9
              clear hK K
              try simp only [Act.put, List.setIfInBounds_toArray, List.set_cons_zero, List.set_cons_succ]
              refine wpAnyH_done (by kernel_rfl) ?_ _
              all_goals (go_wp2_with fail; go_meet)
              all_goals exact ⟨rfl, Lib.hid ⟨q8, c8, by rw [HRM.out]; exact HMX.out⟩⟩
          case rest =>
            obtain ⟨rfl, HMX⟩ := hcut
            obtain ⟨q8, c8, hmx⟩ := HMX.out
            obtain ⟨pa, hpa⟩ : ∃ x, par v = x := ⟨_, rfl⟩
            have hpav := (HTR.out.up v hv0 (by rw [HND.out]; exact hvN)).1
            rw [hpa] at hpav
            have hpN : pa < N := by omega
            have HPA := Lib.hid hpa
            have hfr := HFR.out wc hmx.bl
            have df := hfr.1
            obtain ⟨b6, o6, eq6, hl6, e6⟩ := hfr.2.cells v (by rw [HFL.out, HND.out]; exact hvN)
            rw [HFV.out v hv0 (by rw [HND.out]; exact hvN), hpa] at e6
            have lb := World.block_lt_of_cell? wc ⟨b, 2, none⟩ df
            have hul : up.length = N := by rw [HA.out.ab.fo.l1]; exact HND.out
            have d0 := hmx.sf.clE (j := 0) (by decide) (l := up) rfl HQQ.out.1 rfl hul
            have t0 := hmx.sf.atI (j := 0) (by decide) HQQ.out.1 (l := up) rfl (i := v) (by rw [hul]; exact hvN)
            have t01 := t0.1
            have t02 := t0.2
            obtain ⟨sl, hsl⟩ : ∃ l, semi.set v (m : Int) = l := ⟨_, rfl⟩
            obtain ⟨rwx, hrx⟩ : ∃ l, up1 rw' m (rw' m ++ [(v : Int)]) = l := ⟨_, rfl⟩
            obtain ⟨qwx, hqx⟩ : ∃ l, up1 qw m q8 = l := ⟨_, rfl⟩
            obtain ⟨cwx, hcx⟩ : ∃ l, up1 cw m c8 = l := ⟨_, rfl⟩
            have H3 : Hid (A3 w (wc.setCell ⟨g0, v, none⟩ (.int .i64 (pa : Int))) fb gw gr G par hi v [] sl (up.set v (pa : Int)) least way q c rwx qwx cwx res) := Lib.hid (by
              have hF := hmx.setF (j := 0) (by decide) HQQ.out.1 v (pa : Int) (fr0 _ _ _ _ _)
              rw [← hsl, ← hrx, ← hqx, ← hcx]
              have := A3.of HTR.out HA.out hv0 (by rw [HND.out]; exact hvN) HM.out (by rw [hpa]; exact hF)
              rw [hpa] at this
              exact this)
            obtain ⟨W5, hW5⟩ : ∃ W5, wc.setCell ⟨g0, v, none⟩ (.int .i64 (pa : Int)) = W5 := ⟨_, rfl⟩
            obtain ⟨row, hrow⟩ : ∃ l, rwx pa = l := ⟨_, rfl⟩
            obtain ⟨pw, hpw⟩ : ∃ l, qwx pa = l := ⟨_, rfl⟩
            obtain ⟨cp, hcp⟩ : ∃ l, cwx pa = l := ⟨_, rfl⟩
            obtain ⟨wl2, hwl2⟩ : ∃ l, row.length = l := ⟨_, rfl⟩
            have HW2 : Hid (row.length = wl2 ∧ wl2 ≤ N) := Lib.hid ⟨hwl2, by rw [← hwl2, ← hrow]; have := H3.out.ln pa; have := HND.out; omega⟩
            have HRW : Hid (rwx pa = row) := Lib.hid hrow
            have HDW : Hid (∀ W done up least way q c res, A3 w W fb gw gr G par hi v done sl up least way q c rwx qwx cwx res → W.cell? ⟨gw, pa, none⟩ = some (.slice pw wl2 cp) ∧ W.frozen? ⟨gw, pa, none⟩ = false ∧ NumsAt .i64 W pw row) := Lib.hid (fun W done up least way q c res h => by
              have hm : pa ∈ List.range G.N := List.mem_range.2 (by rw [HND.out]; exact hpN)
              refine ⟨h.mm.sw.clE (j := pa) hm (l := row) hrow hpw hcp hwl2, h.mm.sw.fz pa, ?_⟩
              have := h.mm.sw.nums (j := pa) hm (by rw [hrow, HW2.out.1]; have := HW2.out; omega)
              rw [hrow, hpw] at this
              exact this)
            have hwl2N := HW2.out.2
            clear hmx hfr t0 hrx hqx hcx hrow hpw hcp hwl2 HMX HA hsl HAP HOW HBW HMA HCEL HS9 HXE HRM S1 SA dw fw hul
            subst eq6
            rw [hW5] at H3
            have dwf := (HDW.out _ _ _ _ _ _ _ _ H3.out).1
            go_wp2_with fail
            clear dwf hW5 df e6 d0 t01 t02
            go_loopw [107] (fun u wr => ∃ (j : Nat) (up least way : List Int) (q : Nat → Option Addr) (c : Nat → Nat) (res : List Int), j ≤ wl2 ∧ u = .int .i64 (j : Int) ∧ Hid (A3 w wr fb gw gr G par hi v (row.take j) sl up least way q c rwx qwx cwx res)) (fun u _ => wl2 - (RowKit.intOf u).toNat)
            case atStart => exact ⟨0, _, _, _, _, _, _, Nat.zero_le _, rfl, by rw [List.take_zero]; exact H3⟩
            case round =>
              clear H3
              obtain ⟨j, up, least, way, q, c, res, hj, rfl, H3⟩ := hrel
              have hvG : v < G.N := by rw [HND.out]; exact hvN
              have hdw := HDW.out _ _ _ _ _ _ _ _ H3.out
              by_cases hjw : j < wl2
              · obtain ⟨b7, o7, eq7, hl7, e7⟩ := hdw.2.2.cells j (by rw [HW2.out.1]; exact hjw)
                have hmem : row.getD j 0 ∈ rwx pa := by rw [HRW.out]; exact getD_memI (by rw [HW2.out.1]; exact hjw)
                obtain ⟨n, en, hvn, hnG⟩ := H3.out.wait (by rw [HND.out]; exact hpN) hmem
                rw [en] at e7 hmem
                have HTK : Hid (row.take (j + 1) = row.take j ++ [(n : Int)]) := Lib.hid (by
                  have hl : j < row.length := by rw [HW2.out.1]; exact hjw
                  rw [List.take_add_one, List.getElem?_eq_getElem hl, ← en, List.getD_eq_getElem?_getD, List.getElem?_eq_getElem hl]
                  rfl)
                have hnN : n < N := by rw [← HND.out]; exact hnG
                have hgr := H3.out.mm.so.cellAt n (by rw [HND.out]; omega)
                have hrl : n < res.length := by rw [H3.out.aw.rl]; exact hnG
                rw [intsV_get hrl] at hgr
                have zgr := H3.out.mm.so.frozenAt n
                have HB : Hid (Calls Try.prog 35 #[.pointer (some ⟨fb, 0, none⟩), .int .i64 (n : Int)] (wr.setCell ⟨gr, n, none⟩ (.int .i64 (pa : Int))) (BestP (wr.setCell ⟨gr, n, none⟩ (.int .i64 (pa : Int))) w.heap.size fb G hi (sdv G) v n sl q c)) := Lib.hid (sbest_any HTR.out (H3.out.sb n (pa : Int)) hnG (by rw [HND.out]; exact hN) (H3.out.mm.setR n (pa : Int)).bl.size)
                have HTL : Hid (∀ w1 (b : Nat) (up' least' way' : List Int) (q' : Nat → Option Addr) (c' : Nat → Nat), b < G.N → Bst G hi (sdv G) v n b → Sb w.heap.size w1 fb G hi (sdv G) v up' sl least' way' q' c' → Fk (wr.setCell ⟨gr, n, none⟩ (.int .i64 (pa : Int))) w1 fb q q' →
                    ∃ (y1 sb : Nat) (x1 : Nat) (z : Int), (w1.cell? ⟨fb, 1, none⟩ = some (.slice (some ⟨y1, 0, none⟩) N x1) ∧ w1.cell? ⟨y1, b, none⟩ = some (.int .i64 (sb : Int)) ∧ w1.cell? ⟨gr, n, none⟩ = some (.int .i64 z) ∧ w1.frozen? ⟨gr, n, none⟩ = false) ∧ b < N ∧
                    Hid ((sb < pa → A3 w (w1.setCell ⟨gr, n, none⟩ (.int .i64 (b : Int))) fb gw gr G par hi v (row.take (j + 1)) sl up' least' way' q' c' rwx qwx cwx ((res.set n (pa : Int)).set n (b : Int))) ∧ (¬ sb < pa → A3 w w1 fb gw gr G par hi v (row.take (j + 1)) sl up' least' way' q' c' rwx qwx cwx (res.set n (pa : Int))))) := Lib.hid (fun w1 b up' least' way' q' c' hbN hbst hsb hfk => by
                  obtain ⟨y0, y1, y2, _, _, _, hc, _⟩ := hsb.cells (by omega)
                  have hmR := (H3.out.mm.setR n (pa : Int)).best hfk hsb.sr
                  have hz := hmR.so.cellAt n (by rw [HND.out]; omega)
                  rw [intsV_get (by rw [List.length_set]; exact hrl)] at hz
                  have hs := hc.k1 b hbN
                  rw [H3.out.aw.shi b (hbst.hi hvn).1 hbN] at hs
                  have hd := hc.d1
                  rw [HND.out] at hd
                  have htl := H3.out.tell HTR.out hv0 hvG (n := n) (b := b) (by rw [HPA.out]; exact hmem) hsb (by rw [HPA.out]; exact hfk) hbst
                  rw [← HTK.out, HPA.out] at htl
                  exact ⟨y1, sdv G b, c' 1, _, ⟨hd, hs, hz, hmR.so.frozenAt n⟩, by rw [← HND.out]; exact hbN, Lib.hid htl⟩)
                clear hdw hmem en hrl hnG H3 HTK
                subst eq7
                go_wp2_with (first
                  | (go_at_call 35; (with_reducible refine HB.out.mono ?_); rintro e w1 ⟨b', up', least', way', q', c', rfl, hbN, hbst, hsb, hfk, _⟩; obtain ⟨y1, sb, x1, z, ⟨e1, e2, e3, e4⟩, hbN', HA'⟩ := HTL.out w1 b' up' least' way' q' c' hbN hbst hsb hfk; clear hbst hsb hfk hbN))
                all_goals go_roundw
                all_goals first
                  | exact ⟨j + 1, _, _, _, _, _, _, by omega, rfl, Lib.hid (HA'.out.1 (by omega))⟩
                  | exact ⟨j + 1, _, _, _, _, _, _, by omega, rfl, Lib.hid (HA'.out.2 (by omega))⟩
                  | (simp [RowKit.intOf]; omega)
              · obtain rfl : wl2 = j := by omega
                have dwf := hdw.1
                have zwf := hdw.2.1
                have HCL : Hid (A1 w (wr.setCell ⟨gw, pa, none⟩ (.slice none 0 0)) fb gw gr G par hi v sl up least way q c (up1 rwx pa []) (up1 qwx pa none) (up1 cwx pa 0) res) := Lib.hid (by
                  have h := H3.out
                  rw [← HW2.out.1, List.take_length, ← HRW.out, ← HPA.out] at h
                  have := A3.close HTR.out h hv0 hvG
                  rw [HPA.out] at this
                  exact this)
                clear hdw H3
                go_wp2_with fail
                go_roundw
                case rel => exact ⟨v, _, _, _, _, _, _, _, _, _, _, _, rfl, Lib.hid ⟨by omega, by omega, fun e => by omega⟩, HCL⟩
                case measure => (simp [RowKit.intOf]) <;> omega
    · have hx0 : x ≤ 0 := by have := HX.out.1; omega
      have HLP0 : Hid (Lp G hi 0 res) := Lib.hid (HA.out.ab.last HTR.out (by omega) (fun e => by rw [HND.out]; exact HX.out.2.2 e))
      have HMM0 : Hid (Mm w wr fb gw gr G.N semi up least way q c rw' qw cw res) := Lib.hid HA.out.mm
      have HSS : Hid (∀ n, 0 < n → n < G.N → semi.getD n 0 = (sdv G n : Int)) := Lib.hid (fun n h1 h2 => HA.out.ab.shi n (by omega) h2)
      have HSL : Hid (semi.length = N) := Lib.hid (HA.out.ab.sl.trans HND.out)
      clear HA HX
      go_wp2_with fail
      go_loopw [137] (fun u wr => ∃ (k : Nat) (res : List Int), k ≤ N ∧ u = .int .i64 (k : Int) ∧ Hid (Lp G hi k res) ∧ Hid (Mm w wr fb gw gr G.N semi up least way q c rw' qw cw res)) (fun u _ => N - (RowKit.intOf u).toNat)
      case atStart => exact ⟨0, _, Nat.zero_le _, rfl, HLP0, HMM0⟩
      case round =>
        clear HLP0 HMM0
        obtain ⟨k, res, hk, rfl, HLP, HMM⟩ := hrel
        by_cases hkN : k < N
        · have hkG : k < G.N := by rw [HND.out]; exact hkN
          have hrl : res.length = N := by rw [HLP.out.rl]; exact HND.out
          obtain ⟨g1, q1, _, _, _, _, _⟩ := HMM.out.sf.row (j := 1) (by decide) (by show 0 < semi.length; rw [HSL.out]; omega)
          have d1 := HMM.out.sf.clE (j := 1) (by decide) (l := semi) rfl q1 rfl HSL.out
          have s1 := (HMM.out.sf.atI (j := 1) (by decide) q1 (l := semi) rfl (i := k) (by rw [HSL.out]; exact hkN)).1
          have HCR : Hid (∀ i, i < N → wr.cell? ⟨gr, i, none⟩ = some (.int .i64 (res.getD i 0)) ∧ wr.frozen? ⟨gr, i, none⟩ = false) := Lib.hid (fun i hi => by
            have := HMM.out.so.cellAt i (by rw [HND.out]; omega)
            rw [intsV_get (by rw [hrl]; exact hi)] at this
            exact ⟨this, HMM.out.so.frozenAt i⟩)
          have r1 := (HCR.out k hkN).1
          have z1 := (HCR.out k hkN).2
          have hst := HLP.out.step HTR.out hkG HSS.out
          obtain ⟨a, ha⟩ : ∃ a, res.getD k 0 = a := ⟨_, rfl⟩
          obtain ⟨y, hy⟩ : ∃ y, semi.getD k 0 = y := ⟨_, rfl⟩
          rw [ha, hy] at hst
          rw [ha] at r1
          rw [hy] at s1
          have HST := Lib.hid hst
          have lfb := HMM.out.sf.bl
          clear hst ha hy q1 hrl
          by_cases h1 : a = -1
          · subst h1
            have HL1 : Hid (Lp G hi (k + 1) res) := Lib.hid (HST.out.1 (fun c => c.1 rfl))
            go_wp2_with fail
            go_quiet (fail)
            go_wp2_with fail
            go_roundw
            case rel => exact ⟨k + 1, _, by omega, rfl, HL1, Lib.hid (HMM.out.grown (drew_grown wr nq))⟩
            case measure => (simp [RowKit.intOf]; omega)
          · have hd : (a != -1) = true := by simpa using h1
            by_cases h2 : a = y
            · subst h2
              have HL1 : Hid (Lp G hi (k + 1) res) := Lib.hid (HST.out.1 (fun c => c.2 rfl))
              go_wp2_with fail
              go_quiet (fail)
              go_wp2_with fail
              go_roundw
              case rel => exact ⟨k + 1, _, by omega, rfl, HL1, Lib.hid (HMM.out.grown (drew_grown wr nq))⟩
              case measure => (simp [RowKit.intOf]; omega)
            · have hd2 : (a != y) = true := by simpa using h2
              obtain ⟨u, rfl, hu, hlp⟩ := HST.out.2 ⟨h1, h2⟩
              rw [HND.out] at hu
              have r2 := (HCR.out u hu).1
              have HL1 := Lib.hid hlp
              obtain ⟨ru, hru⟩ : ∃ x, res.getD u 0 = x := ⟨_, rfl⟩
              rw [hru] at r2 HL1
              clear hlp hru
              go_wp2_with fail
              go_quiet (fail)
              go_wp2_with fail
              go_roundw
              case rel => exact ⟨k + 1, _, by omega, rfl, HL1, Lib.hid ((HMM.out.grown (drew_grown wr nq)).setR k ru)⟩
              case measure => (simp [RowKit.intOf]; omega)
        · obtain rfl : N = k := by omega
          have HF : Hid (Q (.returned (.slice (some ⟨gr, 0, none⟩) G.N G.N)) wr) := Lib.hid (HQ.out wr gr res (by rw [HND.out]; exact HLP.out) HMM.out.so HMM.out.bl)
          rw [HND.out] at HF
          clear HLP HMM
          go_wp2_with fail
          exact HF.out
end Go.Proofs.Ytgaacdnljkildaa
