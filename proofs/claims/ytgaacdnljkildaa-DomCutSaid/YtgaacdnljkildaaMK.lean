/- Dominance: package dom's own Frontier, against landed code. -/
import Derived.Test.YtgaacdnljkildaaMJ
namespace Go.Proofs.Ytgaacdnljkildaa
open Go.RowKit
open Dm

set_option maxRecDepth 100000 in
set_option maxHeartbeats 4000000 in
theorem sfront_any (q : Option Addr) (qc : Nat) (g : List (List Int)) (w : World) (h : GsAt w q g) (hN : g.length ≤ 60) (hT : tot g ≤ 1048576) (hW : Wd g) : Calls Try.prog 12 #[.slice q g.length qc] w (RowsQ (frontL g) w) := by
  have H1 : Hid (∀ W, Below w.heap.size w W → Calls Try.prog 21 #[.slice q g.length qc, .int .i64 (-1)] W (WkP W (wkS g (-1)))) := Lib.hid (fun W hb => swalk_any q qc g (-1) W (h.below hb) (by omega) hT)
  have hwf := wkS_wf (g := g) (cl := -1) (by omega)
  have HNM := Lib.hid (wkS_nm (g := g) (by omega))
  obtain ⟨hi, hTr, hfr⟩ := wkS_tree (g := g) (by omega)
  have HD : Hid (∀ z W gw gl gr M rw qw cw last res, Fr0 g (wkS g (-1)) g.length (wt g.length rw) last → Fm z W gw gl gr g.length M rw qw cw last res → Below w.heap.size w z → RowsQ (frontL g) w (.returned (.slice (some ⟨gw, 0, none⟩) g.length g.length)) W) := Lib.hid (fun z W gw gl gr M rw qw cw last res h1 h2 h3 => by
    have hl : (wt g.length rw).length = g.length := h1.rl
    have hb : ∀ j, j < g.length → (rw j).length ≤ 1048576 := fun j hj => by
      have := h1.is j hj
      rw [wt_get hj] at this
      rw [this]
      have := frK_len g g.length j
      omega
    have hs : Sr z.heap.size W gw (List.range g.length) (fun j => if j < g.length then rw j else []) qw cw := by
      refine ⟨h2.sw.bl, h2.sw.fz, fun j hj => ?_, fun j hj => ?_, h2.sw.ne, h2.sw.ap⟩
      · rw [if_pos (List.mem_range.1 hj)]; exact h2.sw.cl j hj
      · rw [if_pos (List.mem_range.1 hj)]; exact h2.sw.own j hj
    have hg := hs.gs (fun j => by
      by_cases c : j < g.length
      · rw [if_pos c]; exact hb j c
      · rw [if_neg c]; exact Nat.zero_le _)
    have e : wt g.length (fun j => if j < g.length then rw j else []) = wt g.length rw := by
      unfold wt
      refine List.map_congr_left (fun j hj => ?_)
      rw [if_pos (List.mem_range.1 hj)]
    rw [e] at hg
    have e2 := h1.done
    rw [e2] at hg hl
    rw [← hl]
    exact ⟨_, _, rfl, hg, h3.trans (h2.bl.mono h3.size)⟩)
  generalize RowsQ (frontL g) w = Q at *
  obtain ⟨S, hS⟩ : ∃ S, wkS g (-1) = S := ⟨_, rfl⟩
  rw [hS] at H1 HNM HD hwf hTr hfr
  have HNM' := HNM
  have HTR := Lib.hid hTr
  have HPR : Hid (∀ W b, Below w.heap.size w W → Tt w.heap.size W b S → Calls Try.prog 23 #[.pointer (some ⟨b, 0, none⟩), .slice q g.length qc] W (PrP W (fun i => g.getD i []) S)) := Lib.hid (fun W b hb ht => spreds_any q qc g W (h.below hb) hN hT hW ht HNM.out.nd HNM.out.lt (by omega))
  have HAB : Hid (∀ W B' b gp r P C, Tt w.heap.size W b S → Sr B' W gp (List.range S.nodes.length) r P C → (∀ j, j < S.nodes.length → ∀ x, x ∈ r j ↔ ∃ p : Nat, x = (p : Int) ∧ (gN (fun i => g.getD i []) S).e p j) → (∀ j, (r j).length ≤ 134217728) → Calls Try.prog 24 #[.pointer (some ⟨b, 0, none⟩), .slice (some ⟨gp, 0, none⟩) S.nodes.length S.nodes.length] W (AbQ W (gN (fun i => g.getD i []) S))) := Lib.hid (fun W B' b gp r P C ht hp hr hl =>
    sabove_any (G := gN (fun i => g.getD i []) S) HTR.out W ht hwf.2.1 hfr hp hr hl (by show S.nodes.length ≤ _; omega))
  have HUP : Hid (∀ res, res.length = S.nodes.length → (∀ n, n < S.nodes.length → (gN (fun i => g.getD i []) S).Up n (res.getD n 0)) → Ups (gN (fun i => g.getD i []) S) res) := Lib.hid (fun res h1 h2 => ups_of HTR.out h1 h2)
  have HI0 := Lib.hid (Fr0.start g S)
  obtain ⟨M, hM⟩ : ∃ M, S.nodes.length = M := ⟨_, rfl⟩
  have HMD := Lib.hid hM
  have HML : Hid ((S.nodes.map Int.ofNat).length = M) := Lib.hid ((List.length_map ..).trans hM)
  obtain ⟨N, hNl⟩ : ∃ N, g.length = N := ⟨_, rfl⟩
  have HNL := Lib.hid hNl
  have hMN := hwf.1
  have HLT : Hid (∀ k, k < M → S.nodes.getD k 0 < N ∧ (S.nodes.map Int.ofNat).getD k 0 = ((S.nodes.getD k 0 : Nat) : Int)) := Lib.hid (fun k hk => ⟨by rw [← HNL.out]; exact HNM.out.lt _ (getD_memN (by rw [HMD.out]; exact hk)), by
    rw [List.getD_eq_getElem?_getD, List.getD_eq_getElem?_getD, List.getElem?_map, List.getElem?_eq_getElem (by rw [HMD.out]; exact hk)]; rfl⟩)
  have HREP : Hid (∀ (k : Nat) (W : World), W.heap[k]? = some (.cells #[.int .i64 (-1)] 3 (0, 0)) → Calls Try.prog 25 #[.slice (some ⟨k, 0, none⟩) 1 1, .int .i64 (M : Int)] W fun e w' => ∃ g, e = .returned (.slice (some ⟨g, 0, none⟩) M M) ∧ W.heap.size ≤ g ∧ w'.heap[g]? = some (.cells (rpc (-1) M M).toArray 3 (0, 0)) ∧ Below W.heap.size W w') := Lib.hid (fun k W h => rep_any _ 1 (-1) M W (by omega) ⟨by simp, fun i hi => ⟨k, 0, rfl, (Array.getElem?_eq_some_iff.1 h).1, by
    have : i = 0 := by simpa using hi
    subst this
    simp [World.cell?, h]⟩⟩)
  have HN9 : Hid (∀ W : World, (W.alloc (.cells #[.int .i64 (-1)] 3)).heap[W.heap.size]? = some (.cells #[.int .i64 (-1)] 3 (0, 0))) := Lib.hid (fun W => heap_new _ _)
  have HWK := Lib.hid (H1.out w (Below.refl _ _))
  unfold WkP at HWK
  unfold PrP at HPR
  unfold AbQ at HAB
  have hGN : (gN (fun i => g.getD i []) S).N = S.nodes.length := rfl
  rw [hGN] at HAB
  rw [hM] at HPR HAB HUP hMN HI0
  rw [hNl] at HWK HPR HD HI0 hMN hN ⊢
  clear h hwf hTr hfr hW hT hS hM hNl H1 hGN
  have hmk := fun W => run_make_row' (P := Try.prog) 22 27 (.slice none 0 0) 24 Try.underlying22 infoInts rfl .i64 .i64 N (by omega) (by omega) W
  have hn : ∀ {W : World} {k : Nat} {o : Obj}, W.heap.size = k → (W.alloc o).heap[k]? = some o := fun {W k o} e => by subst e; exact heap_new _ _
  go_enter Try.func12, Try.ntmps12
  go_wp2_with (first
    | (go_at_call 21; (with_reducible refine HWK.out.mono ?_); rintro e w1 ⟨b, ql, cq, rfl, _, htt, _, _, hb1⟩; have HTT := Lib.hid htt; have HB1 := Lib.hid hb1; clear htt hb1)
    | (go_at_call 25; (with_reducible refine (HREP.out _ _ (by first | exact HN9.out _ | exact hn (by simp))).mono ?_); rintro e w5 ⟨gl, rfl, hgl, hu, hb5⟩; have HGL := Lib.hid hgl; have HU := Lib.hid hu; have HB5 := Lib.hid hb5; clear hgl hu hb5)
    | (go_at_call 23; (with_reducible refine (HPR.out _ _ HB1.out HTT.out).mono ?_); rintro e w3 ⟨gp, r, P, C, rfl, _, hp, hr, hln, hb3⟩; have HP := Lib.hid hp; have HR := Lib.hid hr; have HLN := Lib.hid hln; have HB3 := Lib.hid hb3; have HT3 := Lib.hid (HTT.out.next hb3); clear hp hr hln hb3)
    | (go_at_call 24; (with_reducible refine (HAB.out _ _ _ _ _ _ _ HT3.out HP.out HR.out HLN.out).mono ?_); rintro e w4 ⟨gr, res, rfl, hor, hrl, hup, hb4⟩; have HOR := Lib.hid hor; have HRL := Lib.hid hrl; have HU4 := Lib.hid (HUP.out res hrl hup); have HB4 := Lib.hid hb4; have htx := HT3.out.next hb4; obtain ⟨q1, c1, d1, n1, _⟩ := htx.r1; have lbt := htx.bl; rw [HMD.out] at d1; clear hor hrl hup hb4 htx n1))
  have HFM0 : Hid (Fm w3 w5 w4.heap.size gl gr N M (fun _ => []) (fun _ => none) (fun _ => 0) (List.replicate M (-1)) res) := Lib.hid (Fm.start HB4.out HOR.out ((b1 (w := w4.alloc (.cells (madeCells #[.slice none 0 0] N) 27))).trans (HB5.out.mono (by simp))) (by have := HGL.out; simp at this ⊢; omega) HU.out (by omega))
  have HTTW : Hid (∀ W, Below w3.heap.size w3 W → Tt w.heap.size W b S) := Lib.hid (fun W hb => HT3.out.next hb)
  have HPW : Hid (∀ W, Below w3.heap.size w3 W → Sr w1.heap.size W gp (List.range M) r P C) := Lib.hid (fun W hb => HP.out.next hb)
  have HZ : Hid (Below w.heap.size w w3) := Lib.hid (HB1.out.trans (HB3.out.mono HB1.out.size))
  have HF0 : Hid (Fr0 g S 0 (wt N (fun _ => [])) (List.replicate M (-1))) := Lib.hid (by have := HI0.out; rw [wt_nil]; exact this)
  have HNS : Hid (∀ i, i < M → S.nodes.getD i 0 < N) := Lib.hid (fun i hi => (HLT.out i hi).1)
  obtain ⟨gw, hgw⟩ : ∃ gw, w4.heap.size = gw := ⟨_, rfl⟩
  rw [hgw] at HFM0 ⊢
  clear HREP HN9 HPR HAB HWK HUP HT3 HU HOR HB3 HB4 HB5 HGL hn hmk HI0 HTT HB1 HP d1 lbt
  go_loopw [33] (fun u wr => ∃ (x : Nat) (rw : Nat → List Int) (qw : Nat → Option Addr) (cw : Nat → Nat) (last : List Int), x ≤ N ∧ u = .int .i64 (x : Int) ∧ Hid (Fr0 g S x (wt N rw) last) ∧ Hid (Fm w3 wr gw gl gr N M rw qw cw last res)) (fun u _ => N - (RowKit.intOf u).toNat)
  case atStart => exact ⟨0, _, _, _, _, Nat.zero_le _, rfl, HF0, HFM0⟩
  case round =>
    clear HF0 HFM0
    obtain ⟨x, rw', qw, cw, last, hx, rfl, HF, HFM⟩ := hrel
    by_cases hxN : x < N
    · have htt := HTTW.out wr HFM.out.bl
      have lbt := htt.bl
      obtain ⟨mm, nn, f, dm, hmp, hnf, _⟩ := htt.mp
      have HMP := Lib.hid hmp
      have hxw : (lit (x : Int)).wf = true := lit_wf (by omega) (by omega)
      by_cases hc : ∃ i, i < M ∧ S.nodes.getD i 0 = x
      · obtain ⟨i, hiM, hix⟩ := hc
        have hfx : f (x : Int) = some (i : Int) := by
          have := hnf.is i (by rw [HMD.out]; exact hiM)
          rwa [hix] at this
        have hp := HPW.out wr HFM.out.bl
        have dp := hp.cl i (List.mem_range.2 hiM)
        have lp := hp.bl
        obtain ⟨rl, hrl⟩ : ∃ l, (r i).length = l := ⟨_, rfl⟩
        have HRLN : Hid ((r i).length = rl ∧ rl ≤ 134217728) := Lib.hid ⟨hrl, by rw [← hrl]; exact HLN.out i⟩
        obtain ⟨pv, hpv⟩ : ∃ a, P i = a := ⟨_, rfl⟩
        have HNV : Hid (∀ W, Below w3.heap.size w3 W → NumsAt .i64 W pv (r i)) := Lib.hid (fun W hb => by rw [← hpv]; exact (HPW.out W hb).nums (j := i) (List.mem_range.2 hiM) (by have := HRLN.out; omega))
        rw [hrl, hpv] at dp
        have hrlb := HRLN.out.2
        have HFR : Hid (Fr1 g S res x i ((r i).take 0) (res.getD i 0) (wt N rw') last) := Lib.hid (by rw [List.take_zero]; exact Fr1.start HNM.out HF.out)
        have HIX := Lib.hid hix
        clear htt hmp hnf hp hrl hpv HF
        go_wp2_with (at_lookup; refine wpList_mp_look_ok rfl (.tmp 40) (.tmp 41) rfl mm nn f (x : Int) (i : Int) rfl rfl HMP.out hxw hfx ?_)
        clear HMP hfx hxw dp
        go_loopw [52] (fun u wr => ∃ (j : Nat) (c : Int) (rw : Nat → List Int) (qw : Nat → Option Addr) (cw : Nat → Nat) (last : List Int), j ≤ rl ∧ u = .int .i64 (j : Int) ∧ Hid (c = res.getD i 0 ∨ ∃ m : Nat, c = (m : Int) ∧ m < S.nodes.length ∧ last.getD m 0 = (x : Int)) ∧ Hid (Fr1 g S res x i ((r i).take j) c (wt N rw) last) ∧ Hid (Fm w3 wr gw gl gr N M rw qw cw last res)) (fun u _ => rl - (RowKit.intOf u).toNat)
        case atStart => exact ⟨0, _, _, _, _, _, Nat.zero_le _, rfl, Lib.hid (.inl rfl), HFR, HFM⟩
        case round =>
          clear HFR HFM
          obtain ⟨j, c, rw', qw, cw, last, hj, rfl, HC, HFR, HFM⟩ := hrel
          by_cases hjr : j < rl
          · have hn := HNV.out wr HFM.out.bl
            obtain ⟨b5, o5, rfl, hl5, e5⟩ := hn.cells j (by rw [HRLN.out.1]; exact hjr)
            have hmem : (r i).getD j 0 ∈ r i := getD_memI (by rw [HRLN.out.1]; exact hjr)
            obtain ⟨p, ep, hep⟩ := (HR.out i hiM _).1 hmem
            have HTK : Hid ((r i).take (j + 1) = (r i).take j ++ [(p : Int)]) := Lib.hid (by
              have hl : j < (r i).length := by rw [HRLN.out.1]; exact hjr
              rw [List.take_add_one, List.getElem?_eq_getElem hl, ← ep, List.getD_eq_getElem?_getD, List.getElem?_eq_getElem hl]
              rfl)
            rw [ep] at e5
            have HCU := Lib.hid (Cur.start HNM.out HU4.out hep)
            have HFS : Hid (Fr1 g S res x i ((r i).take (j + 1)) (p : Int) (wt N rw') last) := Lib.hid (by rw [HTK.out]; exact HFR.out.next HC.out p)
            clear hn hmem ep hep HFR HC HTK
            have hresl := HRL.out
            go_wp2_with fail
            go_loopw [12] (fun u wr => ∃ (c : Int) (rw : Nat → List Int) (qw : Nat → Option Addr) (cw : Nat → Nat) (last : List Int), u = .int .i64 c ∧ Hid (Cur g S res i c) ∧ Hid (Fr1 g S res x i ((r i).take (j + 1)) c (wt N rw) last) ∧ Hid (Fm w3 wr gw gl gr N M rw qw cw last res)) (fun u _ => (RowKit.intOf u + 1).toNat)
            case atStart => exact ⟨_, _, _, _, _, rfl, HCU, HFS, HFM⟩
            case round =>
              clear HCU HFS HFM
              obtain ⟨c, rw', qw, cw, last, rfl, HCU, HFS, HFM⟩ := hrel
              have ri := HFM.out.or.cellAt i (by omega)
              rw [intsV_get (by rw [hresl]; exact hiM)] at ri
              obtain ⟨ui, hui⟩ : ∃ a, res.getD i 0 = a := ⟨_, rfl⟩
              rw [hui] at ri
              by_cases h1 : c = ui
              · subst h1
                have HCN : Hid (c = res.getD i 0 ∨ ∃ m : Nat, c = (m : Int) ∧ m < S.nodes.length ∧ last.getD m 0 = (x : Int)) := Lib.hid (.inl hui.symm)
                clear hui HCU
                go_wp2_with fail
                go_roundw
                all_goals first
                  | exact ⟨j + 1, _, _, _, _, _, by omega, rfl, HCN, HFS, HFM⟩
                  | ((simp [RowKit.intOf]) <;> omega)
              · have hd1 : (c != ui) = true := by simpa using h1
                obtain ⟨m, rfl, hmS, hmg, hstep⟩ := HFS.out.step HNM.out HU4.out HCU.out (by rw [hui]; exact h1)
                have hmM : m < M := by rw [← HMD.out]; exact hmS
                have rl' := HFM.out.ol.cellAt m (by omega)
                rw [intsV_get (by rw [HFS.out.ll]; exact hmS)] at rl'
                have zl := HFM.out.ol.frozenAt m
                obtain ⟨lm, hlm⟩ : ∃ a, last.getD m 0 = a := ⟨_, rfl⟩
                rw [hlm] at rl'
                by_cases h2 : lm = (x : Int)
                · have HCN : Hid (((m : Nat) : Int) = res.getD i 0 ∨ ∃ m' : Nat, ((m : Nat) : Int) = (m' : Int) ∧ m' < S.nodes.length ∧ last.getD m' 0 = (x : Int)) := Lib.hid (.inr ⟨m, rfl, hmS, by rw [hlm]; exact h2⟩)
                  subst h2
                  clear hui HCU hstep hlm
                  go_wp2_with fail
                  go_roundw
                  all_goals first
                    | exact ⟨j + 1, _, _, _, _, _, by omega, rfl, HCN, HFS, HFM⟩
                    | ((simp [RowKit.intOf]) <;> omega)
                · have hd2 : (lm != (x : Int)) = true := by simpa using h2
                  obtain ⟨hcu, hlt, hge, hfr1⟩ := hstep (by rw [hlm]; exact h2)
                  have HLL : Hid (((wt N rw').getD (S.nodes.getD m 0) []).length ≤ x) := Lib.hid (by
                    rw [HFS.out.is m hmS, if_neg (by rw [hlm]; exact h2), List.append_nil]
                    exact frK_len _ _ _)
                  have hnN := HNS.out m hmM
                  obtain ⟨nm, hnm⟩ : ∃ y, S.nodes.getD m 0 = y := ⟨_, rfl⟩
                  rw [hnm] at hfr1 HLL hnN
                  rw [wt_get hnN] at HLL hfr1
                  rw [wt_set] at hfr1
                  have htt := HTTW.out w3 (Below.refl _ _)
                  have lb3 := htt.bl
                  obtain ⟨q1, c1, d1, n1, _⟩ := htt.r1
                  rw [HMD.out] at d1
                  obtain ⟨b6, o6, rfl, hl6, e6⟩ := n1.cells m (by rw [HML.out]; exact hmM)
                  rw [(HLT.out m hmM).2, hnm] at e6
                  have HCEL : Hid (∀ W, Below w3.heap.size w3 W → W.cell? ⟨b, 1, none⟩ = some (.slice (some ⟨b6, o6, none⟩) M c1) ∧ W.cell? ⟨b6, o6 + m, none⟩ = some (.int .i64 (nm : Int))) := Lib.hid (fun W hb => ⟨(hb.cell (p := ⟨b, 1, none⟩) lb3).trans d1, (hb.cell (p := ⟨b6, o6 + m, none⟩) hl6).trans e6⟩)
                  obtain ⟨um, hum⟩ : ∃ a, res.getD m 0 = a := ⟨_, rfl⟩
                  rw [hum] at hcu hlt hge hfr1
                  have HNX := Lib.hid (And.intro hcu hfr1)
                  obtain ⟨W5, hW5⟩ : ∃ W5, wr.setCell ⟨gl, m, none⟩ (.int .i64 (x : Int)) = W5 := ⟨_, rfl⟩
                  have HF5 : Hid (Fm w3 W5 gw gl gr N M rw' qw cw (last.set m (x : Int)) res) := Lib.hid (by rw [← hW5]; exact HFM.out.setL m (x : Int))
                  have hmm : nm ∈ List.range N := List.mem_range.2 hnN
                  obtain ⟨rm, hrm⟩ : ∃ l, rw' nm = l := ⟨_, rfl⟩
                  rw [hrm] at HLL HNX
                  obtain ⟨wl, hwl⟩ : ∃ l, rm.length = l := ⟨_, rfl⟩
                  have dw := HF5.out.sw.clE (j := nm) hmm (l := rm) hrm rfl rfl hwl
                  have fw := HF5.out.sw.fz nm
                  have lgw := HF5.out.sw.bl
                  have HXE : Hid (rm.length = wl ∧ (rm ++ [(x : Int)]).length = wl + 1 ∧ rm.length + [(x : Int)].length ≤ 1099511627776) := Lib.hid ⟨hwl, by simp [hwl], by have := HLL.out; simp; omega⟩
                  have HS9 := Lib.hid (fun (x : Int) (W : World) k (e : k = W.heap.size) => (e ▸ nums_new (k := .i64) W 3 [x] #[.int .i64 x] rfl (by simp) : NumsAt .i64 (W.alloc (.cells #[.int .i64 x] 3)) (some ⟨k, 0, none⟩) [x]).below ((Below.refl _ _).drew))
                  have HMA : Hid (Fm w3 (W5.alloc (.cells #[.int .i64 (x : Int)] 3)).drew gw gl gr N M rw' qw cw (last.set m (x : Int)) res) := Lib.hid (HF5.out.grown (al_drew_grown W5 _))
                  have S1 := HCEL.out _ HF5.out.bl
                  have SA := HCEL.out _ HMA.out.bl
                  have HAP : Hid (∀ (w8 : World) (q8 : Option Addr) (c8 : Nat), w8.ownsRow w3.heap.size 3 1 (.slice q8 (wl + 1) c8) (wl + 1) (intsV (rm ++ [(x : Int)])) → (W5.alloc (.cells #[.int .i64 (x : Int)] 3)).drew.grownBy w8 (Value.slice (qw nm) wl (cw nm)).ownBlock → ((Value.slice q8 (wl + 1) c8).ownBlock = (Value.slice (qw nm) wl (cw nm)).ownBlock ∨ (Value.slice q8 (wl + 1) c8).ownBlock = some (W5.alloc (.cells #[.int .i64 (x : Int)] 3)).drew.heap.size) →
                      (w8.cell? ⟨b, 1, none⟩ = some (.slice (some ⟨b6, o6, none⟩) M c1) ∧ w8.cell? ⟨b6, o6 + m, none⟩ = some (.int .i64 (nm : Int))) ∧ ((w8.setCell ⟨gw, nm, none⟩ (.slice q8 (wl + 1) c8)).cell? ⟨b, 1, none⟩ = some (.slice (some ⟨b6, o6, none⟩) M c1) ∧ (w8.setCell ⟨gw, nm, none⟩ (.slice q8 (wl + 1) c8)).cell? ⟨b6, o6 + m, none⟩ = some (.int .i64 (nm : Int))) ∧
                      w8.cell? ⟨gw, nm, none⟩ = some (.slice (qw nm) wl (cw nm)) ∧ w8.frozen? ⟨gw, nm, none⟩ = false ∧ (w8.setCell ⟨gw, nm, none⟩ (.slice q8 (wl + 1) c8)).cell? ⟨gr, m, none⟩ = some (.int .i64 um) ∧ Hid (Fm w3 (w8.setCell ⟨gw, nm, none⟩ (.slice q8 (wl + 1) c8)) gw gl gr N M (up1 rw' nm (rm ++ [(x : Int)])) (up1 qw nm q8) (up1 cw nm c8) (last.set m (x : Int)) res)) := Lib.hid (fun w8 q8 c8 ho hg hb => by
                    have hmid := HMA.out.sw.mid hmm hg
                    rw [hrm, HXE.out.1] at hmid
                    have hx := HMA.out.app hmm (by rw [HXE.out.2.1]; exact ho) HXE.out.2.1.symm hg hb
                    have h8 : Below w3.heap.size w3 w8 := HMA.out.bl.grown hg HMA.out.bl.size (fun k e => (HMA.out.sw.blk hmm (by rw [← e, own_blk])).1)
                    have hr := hx.or.cellAt m (by omega)
                    rw [intsV_get (by rw [hresl]; exact hmM), hum] at hr
                    exact ⟨HCEL.out _ h8, HCEL.out _ hx.bl, hmid.1, hmid.2.1, hr, Lib.hid hx⟩)
                  have HOW : Hid ((W5.alloc (.cells #[.int .i64 (x : Int)] 3)).drew.ownsRow w3.heap.size 3 1 (.slice (qw nm) wl (cw nm)) rm.length (intsV rm)) := Lib.hid (HMA.out.sw.ownE (j := nm) hmm hrm rfl rfl HXE.out.1.symm)
                  have HBW : Hid (w3.heap.size ≤ (W5.alloc (.cells #[.int .i64 (x : Int)] 3)).drew.heap.size) := Lib.hid HMA.out.bl.size
                  clear hui HCU hstep hlm hcu hfr1 hnm htt d1 n1 e6 hum hmm hrm hwl HF5 HFM HFS HMA
                  go_wp2_with fail
                  refine wp_region_held_drew (S := (fun W' => W'.cell? ⟨b, 1, none⟩ = some (.slice (some ⟨b6, o6, none⟩) M c1) ∧ W'.cell? ⟨b6, o6 + m, none⟩ = some (.int .i64 (nm : Int)))) (by kernel_rfl) ?_ (fun hHeld => ?_)
                  · (try dsimp only); first | exact S1 | exact SA | exact S8 | exact S9
                  refine held_take 0 (v := ?_) rfl (by kernel_rfl) (by kernel_rfl) (by kernel_rfl) (fun _ _ _ h => h) (Or.inl ⟨by rfl, ?_⟩) (by assumption) ?_
                  rotate_left
                  · (intro w hSw; (try dsimp only at hSw); go_simp; try with_reducible rfl)
                  try simp only [Act.put, List.setIfInBounds_toArray, List.set_cons_zero, List.set_cons_succ]
                  refine held_take 1 (v := ?_) rfl (by kernel_rfl) (by kernel_rfl) (by kernel_rfl) (fun _ _ _ h => h) (Or.inl ⟨by rfl, ?_⟩) (by assumption) ?_
                  rotate_left
                  · (intro w hSw; (try dsimp only at hSw); go_simp; try with_reducible rfl)
                  try simp only [Act.put, List.setIfInBounds_toArray, List.set_cons_zero, List.set_cons_succ]
                  refine held_take 2 (v := ?_) rfl (by kernel_rfl) (by kernel_rfl) (by kernel_rfl) (fun _ _ _ h => h) (Or.inl ⟨by rfl, ?_⟩) (by assumption) ?_
                  rotate_left
                  · (intro w hSw; (try dsimp only at hSw); go_simp; try with_reducible rfl)
                  try simp only [Act.put, List.setIfInBounds_toArray, List.set_cons_zero, List.set_cons_succ]
                  refine held_take 3 (v := ?_) rfl (by kernel_rfl) (by kernel_rfl) (by kernel_rfl) (fun _ _ _ h => h) (Or.inl ⟨by rfl, ?_⟩) (by assumption) ?_
                  rotate_left
                  · (intro w hSw; (try dsimp only at hSw); go_simp; try with_reducible rfl)
                  try simp only [Act.put, List.setIfInBounds_toArray, List.set_cons_zero, List.set_cons_succ]
                  refine held_take 4 (v := ?_) rfl (by kernel_rfl) (by kernel_rfl) (by kernel_rfl) (fun _ _ _ h => h) (Or.inl ⟨by rfl, ?_⟩) (by assumption) ?_
                  rotate_left
                  · (intro w hSw; (try dsimp only at hSw); go_simp; try with_reducible rfl)
                  try simp only [Act.put, List.setIfInBounds_toArray, List.set_cons_zero, List.set_cons_succ]
                  refine held_take 5 (v := ?_) rfl (by kernel_rfl) (by kernel_rfl) (by kernel_rfl) (fun _ _ _ h => h) (Or.inl ⟨by rfl, ?_⟩) (by assumption) ?_
                  rotate_left
                  · (intro w hSw; (try dsimp only at hSw); go_simp; try with_reducible rfl)
                  try simp only [Act.put, List.setIfInBounds_toArray, List.set_cons_zero, List.set_cons_succ]
                  refine held_take 6 (v := ?_) rfl (by kernel_rfl) (by kernel_rfl) (by kernel_rfl) (fun _ _ _ h => h) (Or.inl ⟨by rfl, ?_⟩) (by assumption) ?_
                  rotate_left
                  · (intro w hSw; (try dsimp only at hSw); go_simp; try with_reducible rfl)
                  try simp only [Act.put, List.setIfInBounds_toArray, List.set_cons_zero, List.set_cons_succ]
                  refine held_take 7 (v := ?_) rfl (by kernel_rfl) (by kernel_rfl) (by kernel_rfl) (fun _ _ _ h => h) (Or.inl ⟨by rfl, ?_⟩) (by assumption) ?_
                  rotate_left
                  · (intro w hSw; (try dsimp only at hSw); go_simp; try with_reducible rfl)
                  try simp only [Act.put, List.setIfInBounds_toArray, List.set_cons_zero, List.set_cons_succ]
                  refine held_take 8 (v := ?_) rfl (by kernel_rfl) (by kernel_rfl) (by kernel_rfl) (fun _ _ _ h => h) (Or.inl ⟨by rfl, ?_⟩) (by assumption) ?_
                  rotate_left
                  · (intro w hSw; (try dsimp only at hSw); go_simp; try with_reducible rfl)
                  try simp only [Act.put, List.setIfInBounds_toArray, List.set_cons_zero, List.set_cons_succ]
                  refine held_take 9 (v := ?_) rfl (by kernel_rfl) (by kernel_rfl) (by kernel_rfl) (fun _ _ _ h => h) (Or.inl ⟨by rfl, ?_⟩) (by assumption) ?_
                  rotate_left
                  · (intro w hSw; (try dsimp only at hSw); go_simp; try with_reducible rfl)
                  try simp only [Act.put, List.setIfInBounds_toArray, List.set_cons_zero, List.set_cons_succ]
                  refine held_take 10 (v := ?_) rfl (by kernel_rfl) (by kernel_rfl) (by kernel_rfl) (fun _ _ _ h => h) (Or.inl ⟨by rfl, ?_⟩) (by assumption) ?_
                  rotate_left
                  · (intro w hSw; (try dsimp only at hSw); go_simp; try with_reducible rfl)
                  try simp only [Act.put, List.setIfInBounds_toArray, List.set_cons_zero, List.set_cons_succ]
                  refine held_take 11 (v := ?_) rfl (by kernel_rfl) (by kernel_rfl) (by kernel_rfl) (fun _ _ _ h => h) (Or.inl ⟨by rfl, ?_⟩) (by assumption) ?_
                  rotate_left
                  · (intro w hSw; (try dsimp only at hSw); go_simp; try with_reducible rfl)
                  try simp only [Act.put, List.setIfInBounds_toArray, List.set_cons_zero, List.set_cons_succ]
                  refine held_take 12 (v := ?_) rfl (by kernel_rfl) (by kernel_rfl) (by kernel_rfl) (fun _ _ _ h => h) (Or.inl ⟨by rfl, ?_⟩) (by assumption) ?_
                  rotate_left
                  · (intro w hSw; (try dsimp only at hSw); go_simp; try with_reducible rfl)
                  try simp only [Act.put, List.setIfInBounds_toArray, List.set_cons_zero, List.set_cons_succ]
                  refine held_take 13 (v := ?_) rfl (by kernel_rfl) (by kernel_rfl) (by kernel_rfl) (fun _ _ _ h => h) (Or.inl ⟨by rfl, ?_⟩) (by assumption) ?_
                  rotate_left
                  · (intro w hSw; (try dsimp only at hSw); go_simp; try with_reducible rfl)
                  try simp only [Act.put, List.setIfInBounds_toArray, List.set_cons_zero, List.set_cons_succ]
                  refine held_take 14 (v := ?_) rfl (by kernel_rfl) (by kernel_rfl) (by kernel_rfl) (fun _ _ _ h => h) (Or.inl ⟨by rfl, ?_⟩) (by assumption) ?_
                  rotate_left
                  · (intro w hSw; (try dsimp only at hSw); go_simp; try with_reducible rfl)
                  try simp only [Act.put, List.setIfInBounds_toArray, List.set_cons_zero, List.set_cons_succ]
                  refine held_take 15 (v := ?_) rfl (by kernel_rfl) (by kernel_rfl) (by kernel_rfl) (fun _ _ _ h => h) (Or.inl ⟨by rfl, ?_⟩) (by assumption) ?_
                  rotate_left
                  · (intro w hSw; (try dsimp only at hSw); go_simp; try with_reducible rfl)
                  try simp only [Act.put, List.setIfInBounds_toArray, List.set_cons_zero, List.set_cons_succ]
                  refine held_take 16 (v := ?_) rfl (by kernel_rfl) (by kernel_rfl) (by kernel_rfl) (fun _ _ _ h => h) (Or.inl ⟨by rfl, ?_⟩) (by assumption) ?_
                  rotate_left
                  · (intro w hSw; (try dsimp only at hSw); go_simp; try with_reducible rfl)
                  try simp only [Act.put, List.setIfInBounds_toArray, List.set_cons_zero, List.set_cons_succ]
                  refine held_take 18 (v := ?_) rfl (by kernel_rfl) (by kernel_rfl) (by kernel_rfl) (fun _ _ _ h => h) (Or.inl ⟨by rfl, ?_⟩) (by assumption) ?_
                  rotate_left
                  · (intro w hSw; (try dsimp only at hSw); go_simp; try with_reducible rfl)
                  try simp only [Act.put, List.setIfInBounds_toArray, List.set_cons_zero, List.set_cons_succ]
                  refine held_two 17 19 (by kernel_rfl) rfl rfl (fun K hK => ?_) (fun K hK => ?_)
                  ·
                    go_simp
                    refine hK.out _ _ ?_ (fun hHeld => ?_)
                    · (try dsimp only); first | exact S1 | exact SA | exact S8 | exact S9
                    clear hK K
                    try simp only [Act.put, List.setIfInBounds_toArray, List.set_cons_zero, List.set_cons_succ]
                    refine held_one 19 (by kernel_rfl) rfl (fun K hK => ?_)
                    go_simp
                    refine hK.out _ _ ?_ (fun hHeld => ?_)
                    · (try dsimp only); first | exact S1 | exact SA | exact S8 | exact S9
                    clear hK K
                    try simp only [Act.put, List.setIfInBounds_toArray, List.set_cons_zero, List.set_cons_succ]
                    refine held_one 20 (by kernel_rfl) rfl (fun K hK => ?_)
                    (refine step_app_ints rfl (.tmp 95) (.tmp 97) rfl rfl w3.heap.size _ [(x : Int)] rm (.slice (qw nm) wl (cw nm)) 1 1 rfl (by simp [Act.eval]) (by simp [Act.eval]; rfl) HOW.out (HS9.out _ _ _ (by simp)) HBW.out HXE.out.2.2 ?_; intro v8 w8 ho8 hg8 hb8; rw [HXE.out.2.1] at ho8; obtain ⟨q8, c8, rfl⟩ := own_form ho8; obtain ⟨S8, S9, e8, fz8, u8, HMX⟩ := HAP.out w8 q8 c8 ho8 hg8 hb8; clear ho8 hg8 hb8)
                    refine hK.out _ _ ?_ (fun hHeld => ?_)
                    · (try dsimp only); first | exact S1 | exact SA | exact S8 | exact S9
                    clear hK K
                    try simp only [Act.put, List.setIfInBounds_toArray, List.set_cons_zero, List.set_cons_succ]
                    refine held_take 21 (v := ?_) rfl (by kernel_rfl) (by kernel_rfl) (by kernel_rfl) (fun _ _ _ h => h) (Or.inl ⟨by rfl, ?_⟩) (by assumption) ?_
                    rotate_left
                    · (intro w hSw; (try dsimp only at hSw); go_simp; try with_reducible rfl)
                    try simp only [Act.put, List.setIfInBounds_toArray, List.set_cons_zero, List.set_cons_succ]
                    refine held_one 22 (by kernel_rfl) rfl (fun K hK => ?_)
                    go_simp
                    refine hK.out _ _ ?_ (fun hHeld => ?_)
                    · (try dsimp only); first | exact S1 | exact SA | exact S8 | exact S9
                    clear hK K
                    try simp only [Act.put, List.setIfInBounds_toArray, List.set_cons_zero, List.set_cons_succ]
                    refine wpAnyH_done (by kernel_rfl) ?_ _
                    all_goals go_wp2_with fail
                    all_goals go_roundw
                    all_goals first
                      | exact ⟨um, _, _, _, _, rfl, Lib.hid HNX.out.1, Lib.hid HNX.out.2, HMX⟩
                      | ((simp [RowKit.intOf]) <;> omega)
                  ·
                    go_simp
                    refine hK.out _ _ ?_ (fun hHeld => ?_)
                    · (try dsimp only); first | exact S1 | exact SA | exact S8 | exact S9
                    clear hK K
                    try simp only [Act.put, List.setIfInBounds_toArray, List.set_cons_zero, List.set_cons_succ]
                    refine held_one 17 (by kernel_rfl) rfl (fun K hK => ?_)
                    go_simp
                    refine hK.out _ _ ?_ (fun hHeld => ?_)
                    · (try dsimp only); first | exact S1 | exact SA | exact S8 | exact S9
                    clear hK K
                    try simp only [Act.put, List.setIfInBounds_toArray, List.set_cons_zero, List.set_cons_succ]
                    refine held_one 20 (by kernel_rfl) rfl (fun K hK => ?_)
                    (refine step_app_ints rfl (.tmp 95) (.tmp 97) rfl rfl w3.heap.size _ [(x : Int)] rm (.slice (qw nm) wl (cw nm)) 1 1 rfl (by simp [Act.eval]) (by simp [Act.eval]; rfl) HOW.out (HS9.out _ _ _ (by simp)) HBW.out HXE.out.2.2 ?_; intro v8 w8 ho8 hg8 hb8; rw [HXE.out.2.1] at ho8; obtain ⟨q8, c8, rfl⟩ := own_form ho8; obtain ⟨S8, S9, e8, fz8, u8, HMX⟩ := HAP.out w8 q8 c8 ho8 hg8 hb8; clear ho8 hg8 hb8)
                    refine hK.out _ _ ?_ (fun hHeld => ?_)
                    · (try dsimp only); first | exact S1 | exact SA | exact S8 | exact S9
                    clear hK K
                    try simp only [Act.put, List.setIfInBounds_toArray, List.set_cons_zero, List.set_cons_succ]
                    refine held_take 21 (v := ?_) rfl (by kernel_rfl) (by kernel_rfl) (by kernel_rfl) (fun _ _ _ h => h) (Or.inl ⟨by rfl, ?_⟩) (by assumption) ?_
                    rotate_left
                    · (intro w hSw; (try dsimp only at hSw); go_simp; try with_reducible rfl)
                    try simp only [Act.put, List.setIfInBounds_toArray, List.set_cons_zero, List.set_cons_succ]
                    refine held_one 22 (by kernel_rfl) rfl (fun K hK => ?_)
                    go_simp
                    refine hK.out _ _ ?_ (fun hHeld => ?_)
                    · (try dsimp only); first | exact S1 | exact SA | exact S8 | exact S9
                    clear hK K
                    try simp only [Act.put, List.setIfInBounds_toArray, List.set_cons_zero, List.set_cons_succ]
                    refine wpAnyH_done (by kernel_rfl) ?_ _
                    all_goals go_wp2_with fail
                    all_goals go_roundw
                    all_goals first
                      | exact ⟨um, _, _, _, _, rfl, Lib.hid HNX.out.1, Lib.hid HNX.out.2, HMX⟩
                      | ((simp [RowKit.intOf]) <;> omega)
          · obtain rfl : rl = j := by omega
            have HFN : Hid (Fr0 g S (x + 1) (wt N rw') last) := Lib.hid (HFR.out.fin HNM.out HU4.out HC.out (by rw [HMD.out]; exact hiM) HIX.out (fun p hp => by
              rw [← HRLN.out.1, List.take_length]
              exact (HR.out i hiM _).2 ⟨p, rfl, hp⟩))
            clear HFR HC
            go_wp2_with fail
            go_roundw
            case rel => exact ⟨x + 1, _, _, _, _, by omega, rfl, HFN, HFM⟩
            case measure => (simp [RowKit.intOf]) <;> omega
      · have hfx : f (x : Int) = none := hnf.no _ (fun k hk e => hc ⟨k, by rw [← HMD.out]; exact hk, by omega⟩)
        have hnr : ¬ (gL g).R x := fun c => by
          obtain ⟨k, hk, e⟩ := getD_of_mem ((HNM.out.is x).2 c)
          exact hc ⟨k, by rw [← HMD.out]; exact hk, e⟩
        have HFN := Lib.hid (HF.out.skip hnr)
        clear htt hmp hnf hc
        go_wp2_with (at_lookup; refine wpList_mp_look_no rfl (.tmp 40) (.tmp 41) rfl mm nn f (x : Int) rfl rfl HMP.out hxw hfx ?_; intro c0)
        go_roundw
        case rel => exact ⟨x + 1, _, _, _, _, by omega, rfl, HFN, HFM⟩
        case measure => (simp [RowKit.intOf]) <;> omega
    · obtain rfl : N = x := by omega
      have HFI : Hid (Q (.returned (.slice (some ⟨gw, 0, none⟩) N N)) wr) := Lib.hid (HD.out _ _ _ _ _ _ _ _ _ _ _ HF.out HFM.out HZ.out)
      clear HF HFM
      go_wp2_with fail
      exact HFI.out
end Go.Proofs.Ytgaacdnljkildaa
