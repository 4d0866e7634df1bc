/- Dominance: package dom's own Idom. -/
import Derived.Test.YtgaacdnljkildaaMG
import Derived.Test.YtgaacdnljkildaaLH
namespace Go.Proofs.Ytgaacdnljkildaa
open Go.RowKit
open Dm

theorem ups_of {G : Dg} {par hi : Nat → Nat} (T : Tr G par hi) {res : List Int} (hl : res.length = G.N) (h : ∀ n, n < G.N → G.Up n (res.getD n 0)) : Ups G res :=
  ⟨hl, h, fun n hn => by
    rcases h n hn with ⟨e, _⟩ | ⟨a, e, hI⟩
    · omega
    · have := (T.domAnc hI.d).1
      have := hI.ne
      omega⟩
theorem vz_frm {N : Nat} {cl : Int} {su : Nat → List Int} {f : Nat} (h0 : isN N cl 0) (hf : N < 1 + f) : ∀ m, 0 < m → m < (vz N cl su f ws0 0).nodes.length → (vz N cl su f ws0 0).frm.getD m 0 = (parN (vz N cl su f ws0 0) m : Int) := by
  obtain ⟨hi, k, _⟩ := vz_ok N cl su f ws0 0 (ws0_wf h0) (by simp [ws0]) (by simpa [ws0] using hf)
  intro m h1 h2
  have hs : ws0.nodes.length = 1 := rfl
  obtain ⟨p, e1, _⟩ := k.nw m (by omega) h2
  unfold parN
  omega
theorem wkS_tree {g : List (List Int)} (hN : g.length ≤ 1000) : ∃ hi, Tr (gN (fun i => g.getD i []) (wkS g (-1))) (parN (wkS g (-1))) hi ∧ ∀ m, 0 < m → m < (wkS g (-1)).nodes.length → (wkS g (-1)).frm.getD m 0 = (parN (wkS g (-1)) m : Int) := by
  unfold wkS
  by_cases h : isN g.length (-1) 0
  · rw [if_pos h]
    obtain ⟨hi, T⟩ := tree_ok (su := fun i => g.getD i []) (f := 1001) h (by omega)
    exact ⟨hi, T, vz_frm h (by omega)⟩
  · rw [if_neg h]
    exact ⟨fun _ => 0, ⟨fun i j e => e.1, fun m _ h => absurd h (Nat.not_lt_zero _), fun m h => absurd h (Nat.not_lt_zero _), fun m _ h => absurd h (Nat.not_lt_zero _), fun m _ h => absurd h (Nat.not_lt_zero _), fun a z e => absurd e.1 (Nat.not_lt_zero _)⟩, fun m _ h => absurd h (Nat.not_lt_zero _)⟩
/-- Idom's loop -/
structure Is (w w1 W : World) (gl gr N M : Nat) (l res : List Int) : Prop where
  ol : W.ownsRow w.heap.size 3 1 (.slice (some ⟨gl, 0, none⟩) N N) N (intsV l)
  or : W.ownsRow w.heap.size 3 1 (.slice (some ⟨gr, 0, none⟩) M M) M (intsV res)
  bl : Below w1.heap.size w1 W
theorem Is.set {w w1 W : World} {gl gr N M : Nat} {l res : List Int} (h : Is w w1 W gl gr N M l res) (hne : gl ≠ gr) (hgl : w1.heap.size ≤ gl) (i : Nat) (x : Int) : Is w w1 (W.setCell ⟨gl, i, none⟩ (.int .i64 x)) gl gr N M (l.set i x) res := by
  refine ⟨?_, own_setOther (a := ⟨gl, i, none⟩) h.or (fun e => hne (by injection e with e; exact e.symm)), h.bl.setCell (p := ⟨gl, i, none⟩) hgl _⟩
  rw [← intsV_set]
  exact (h.ol.stored i _).1
theorem Is.drew {w w1 W : World} {gl gr N M : Nat} {l res : List Int} (h : Is w w1 W gl gr N M l res) : Is w w1 W.drew gl gr N M l res :=
  ⟨h.ol.drew, h.or.drew, h.bl.drew⟩
set_option maxRecDepth 100000 in
set_option maxHeartbeats 4000000 in
theorem sidom_any (q : Option Addr) (qc : Nat) (g : List (List Int)) (w : World) (h : GsAt w q g) (hN : g.length ≤ 60) (hT : tot g ≤ 1048576) (hW : Wd g) : Calls Try.prog 16 #[.slice q g.length qc] w (NumsQ (idomL g) w) := by
  have H1 : Hid (∀ W, Below w.heap.size w W → Calls Try.prog 21 #[.slice q g.length qc, .int .i64 (-1)] W (WkP W (wkS g (-1)))) := Lib.hid (fun W hb => swalk_any q qc g (-1) W (h.below hb) (by omega) hT)
  have hwf := wkS_wf (g := g) (cl := -1) (by omega)
  have HNM := Lib.hid (wkS_nm (g := g) (by omega))
  obtain ⟨hi, hTr, hfr⟩ := wkS_tree (g := g) (by omega)
  have HD : Hid (∀ W l gl, Il g (wkS g (-1)) (wkS g (-1)).nodes.length l → W.ownsRow w.heap.size 3 1 (.slice (some ⟨gl, 0, none⟩) g.length g.length) g.length (intsV l) → Below w.heap.size w W → NumsQ (idomL g) w (.returned (.slice (some ⟨gl, 0, none⟩) g.length g.length)) W) := Lib.hid (fun W l gl h1 h2 h3 => by
    have hl := h1.ln
    have e := h1.done HNM.out
    rw [← hl] at h2 ⊢
    rw [← e]
    exact ⟨_, _, rfl, own_nums h2 (by omega), h3⟩)
  generalize NumsQ (idomL g) w = Q at *
  obtain ⟨S, hS⟩ : ∃ S, wkS g (-1) = S := ⟨_, rfl⟩
  rw [hS] at H1 HNM HD hwf hTr hfr
  have HNM' := HNM
  have HTR := Lib.hid hTr
  have HPR : Hid (∀ W b, Below w.heap.size w W → Tt w.heap.size W b S → Calls Try.prog 23 #[.pointer (some ⟨b, 0, none⟩), .slice q g.length qc] W (PrP W (fun i => g.getD i []) S)) := Lib.hid (fun W b hb ht => spreds_any q qc g W (h.below hb) hN hT hW ht HNM.out.nd HNM.out.lt (by omega))
  have HAB : Hid (∀ W B' b gp r P C, Tt w.heap.size W b S → Sr B' W gp (List.range S.nodes.length) r P C → (∀ j, j < S.nodes.length → ∀ x, x ∈ r j ↔ ∃ p : Nat, x = (p : Int) ∧ (gN (fun i => g.getD i []) S).e p j) → (∀ j, (r j).length ≤ 134217728) → Calls Try.prog 24 #[.pointer (some ⟨b, 0, none⟩), .slice (some ⟨gp, 0, none⟩) S.nodes.length S.nodes.length] W (AbQ W (gN (fun i => g.getD i []) S))) := Lib.hid (fun W B' b gp r P C ht hp hr hl =>
    sabove_any (G := gN (fun i => g.getD i []) S) HTR.out W ht hwf.2.1 hfr hp hr hl (by show S.nodes.length ≤ _; omega))
  have HUP : Hid (∀ res, res.length = S.nodes.length → (∀ n, n < S.nodes.length → (gN (fun i => g.getD i []) S).Up n (res.getD n 0)) → Ups (gN (fun i => g.getD i []) S) res) := Lib.hid (fun res h1 h2 => ups_of HTR.out h1 h2)
  obtain ⟨M, hM⟩ : ∃ M, S.nodes.length = M := ⟨_, rfl⟩
  have HMD := Lib.hid hM
  have HML : Hid ((S.nodes.map Int.ofNat).length = M) := Lib.hid ((List.length_map ..).trans hM)
  obtain ⟨N, hNl⟩ : ∃ N, g.length = N := ⟨_, rfl⟩
  have HNL := Lib.hid hNl
  have hMN := hwf.1
  have HI0 := Lib.hid (Il.start g S)
  have HLT : Hid (∀ k, k < M → S.nodes.getD k 0 < N ∧ (S.nodes.map Int.ofNat).getD k 0 = ((S.nodes.getD k 0 : Nat) : Int)) := Lib.hid (fun k hk => ⟨by rw [← HNL.out]; exact HNM.out.lt _ (getD_memN (by rw [HMD.out]; exact hk)), by
    rw [List.getD_eq_getElem?_getD, List.getD_eq_getElem?_getD, List.getElem?_map, List.getElem?_eq_getElem (by rw [HMD.out]; exact hk)]; rfl⟩)
  have HREP : Hid (∀ (k : Nat) (W : World), W.heap[k]? = some (.cells #[.int .i64 (-1)] 3 (0, 0)) → Calls Try.prog 25 #[.slice (some ⟨k, 0, none⟩) 1 1, .int .i64 (N : Int)] W fun e w' => ∃ g, e = .returned (.slice (some ⟨g, 0, none⟩) N N) ∧ W.heap.size ≤ g ∧ w'.heap[g]? = some (.cells (rpc (-1) N N).toArray 3 (0, 0)) ∧ Below W.heap.size W w') := Lib.hid (fun k W h => rep_any _ 1 (-1) N W (by omega) ⟨by simp, fun i hi => ⟨k, 0, rfl, (Array.getElem?_eq_some_iff.1 h).1, by
    have : i = 0 := by simpa using hi
    subst this
    simp [World.cell?, h]⟩⟩)
  have HN9 : Hid (∀ W : World, (W.alloc (.cells #[.int .i64 (-1)] 3)).heap[W.heap.size]? = some (.cells #[.int .i64 (-1)] 3 (0, 0))) := Lib.hid (fun W => heap_new _ _)
  have HWK := Lib.hid (H1.out w (Below.refl _ _))
  unfold WkP at HWK
  unfold PrP at HPR
  unfold AbQ at HAB
  have hGN : (gN (fun i => g.getD i []) S).N = S.nodes.length := rfl
  rw [hGN] at HAB
  rw [hM] at HPR HAB HUP HD hMN
  rw [hNl] at HWK HPR HD HI0 hMN hN ⊢
  clear h hwf hTr hfr hW hT hS hM hNl H1 hGN
  go_enter Try.func16, Try.ntmps16
  go_wp2_with (first
    | (go_at_call 21; (with_reducible refine HWK.out.mono ?_); rintro e w1 ⟨b, ql, cq, rfl, _, htt, _, _, hb1⟩; have HTT := Lib.hid htt; have HB1 := Lib.hid hb1; clear htt hb1)
    | (go_at_call 25; (with_reducible refine (HREP.out _ _ (HN9.out _)).mono ?_); rintro e w2 ⟨gl, rfl, hgl, hu, hb2⟩; have HB2 := Lib.hid ((b1 (w := w1)).trans (hb2.mono (by simp))); have HGL : Hid (w1.heap.size ≤ gl) := Lib.hid (by simp at hgl; omega); have HU := Lib.hid hu; have HBW2 : Hid (Below w.heap.size w w2) := Lib.hid (HB1.out.trans (HB2.out.mono HB1.out.size)); have HT2 := Lib.hid (HTT.out.next HB2.out); clear hgl hu hb2)
    | (go_at_call 23; (with_reducible refine (HPR.out _ _ HBW2.out HT2.out).mono ?_); rintro e w3 ⟨gp, r, P, C, rfl, _, hp, hr, hln, hb3⟩; have HP := Lib.hid hp; have HR := Lib.hid hr; have HLN := Lib.hid hln; have HB3 := Lib.hid hb3; have HT3 := Lib.hid (HT2.out.next hb3); clear hp hr hln hb3)
    | (go_at_call 24; (with_reducible refine (HAB.out _ _ _ _ _ _ _ HT3.out HP.out HR.out HLN.out).mono ?_); rintro e w4 ⟨gr, res, rfl, hor, hrl, hup, hb4⟩; have HOR := Lib.hid hor; have HRL := Lib.hid hrl; have HU4 := Lib.hid (HUP.out res hrl hup); have HB4 := Lib.hid hb4; clear hor hrl hup hb4))
  have hglr : gl ≠ gr := fun e => by
    have h1 := (Array.getElem?_eq_some_iff.1 HU.out).1
    have h2 := HB3.out.size
    have h3 := (HOR.out.lt gr rfl).1
    omega
  have HIS0 : Hid (Is w w1 w4 gl gr N M (List.replicate N (-1)) res) := Lib.hid (by
    have h4 : w4.heap[gl]? = some (.cells (rpc (-1) N N).toArray 3 (0, 0)) := below_heap HB4.out (below_heap HB3.out HU.out)
    have s1 := HB1.out.size
    have s2 := HBW2.out.size
    have s3 := HB3.out.size
    have ho := own_heap (W := w4) (base := w.heap.size) (N := N) (l := List.replicate N (-1)) (by have := HGL.out; omega) h4 (by rw [rpc_ints]) (by simp) (by omega)
    rw [List.length_replicate] at ho
    exact ⟨ho, own_low HOR.out (by omega), (HB2.out.trans (HB3.out.mono HB2.out.size)).trans (HB4.out.mono (Nat.le_trans HB2.out.size s3))⟩)
  clear HREP HN9 HPR HAB HWK HUP HP HR HLN HT2 HT3 HU HOR HB3 HB4 HBW2
  go_loopw [19] (fun u wr => ∃ (k : Nat) (l : List Int), k ≤ M ∧ u = .int .i64 (k : Int) ∧ Hid (Il g S k l) ∧ Hid (Is w w1 wr gl gr N M l res)) (fun u _ => M - (RowKit.intOf u).toNat)
  case atStart => exact ⟨0, _, Nat.zero_le _, rfl, HI0, HIS0⟩
  case round =>
    clear HIS0 HI0
    obtain ⟨k, l, hk, rfl, HIL, HIS⟩ := hrel
    by_cases hkM : k < M
    · have hkS : k < S.nodes.length := by rw [HMD.out]; exact hkM
      have r1 := HIS.out.or.cellAt k (by omega)
      rw [intsV_get (by rw [HRL.out]; exact hkM)] at r1
      obtain ⟨a, ha⟩ : ∃ a, res.getD k 0 = a := ⟨_, rfl⟩
      rw [ha] at r1
      by_cases h1 : a = -1
      · subst h1
        have HIN := Lib.hid (HIL.out.skip HNM.out HU4.out hkS ha)
        clear ha
        go_wp2_with fail
        go_roundw
        case rel => exact ⟨k + 1, _, by omega, rfl, HIN, HIS⟩
        case measure => (simp [RowKit.intOf]) <;> omega
      · have hd : (a != -1) = true := by simpa using h1
        obtain ⟨u, eu, hu, hil⟩ := HIL.out.put HNM.out HU4.out hkS (by rw [ha]; exact h1)
        obtain rfl : a = (u : Int) := by omega
        rw [HMD.out] at hu
        have HIN := Lib.hid hil
        have htt := HTT.out.next HIS.out.bl
        have lbt := htt.bl
        obtain ⟨q1, c1, d1, n1, _⟩ := htt.r1
        rw [HMD.out] at d1
        obtain ⟨b5, o5, rfl, hl5, e5⟩ := n1.cells k (by rw [HML.out]; exact hkM)
        obtain ⟨b6, o6, e6, hl6, c6⟩ := n1.cells u (by rw [HML.out]; exact hu)
        injection e6 with e6
        injection e6 with x1 x2
        subst x1 x2
        have hxk := HLT.out k hkM
        have hxu := HLT.out u hu
        rw [hxk.2] at e5
        rw [hxu.2] at c6
        have hxN := hxk.1
        have hll : l.length = N := by rw [HIL.out.ln]; exact HNL.out
        have t1 := HIS.out.ol.cellAt (S.nodes.getD k 0) (by omega)
        rw [intsV_get (by rw [hll]; exact hxN)] at t1
        have z1 := HIS.out.ol.frozenAt (S.nodes.getD k 0)
        obtain ⟨nk, hnk⟩ : ∃ x, S.nodes.getD k 0 = x := ⟨_, rfl⟩
        obtain ⟨nu, hnu⟩ : ∃ x, S.nodes.getD u 0 = x := ⟨_, rfl⟩
        rw [hnk] at e5 t1 z1 HIN hxN
        rw [hnu] at c6 HIN
        clear ha eu hil htt n1 hxk hxu hll hnk hnu
        go_wp2_with fail
        go_region
        all_goals go_wp2_with fail
        all_goals go_roundw
        all_goals first
          | exact ⟨k + 1, _, by omega, rfl, HIN, Lib.hid ((HIS.out.set hglr HGL.out nk (nu : Int)).drew)⟩
          | ((simp [RowKit.intOf]) <;> omega)
    · obtain rfl : M = k := by omega
      have HF : Hid (Q (.returned (.slice (some ⟨gl, 0, none⟩) N N)) wr) := Lib.hid (HD.out wr l gl HIL.out HIS.out.ol (HB1.out.trans (HIS.out.bl.mono HB1.out.size)))
      clear HIL HIS
      go_wp2_with fail
      exact HF.out
end Go.Proofs.Ytgaacdnljkildaa
