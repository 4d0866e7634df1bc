/- Dominance: what a walk met, in the words of dominance; package dom's own Reach, Dominates, Order. -/
import Derived.Test.YtgaacdnljkildaaLG
import Derived.Test.YtgaacdnljkildaaGK
import Derived.Test.YtgaacdnljkildaaDL
import Derived.Test.YtgaacdnljkildaaShelf
namespace Go.Proofs.Ytgaacdnljkildaa
open Go.RowKit
open Dm

theorem isN0 {N : Nat} {cl : Int} : isN N cl 0 ↔ 0 < N ∧ cl ≠ 0 := by unfold isN; constructor <;> intro h <;> omega
theorem wkS_mem {g : List (List Int)} {cl : Int} (hN : g.length ≤ 1000) (b : Nat) : b ∈ (wkS g cl).nodes ↔ (gL g).Av (fun x => (x : Int) = cl) b := by
  unfold wkS
  by_cases h : isN g.length cl 0
  · rw [if_pos h]; exact vz_mem h (by omega) b
  · rw [if_neg h]
    constructor
    · intro c; cases c
    · intro c
      exfalso
      rw [isN0] at h
      have hl := c.lt
      have e : (gL g).N = g.length := rfl
      have hc : cl = 0 := Classical.byContradiction fun k => h ⟨by omega, k⟩
      have : ∀ b, ¬ (gL g).Av (fun x => (x : Int) = cl) b := by
        intro b hb
        induction hb with
        | zero _ h1 => exact h1 (by omega)
        | step _ _ _ ih => exact ih
      exact this b c
theorem wkS_nm {g : List (List Int)} (hN : g.length ≤ 1000) : Nm g.length (fun i => g.getD i []) (wkS g (-1)) := by
  unfold wkS
  by_cases h : isN g.length (-1) 0
  · rw [if_pos h]; exact nm_ok (by rw [isN0] at h; exact h.1) (by omega)
  · rw [if_neg h]
    have e : g.length = 0 := by rw [isN0] at h; omega
    rw [e]; exact nm_no
theorem wkS_left {g : List (List Int)} (hN : g.length ≤ 1000) : ordL g = (wkS g (-1)).left.reverse.map Int.ofNat := by
  unfold wkS ordL
  by_cases h : isN g.length (-1) 0
  · rw [if_pos h, ord_left (f := 1001) (by rw [isN0] at h; exact h.1) (by omega)]
  · rw [if_neg h]
    have e : g.length = 0 := by rw [isN0] at h; omega
    rw [e]; rfl
theorem wkS_wf {g : List (List Int)} {cl : Int} (hN : g.length ≤ 1000) : (wkS g cl).nodes.length ≤ g.length ∧ (wkS g cl).frm.length = (wkS g cl).nodes.length ∧ (wkS g cl).left.length ≤ g.length + 1 := by
  unfold wkS
  by_cases h : isN g.length cl 0
  · rw [if_pos h]
    have h2 := vz_len (su := fun i => g.getD i []) (f := 1001) (i := 0) (ws0_wf h) (by simp [ws0]) (by simp [ws0]; omega)
    have h3 := vz_left g.length cl (fun i => g.getD i []) 1001 ws0 0
    have h4 := h2.2.le
    have h5 : ws0.nodes.length = 1 ∧ ws0.left.length = 0 := ⟨rfl, rfl⟩
    exact ⟨h4, h2.2.lf, by omega⟩
  · rw [if_neg h]; exact ⟨by simp, rfl, by simp⟩
/-- to close a node that one cannot come to closes no way -/
theorem dom_is {g : List (List Int)} (hN : g.length ≤ 1000) (a b : Int) : domB g a b = (decide (0 ≤ b ∧ b.toNat ∈ (wkS g (-1)).nodes) && !decide (0 ≤ b ∧ b.toNat ∈ (wkS g a).nodes)) := by
  classical
  have h1 := wkS_mem (cl := -1) hN b.toNat
  have h2 := wkS_mem (cl := a) hN b.toNat
  rw [Dm.av_r] at h1
  by_cases hb : 0 ≤ b
  · have key : domB g a b = true ↔ (gL g).R b.toNat ∧ ¬ (gL g).Av (fun x => (x : Int) = a) b.toNat := by
      unfold domB
      rw [decide_eq_true_eq]
      constructor
      · rintro ⟨ha, _, hd⟩
        refine ⟨hd.2.1, fun hw => ?_⟩
        have ha' : a = (a.toNat : Int) := by omega
        rw [ha', Dm.av_w] at hw
        rcases hd.2.2 with e | e
        · rw [← e] at hw; exact Dg.Av.no (S := fun x => x = a.toNat) hw rfl
        · exact e hw
      · rintro ⟨hr, hw⟩
        have hra : 0 ≤ a ∧ (gL g).R a.toNat := by
          refine Classical.byContradiction fun hn => hw ?_
          have : ∀ c, (gL g).R c → (gL g).Av (fun x => (x : Int) = a) c := by
            intro c hc
            have hne : ∀ c, (gL g).R c → ¬ (c : Int) = a := fun c hc e => hn ⟨by omega, by rw [show a.toNat = c by omega]; exact hc⟩
            induction hc with
            | zero h0 h => exact .zero h0 (hne 0 (.zero h0 h))
            | @step i j hi he h ih => exact .step ih he (hne j (.step hi he h))
          exact this _ hr
        refine ⟨hra.1, hb, hra.2, hr, ?_⟩
        by_cases e : a.toNat = b.toNat
        · exact .inl e
        · right
          intro k
          apply hw
          have ha' : a = (a.toNat : Int) := by omega
          rw [ha', Dm.av_w]; exact k
    rw [Bool.eq_iff_iff, key, Bool.and_eq_true, Bool.not_eq_true', decide_eq_true_eq, decide_eq_false_iff_not, h1, h2]
    constructor
    · rintro ⟨k1, k2⟩; exact ⟨⟨hb, k1⟩, fun c => k2 c.2⟩
    · rintro ⟨k1, k2⟩; exact ⟨k1.2, fun c => k2 ⟨hb, c⟩⟩
  · rw [decide_eq_false (fun c : 0 ≤ b ∧ _ => hb c.1)]
    unfold domB
    rw [decide_eq_false (fun c : 0 ≤ a ∧ 0 ≤ b ∧ _ => hb c.2.1)]
    rfl
set_option maxRecDepth 100000 in
theorem smet_t {W : World} {b B : Nat} {S : Ws} (h : Tt B W b S) (x : Int) (hx : (lit x).wf = true) : Calls Try.prog 22 #[.pointer (some ⟨b, 0, none⟩), .int .i64 x] W fun e w' => e = .returned (.bool (decide (0 ≤ x ∧ x.toNat ∈ S.nodes))) ∧ W = w' := by
  obtain ⟨m, n, f, c0, hm, hf, _⟩ := h.mp
  have hbl := h.bl
  have HM := Lib.hid hm
  cases hfx : f x with
  | none =>
    have e : decide (0 ≤ x ∧ x.toNat ∈ S.nodes) = false := decide_eq_false (fun c => by
      obtain ⟨k, hk, e⟩ := getD_of_mem c.2
      have := hf.is k hk
      rw [show ((S.nodes.getD k 0 : Nat) : Int) = x by omega, hfx] at this
      cases this)
    rw [e]
    clear h hf hm e
    go_enter Try.func22, Try.ntmps22
    go_wp2_with (at_lookup; refine wpList_mp_look_no rfl _ _ rfl m n f x rfl rfl HM.out hx hfx ?_; intro c1)
    go_ret
    exact ⟨rfl, rfl⟩
  | some y =>
    have e : decide (0 ≤ x ∧ x.toNat ∈ S.nodes) = true := decide_eq_true (by
      obtain ⟨k, hk, e, _⟩ := hf.some_iff hfx
      exact ⟨by omega, by rw [show x.toNat = S.nodes.getD k 0 by omega]; exact getD_memN hk⟩)
    rw [e]
    clear h hf hm e
    go_enter Try.func22, Try.ntmps22
    go_wp2_with (at_lookup; refine wpList_mp_look_ok rfl _ _ rfl m n f x y rfl rfl HM.out hx hfx ?_)
    go_ret
    exact ⟨rfl, rfl⟩
set_option maxRecDepth 100000 in
set_option maxHeartbeats 1000000 in
theorem sdom_all (q : Option Addr) (qc : Nat) (g : List (List Int)) (a b : Int) (w : World) (h : GsAt w q g) (hN : g.length ≤ 60) (hb : (lit b).wf = true) : Calls Try.prog 11 #[.slice q g.length qc, .int .i64 a, .int .i64 b] w fun e w' => e = .returned (.bool (domB g a b)) ∧ Below w.heap.size w w' := by
  have H1 := Lib.hid (fun W (hW : Below w.heap.size w W) cl => swalk_all q qc g cl W (h.below hW) (by omega))
  have H2 := Lib.hid (fun B W b' cl (hW : Tt B W b' (wkS g cl)) => smet_t hW b hb)
  rw [dom_is (by omega)]
  unfold WkP at H1
  have HA := Lib.hid (H1.out w (Below.refl _ _) (-1))
  have HB0 := Lib.hid (Below.refl w.heap.size w)
  cases ht1 : decide (0 ≤ b ∧ b.toNat ∈ (wkS g (-1)).nodes) with
  | false =>
    rw [Bool.false_and]
    clear h
    go_enter Try.func11, Try.ntmps11
    go_wp2_with (first
      | (go_at_call 21; (with_reducible refine HA.out.mono ?_); rintro e w1 ⟨b1, ql, cq, rfl, _, htt, _, _, hb1⟩; have HM := Lib.hid (H2.out _ w1 b1 _ htt); rw [ht1] at HM; have HB1 := Lib.hid hb1; clear htt hb1)
      | (go_at_call 22; (with_reducible refine HM.out.mono ?_); rintro e w2 ⟨rfl, rfl⟩))
    go_ret
    exact ⟨rfl, HB1.out⟩
  | true =>
    rw [Bool.true_and]
    cases ht2 : decide (0 ≤ b ∧ b.toNat ∈ (wkS g a).nodes) with
    | false =>
      clear h
      go_enter Try.func11, Try.ntmps11
      go_wp2_with (first
        | (go_at_call 21; (with_reducible refine HA.out.mono ?_); clear HA; rintro e w1 ⟨b1, ql, cq, rfl, _, htt, _, _, hb1⟩; have HM := Lib.hid (H2.out _ w1 b1 _ htt); rw [ht1] at HM; have HB1 := Lib.hid hb1; have HC := Lib.hid (H1.out w1 hb1 a); clear htt hb1)
        | (go_at_call 22; (with_reducible refine HM.out.mono ?_); clear HM; rintro e w2 ⟨rfl, rfl⟩)
        | (go_at_call 21; (with_reducible refine HC.out.mono ?_); clear HC; rintro e w3 ⟨b3, ql, cq, rfl, _, htt, _, _, hb3⟩; have HM3 := Lib.hid (H2.out _ w3 b3 _ htt); rw [ht2] at HM3; have HB3 := Lib.hid (HB1.out.trans (hb3.mono HB1.out.size)); clear htt hb3)
        | (go_at_call 22; (with_reducible refine HM3.out.mono ?_); clear HM3; rintro e w4 ⟨rfl, rfl⟩))
      go_ret
      exact ⟨rfl, HB3.out⟩
    | true =>
      clear h
      go_enter Try.func11, Try.ntmps11
      go_wp2_with (first
        | (go_at_call 21; (with_reducible refine HA.out.mono ?_); clear HA; rintro e w1 ⟨b1, ql, cq, rfl, _, htt, _, _, hb1⟩; have HM := Lib.hid (H2.out _ w1 b1 _ htt); rw [ht1] at HM; have HB1 := Lib.hid hb1; have HC := Lib.hid (H1.out w1 hb1 a); clear htt hb1)
        | (go_at_call 22; (with_reducible refine HM.out.mono ?_); clear HM; rintro e w2 ⟨rfl, rfl⟩)
        | (go_at_call 21; (with_reducible refine HC.out.mono ?_); clear HC; rintro e w3 ⟨b3, ql, cq, rfl, _, htt, _, _, hb3⟩; have HM3 := Lib.hid (H2.out _ w3 b3 _ htt); rw [ht2] at HM3; have HB3 := Lib.hid (HB1.out.trans (hb3.mono HB1.out.size)); clear htt hb3)
        | (go_at_call 22; (with_reducible refine HM3.out.mono ?_); clear HM3; rintro e w4 ⟨rfl, rfl⟩))
      go_ret
      exact ⟨rfl, HB3.out⟩
/-! Reach -/
/-- bools lie in memory -/
structure BlsAt (w : World) (q : Option Addr) (l : List Bool) : Prop where
  cells : ∀ i, i < l.length → ∃ b off, q = some ⟨b, off, none⟩ ∧ b < w.heap.size ∧ w.cell? ⟨b, off + i, none⟩ = some (.bool (l.getD i false))
theorem BlsAt.below {w w' : World} {q : Option Addr} {l : List Bool} (h : BlsAt w q l) (hb : Below w.heap.size w w') : BlsAt w' q l :=
  ⟨fun i hi => by
    obtain ⟨b, off, hq, hl, hc⟩ := h.cells i hi
    exact ⟨b, off, hq, Nat.lt_of_lt_of_le hl hb.size, (hb.cell (p := ⟨b, off + i, none⟩) hl).trans hc⟩⟩
def BlsQ (l : List Bool) (w : World) (e : Ending) (w' : World) : Prop :=
  ∃ p c, e = .returned (.slice p l.length c) ∧ BlsAt w' p l ∧ Below w.heap.size w w'
def lrk (N : Nat) (l : List Nat) (k : Nat) : List Bool := (List.range N).map fun b => decide (b ∈ l.take k)
theorem lrk_len (N : Nat) (l : List Nat) (k : Nat) : (lrk N l k).length = N := by simp [lrk]
theorem lrk_at (N : Nat) (l : List Nat) (k : Nat) {b : Nat} (hb : b < N) : (lrk N l k).getD b false = decide (b ∈ l.take k) := getD_map_range _ _ _ _ hb
theorem lrk_zero (N : Nat) (l : List Nat) : lrk N l 0 = List.replicate N false := by
  refine bools_ext (by simp [lrk_len]) fun i hi => ?_
  rw [lrk_len] at hi
  rw [lrk_at _ _ _ hi, rep_get]; simp
theorem lrk_succ {N : Nat} {l : List Nat} {k : Nat} (hk : k < l.length) : (lrk N l k).set (l.getD k 0) true = lrk N l (k + 1) := by
  refine bools_ext (by simp [lrk_len]) fun i hi => ?_
  rw [List.length_set, lrk_len] at hi
  rw [getD_set_t, lrk_at _ _ _ hi, lrk_at _ _ _ hi, lrk_len, List.take_add_one, List.getElem?_eq_getElem hk, List.getD_eq_getElem?_getD, List.getElem?_eq_getElem hk]
  rw [Bool.eq_iff_iff]
  simp only [Bool.or_eq_true, decide_eq_true_eq, List.mem_append, Option.toList_some, List.mem_singleton, Option.getD_some]
  constructor
  · rintro (⟨e, _⟩ | c)
    · exact .inr e
    · exact .inl c
  · rintro (c | e)
    · exact .inr c
    · exact .inl ⟨e, by omega⟩
theorem lrk_done {g : List (List Int)} (hN : g.length ≤ 1000) : lrk g.length (wkS g (-1)).nodes (wkS g (-1)).nodes.length = reachB g := by
  refine bools_ext (by rw [lrk_len, reachB_len]) fun i hi => ?_
  rw [lrk_len] at hi
  rw [lrk_at _ _ _ hi, Bool.eq_iff_iff, reachB_at hi, decide_eq_true_eq, List.take_length, wkS_mem hN, Dm.av_r]
set_option maxRecDepth 100000 in
set_option maxHeartbeats 2000000 in
theorem sreach_all (q : Option Addr) (qc : Nat) (g : List (List Int)) (w : World) (h : GsAt w q g) (hN : g.length ≤ 60) : Calls Try.prog 10 #[.slice q g.length qc] w (BlsQ (reachB g) w) := by
  have H1 := Lib.hid (fun W (hW : Below w.heap.size w W) cl => swalk_all q qc g cl W (h.below hW) (by omega))
  unfold WkP at H1
  have hwf := (wkS_wf (g := g) (cl := -1) (by omega)).1
  have hnm := wkS_nm (g := g) (by omega)
  have HD : Hid (∀ W, Rb W w.heap.size (lrk g.length (wkS g (-1)).nodes (wkS g (-1)).nodes.length) → Below w.heap.size w W → BlsQ (reachB g) w (.returned (.slice (some ⟨w.heap.size, 0, none⟩) g.length g.length)) W) := Lib.hid (fun W h1 h2 => by
    rw [lrk_done (by omega)] at h1
    refine ⟨_, _, by rw [reachB_len], ⟨fun i hi => ⟨_, 0, rfl, h1.lt, ?_⟩⟩, h2⟩
    rw [Nat.zero_add]; exact h1.cell i hi)
  generalize BlsQ (reachB g) w = Q at *
  have HLT : Hid (∀ k, k < (wkS g (-1)).nodes.length → (wkS g (-1)).nodes.getD k 0 < g.length) := Lib.hid (fun k hk => hnm.lt _ (getD_memN hk))
  obtain ⟨S, hS⟩ : ∃ S, wkS g (-1) = S := ⟨_, rfl⟩
  have HW := Lib.hid (H1.out (w.alloc (.cells (madeCells #[.bool false] g.length) 4)) b1 (-1))
  rw [hS] at HD HLT HW hwf
  obtain ⟨N, hNl⟩ : ∃ N, g.length = N := ⟨_, rfl⟩
  rw [hNl] at HD HLT HW hN hwf ⊢
  have HR0 := Lib.hid (rb_new w N)
  obtain ⟨M, hM⟩ : ∃ M, S.nodes.length = M := ⟨_, rfl⟩
  have HML : Hid (S.nodes.length = M ∧ (S.nodes.map Int.ofNat).length = M) := Lib.hid ⟨hM, (List.length_map ..).trans hM⟩
  rw [hM] at HD HLT hwf
  have hmk := fun W => run_make_row' (P := Try.prog) 25 4 (.bool false) 1 Try.underlying25 infoBool rfl .i64 .i64 N (by omega) (by omega) W
  have HLS := Lib.hid (fun k (hk : k < M) => lrk_succ (N := N) (l := S.nodes) (k := k) (by rw [hM]; exact hk))
  have HL0 := Lib.hid (lrk_zero N S.nodes)
  have HLN := Lib.hid (fun k => lrk_len N S.nodes k)
  generalize lrk N S.nodes = L at *
  clear h hnm hS hNl hM H1
  go_enter Try.func10, Try.ntmps10
  go_wp2_with (go_at_call 21; (with_reducible refine HW.out.mono ?_); rintro e w1 ⟨b, ql, cq, rfl, _, htt, _, _, hb1⟩; obtain ⟨q1, c1, d1, n1, k1⟩ := htt.r1; rw [HML.out.1] at d1; have dl := htt.bl; have HN1 := Lib.hid n1; have HK1 := Lib.hid k1; have HB1 := Lib.hid hb1; clear htt n1 k1 hb1)
  have HRB := Lib.hid (HR0.out.next HB1.out)
  have HB2 : Hid (Below w.heap.size w w1) := Lib.hid (b1.trans (HB1.out.mono (by simp)))
  go_loopw [15] (fun v wr => ∃ k : Nat, k ≤ M ∧ v = .int .i64 (k : Int) ∧ Rb wr w.heap.size (L k) ∧ NumsAt .i64 wr q1 (S.nodes.map Int.ofNat) ∧ Below w.heap.size w wr) (fun v _ => M - (RowKit.intOf v).toNat)
  case atStart => exact ⟨0, Nat.zero_le _, rfl, by rw [HL0.out]; exact HRB.out, HN1.out, HB2.out⟩
  case round =>
    clear d1 dl
    obtain ⟨k, hk, rfl, hrb, hn1, hb⟩ := hrel
    have HRK := Lib.hid hrb
    have HNK := Lib.hid hn1
    have HBK := Lib.hid hb
    by_cases hkM : k < M
    · obtain ⟨b5, o5, rfl, hl5, e5⟩ := hn1.cells k (by rw [HML.out.2]; exact hkM)
      have hx := HLT.out k hkM
      have e6 : (S.nodes.map Int.ofNat).getD k 0 = ((S.nodes.getD k 0 : Nat) : Int) := by
        rw [List.getD_eq_getElem?_getD, List.getD_eq_getElem?_getD, List.getElem?_map]
        rw [List.getElem?_eq_getElem (by rw [HML.out.1]; exact hkM)]; rfl
      rw [e6] at e5
      have HS := Lib.hid (HLS.out k hkM)
      have rc := hrb.cell (S.nodes.getD k 0) (by rw [HLN.out]; exact hx)
      have rf := hrb.fr (S.nodes.getD k 0)
      have rl := hrb.lt
      have HR2 := Lib.hid (hrb.set (k := S.nodes.getD k 0) (by rw [HLN.out]; exact hx))
      have HN2 := Lib.hid (HNK.out.grownB (B := w.heap.size + 1) (fun ad e => by have := HK1.out ad e; simpa using this) (set_grown wr ⟨w.heap.size, S.nodes.getD k 0, none⟩ (.bool true)) (fun k e => by injection e with e; have : w.heap.size = k := e; omega))
      have HB3 := Lib.hid (HBK.out.setCell (p := ⟨w.heap.size, S.nodes.getD k 0, none⟩) (Nat.le_refl _) (.bool true))
      clear hrb hn1 hb e6
      generalize S.nodes.getD k 0 = x at *
      go_wp2_with fail
      go_roundw
      case rel => exact ⟨k + 1, by omega, rfl, by rw [← HS.out]; exact HR2.out, HN2.out, HB3.out⟩
      case measure => simp [RowKit.intOf]; omega
    · obtain rfl : M = k := by omega
      clear hrb hn1 hb
      go_wp2_with fail
      exact HD.out _ HRK.out HBK.out
theorem sdom_any (q : Option Addr) (qc : Nat) (g : List (List Int)) (a b : Int) (w : World) (h : GsAt w q g) (hN : g.length ≤ 60) (_ : tot g ≤ 1048576) (hb : (lit b).wf = true) : Calls Try.prog 11 #[.slice q g.length qc, .int .i64 a, .int .i64 b] w fun e w' => e = .returned (.bool (domB g a b)) ∧ Below w.heap.size w w' := sdom_all q qc g a b w h hN hb
theorem sreach_any (q : Option Addr) (qc : Nat) (g : List (List Int)) (w : World) (h : GsAt w q g) (hN : g.length ≤ 60) (_ : tot g ≤ 1048576) : Calls Try.prog 10 #[.slice q g.length qc] w (BlsQ (reachB g) w) := sreach_all q qc g w h hN
end Go.Proofs.Ytgaacdnljkildaa
