/- Dominance: the document's own visit, and Order. -/
import Derived.Test.YtgaacdnljkildaaDH
namespace Go.Proofs.Ytgaacdnljkildaa
open Go.RowKit
open Dm

theorem vis_mono (N : Nat) (su : Nat → List Int) : ∀ (f : Nat) (s : List Bool × List Nat) (x : Int), s.1.length = N → (vis N su f s x).1.length = N ∧ (∀ i, s.1.getD i false = true → (vis N su f s x).1.getD i false = true) ∧ (vis N su f s x).2.length + unmet (vis N su f s x).1 ≤ s.2.length + unmet s.1
  | 0, _, _, h => ⟨h, fun _ h => h, Nat.le_refl _⟩
  | f + 1, s, x, h => by
    have fold : ∀ (xs : List Int) (s : List Bool × List Nat), s.1.length = N → (xs.foldl (vis N su f) s).1.length = N ∧ (∀ i, s.1.getD i false = true → (xs.foldl (vis N su f) s).1.getD i false = true) ∧ (xs.foldl (vis N su f) s).2.length + unmet (xs.foldl (vis N su f) s).1 ≤ s.2.length + unmet s.1 := by
      intro xs
      induction xs with
      | nil => intro s h; exact ⟨h, fun _ h => h, Nat.le_refl _⟩
      | cons x xs ih =>
        intro s h
        obtain ⟨a1, a2, a3⟩ := vis_mono N su f s x h
        obtain ⟨b1, b2, b3⟩ := ih _ a1
        exact ⟨b1, fun i hi => b2 i (a2 i hi), Nat.le_trans b3 a3⟩
    unfold vis
    by_cases hc : 0 ≤ x ∧ x < (N : Int) ∧ s.1.getD x.toNat false = false
    · rw [if_pos hc]
      have hi : x.toNat < s.1.length := by omega
      have hu := unmet_set hi hc.2.2
      obtain ⟨a1, a2, a3⟩ := fold (su x.toNat) (s.1.set x.toNat true, s.2) (by simpa using h)
      refine ⟨a1, fun i hs => a2 i ?_, ?_⟩
      · show (s.1.set x.toNat true).getD i false = true
        rw [getD_set_t, hs, Bool.or_true]
      · simp only [List.length_append, List.length_singleton]
        have a3' : _ ≤ s.2.length + unmet (s.1.set x.toNat true) := a3
        omega
    · rw [if_neg hc]
      exact ⟨h, fun _ h => h, Nat.le_refl _⟩
theorem fold_mono (N : Nat) (su : Nat → List Int) (f : Nat) : ∀ (xs : List Int) (s : List Bool × List Nat), s.1.length = N → (xs.foldl (vis N su f) s).1.length = N ∧ (∀ i, s.1.getD i false = true → (xs.foldl (vis N su f) s).1.getD i false = true) ∧ (xs.foldl (vis N su f) s).2.length + unmet (xs.foldl (vis N su f) s).1 ≤ s.2.length + unmet s.1
  | [], _, h => ⟨h, fun _ h => h, Nat.le_refl _⟩
  | x :: xs, s, h => by
    obtain ⟨a1, a2, a3⟩ := vis_mono N su f s x h
    obtain ⟨b1, b2, b3⟩ := fold_mono N su f xs _ a1
    exact ⟨b1, fun i hi => b2 i (a2 i hi), Nat.le_trans b3 a3⟩
/-- the walk's own memory -/
structure Vs (w W : World) (gw gb N : Nat) (q : Option Addr) (qc : Nat) (s : List Bool × List Nat) (p : Option Addr) (c : Nat) : Prop where
  low : Below w.heap.size w W
  gw0 : w.heap.size ≤ gw
  gwl : gw < W.heap.size
  fz : ∀ j, W.frozen? ⟨gw, j, none⟩ = false
  cl : W.cell? ⟨gw, 0, none⟩ = some (.slice q N qc) ∧ W.cell? ⟨gw, 1, none⟩ = some (.slice (some ⟨gb, 0, none⟩) N N) ∧ W.cell? ⟨gw, 2, none⟩ = some (.slice p s.2.length c)
  rb : Rb W gb s.1
  gb0 : w.heap.size ≤ gb
  gne : gb ≠ gw
  own : W.ownsRow w.heap.size 3 1 (.slice p s.2.length c) s.2.length (intsV (s.2.map Int.ofNat))
  n1 : p.map Addr.block ≠ some gw
  n2 : p.map Addr.block ≠ some gb
  len : s.1.length = N
theorem Vs.next {w W W' : World} {gw gb N : Nat} {q : Option Addr} {qc : Nat} {s : List Bool × List Nat} {p : Option Addr} {c : Nat} (h : Vs w W gw gb N q qc s p c) (hb : Below W.heap.size W W') : Vs w W' gw gb N q qc s p c := by
  obtain ⟨low, gw0, gwl, fz, ⟨c0, c1, c2⟩, rb, gb0, gne, own, n1, n2, len⟩ := h
  exact ⟨low.trans (hb.mono low.size), gw0, Nat.lt_of_lt_of_le gwl hb.size, fun j => (hb.frozen (p := ⟨gw, j, none⟩) gwl).trans (fz j), ⟨(hb.cell (p := ⟨gw, _, none⟩) gwl).trans c0, (hb.cell (p := ⟨gw, _, none⟩) gwl).trans c1, (hb.cell (p := ⟨gw, _, none⟩) gwl).trans c2⟩, rb.next hb, gb0, gne, own_below own hb, n1, n2, len⟩
/-- a node is met -/
theorem Vs.see {w W : World} {gw gb N i : Nat} {q : Option Addr} {qc : Nat} {s : List Bool × List Nat} {p : Option Addr} {c : Nat} (h : Vs w W gw gb N q qc s p c) (hi : i < N) : Vs w (W.setCell ⟨gb, i, none⟩ (.bool true)) gw gb N q qc (s.1.set i true, s.2) p c := by
  obtain ⟨low, gw0, gwl, fz, ⟨c0, c1, c2⟩, rb, gb0, gne, own, n1, n2, len⟩ := h
  refine ⟨low.setCell (p := ⟨gb, i, none⟩) gb0 _, gw0, by simpa [World.setCell] using gwl, fun j => (World.frozen?_setCell ..).trans (fz j), ?_, rb.set (by omega), gb0, gne, own_setOther (a := ⟨gb, i, none⟩) own (by rw [own_blk]; exact n2), n1, n2, by simpa using len⟩
  have k : ∀ o u, W.cell? ⟨gw, o, none⟩ = some u → (W.setCell ⟨gb, i, none⟩ (.bool true)).cell? ⟨gw, o, none⟩ = some u := fun o u hu =>
    (World.cell?_setCell_other W ⟨gb, i, none⟩ ⟨gw, o, none⟩ _ (fun e => gne (congrArg Addr.block e))).trans hu
  exact ⟨k _ _ c0, k _ _ c1, k _ _ c2⟩
/-- a node is left -/
theorem Vs.leave {w W W' : World} {gw gb N i m c' : Nat} {q q' : Option Addr} {qc : Nat} {s : List Bool × List Nat} {p : Option Addr} {c : Nat} (h : Vs w W gw gb N q qc s p c)
    (ho : W'.ownsRow w.heap.size 3 1 (.slice q' m c') (s.2.map Int.ofNat ++ [(i : Int)]).length (intsV (s.2.map Int.ofNat ++ [(i : Int)]))) (hm : m = s.2.length + 1) (hg : W.grownBy W' (Value.slice p s.2.length c).ownBlock) (hb : (Value.slice q' m c').ownBlock = (Value.slice p s.2.length c).ownBlock ∨ (Value.slice q' m c').ownBlock = some W.heap.size) :
    Vs w (W'.setCell ⟨gw, 2, none⟩ (.slice q' m c')) gw gb N q qc (s.1, s.2 ++ [i]) q' c' := by
  obtain ⟨low, gw0, gwl, fz, ⟨c0, c1, c2⟩, rb, gb0, gne, own, n1, n2, len⟩ := h
  subst hm
  rw [own_blk] at hg
  rw [own_blk, own_blk] at hb
  have e1 : s.2.map Int.ofNat ++ [(i : Int)] = (s.2 ++ [i]).map Int.ofNat := by rw [List.map_append]; rfl
  rw [e1, List.length_map] at ho
  have hgg : W'.heap[gw]? = W.heap[gw]? := hg.block gw gwl (fun e => n1 e.symm)
  have hq1 : q'.map Addr.block ≠ some gw := by
    rcases hb with e | e
    · rw [e]; exact n1
    · rw [e]; intro e2; injection e2 with e2; omega
  have hq2 : q'.map Addr.block ≠ some gb := by
    rcases hb with e | e
    · rw [e]; exact n2
    · rw [e]; intro e2; injection e2 with e2; have := rb.lt; omega
  have hlow := low.grown hg low.size (fun k hk => (own.lt k (by rw [own_blk]; exact hk)).1)
  have e2 : (s.2 ++ [i]).length = s.2.length + 1 := by simp
  refine ⟨hlow.setCell (p := ⟨gw, 2, none⟩) gw0 _, gw0, by simpa [World.setCell] using Nat.lt_of_lt_of_le gwl hg.size, fun j => (World.frozen?_setCell ..).trans ((World.frozen?_of_block (a := ⟨gw, j, none⟩) hgg).trans (fz j)), ⟨?_, ?_, ?_⟩, (rb.grown hg n2).other (a := ⟨gw, 2, none⟩) (fun e => gne e.symm) _, gb0, gne, own_setOther (a := ⟨gw, 2, none⟩) (by rw [e2] at ho ⊢; exact ho) (by rw [own_blk]; exact hq1), hq1, hq2, len⟩
  · exact (World.cell?_setCell_other _ _ _ _ (fun e => by have := congrArg Addr.off e; simp at this)).trans ((World.cell?_of_block (a := ⟨gw, _, none⟩) hgg).trans c0)
  · exact (World.cell?_setCell_other _ _ _ _ (fun e => by have := congrArg Addr.off e; simp at this)).trans ((World.cell?_of_block (a := ⟨gw, _, none⟩) hgg).trans c1)
  · rw [e2]
    exact World.cell?_setCell_same _ _ _ ((World.cell?_of_block (a := ⟨gw, _, none⟩) hgg).trans c2)
/-- what lies there behind the append, ahead of the store -/
theorem Vs.mid {w W W' : World} {gw gb N : Nat} {q : Option Addr} {qc : Nat} {s : List Bool × List Nat} {p : Option Addr} {c : Nat} (h : Vs w W gw gb N q qc s p c) (hg : W.grownBy W' (Value.slice p s.2.length c).ownBlock) : W'.cell? ⟨gw, 2, none⟩ = some (.slice p s.2.length c) ∧ W'.frozen? ⟨gw, 2, none⟩ = false ∧ gw < W'.heap.size := by
  rw [own_blk] at hg
  have hgg : W'.heap[gw]? = W.heap[gw]? := hg.block gw h.gwl (fun e => h.n1 e.symm)
  exact ⟨(World.cell?_of_block (a := ⟨gw, _, none⟩) hgg).trans h.cl.2.2, (World.frozen?_of_block (a := ⟨gw, _, none⟩) hgg).trans (h.fz _), Nat.lt_of_lt_of_le h.gwl hg.size⟩
/-- what visit answers -/
def VisQ (w : World) (gw gb N : Nat) (q : Option Addr) (qc : Nat) (s : List Bool × List Nat) (e : Ending) (w' : World) : Prop :=
  e = .returned (.tuple #[]) ∧ ∃ p c, Vs w w' gw gb N q qc s p c
set_option maxRecDepth 100000 in
set_option maxHeartbeats 4000000 in
theorem rvisit_any (w : World) (q : Option Addr) (qc : Nat) (g : List (List Int)) (gw gb : Nat) (h : GsAt w q g) (hN : g.length ≤ 4096) (hT : tot g ≤ 1048576) : ∀ (f : Nat) (s : List Bool × List Nat) (x : Int) (W : World) (p : Option Addr) (c : Nat), unmet s.1 < f → s.2.length + unmet s.1 ≤ g.length → Vs w W gw gb g.length q qc s p c →
    Calls Try.prog 30 #[.pointer (some ⟨gw, 0, none⟩), .int .i64 x] W (VisQ w gw gb g.length q qc (vis g.length (fun i => g.getD i []) f s x))
  | 0, _, _, _, _, _, hf, _, _ => absurd hf (Nat.not_lt_zero _)
  | f + 1, s, x, W, p, c, hf, hcn, hv => by
    have HIH := Lib.hid (fun s x W p c h1 h2 h3 => rvisit_any w q qc g gw gb h hN hT f s x W p c h1 h2 h3)
    have HGC := Lib.hid (fun (W : World) (hW : Below w.heap.size w W) i hi => (h.below hW).cells i hi)
    have HV := Lib.hid hv
    have HRW : Hid (∀ i, i < g.length → (g.getD i []).length ≤ tot g) := Lib.hid (fun i hi => row_le hi)
    unfold VisQ at HIH ⊢
    obtain ⟨N, hNl⟩ : ∃ N, g.length = N := ⟨_, rfl⟩
    obtain ⟨su, hsu⟩ : ∃ su : Nat → List Int, (fun i => g.getD i []) = su := ⟨_, rfl⟩
    have hsi : ∀ i, g.getD i [] = su i := fun i => congrFun hsu i
    obtain ⟨TT, hTT⟩ : ∃ T, tot g = T := ⟨_, rfl⟩
    rw [hNl] at hN HIH HGC HV HRW hcn hv ⊢
    rw [hTT] at hT HRW
    rw [hsu] at HIH ⊢
    simp only [hsi] at HGC HRW
    have hlen := hv.len
    have hF := Lib.hid hf
    obtain ⟨d0, d1, d2⟩ := hv.cl
    have dl := hv.gwl
    have rl := hv.rb.lt
    clear h hNl hsu hsi hTT hf
    by_cases x0 : 0 ≤ x
    · by_cases xN : x < (N : Int)
      · obtain ⟨i, rfl⟩ : ∃ i : Nat, x = (i : Int) := ⟨x.toNat, by omega⟩
        have hi : i < N := by omega
        have rc := hv.rb.cell i (by omega)
        cases hs : s.1.getD i false with
        | true =>
          rw [hs] at rc
          have HE : Hid (vis N su (f + 1) s (i : Int) = s) := Lib.hid (by unfold vis; exact if_neg (fun c => by rw [Int.toNat_natCast, hs] at c; cases c.2.2))
          rw [HE.out]
          clear hs hv HE HIH
          go_enter Try.func30, Try.ntmps30
          go_wp2
          ((try simp only [Exit.inBlock, Exit.then]); refine bodyPost_ret (results_none rfl _ _ _) rfl ?_)
          exact ⟨rfl, p, c, HV.out⟩
        | false =>
          rw [hs] at rc
          have rf := hv.rb.fr i
          have hir : i < s.1.length := by omega
          have hu := unmet_set hir hs
          obtain ⟨R, hR⟩ : ∃ R, su i = R := ⟨_, rfl⟩
          obtain ⟨M, hM⟩ : ∃ M, R.length = M := ⟨_, rfl⟩
          have HM := Lib.hid hM
          obtain ⟨F, hFd⟩ : ∃ F : Nat → List Bool × List Nat, ∀ m, F m = (R.take m).foldl (vis N su f) (s.1.set i true, s.2) := ⟨_, fun _ => rfl⟩
          have HF0 : Hid (F 0 = (s.1.set i true, s.2)) := Lib.hid (by rw [hFd]; rfl)
          have HFS : Hid (∀ m, m < M → F (m + 1) = vis N su f (F m) (R.getD m 0)) := Lib.hid (fun m hm => by
            have hm' : m < R.length := by rw [hM]; exact hm
            rw [hFd, hFd, List.take_add_one, List.getElem?_eq_getElem hm', List.foldl_append, List.getD_eq_getElem?_getD, List.getElem?_eq_getElem hm']
            rfl)
          have HE : Hid (vis N su (f + 1) s (i : Int) = ((F M).1, (F M).2 ++ [i])) := Lib.hid (by
            rw [hFd, ← hM, List.take_length, ← hR]
            conv => lhs; unfold vis
            rw [if_pos ⟨x0, xN, by rw [Int.toNat_natCast]; exact hs⟩, Int.toNat_natCast])
          have HFM : Hid (∀ m, unmet (F m).1 < f ∧ (F m).2.length + unmet (F m).1 + 1 ≤ N) := Lib.hid (fun m => by
            have h1 : (s.1.set i true).length = N := by simpa using hlen
            obtain ⟨a1, a2, a3⟩ := fold_mono N su f (R.take m) (s.1.set i true, s.2) h1
            rw [← hFd] at a1 a2 a3
            have a3' : (F m).2.length + unmet (F m).1 ≤ s.2.length + unmet (s.1.set i true) := a3
            have h4 := unmet_mono (l := s.1.set i true) (m := (F m).1) (a1.trans h1.symm) a2
            have h5 := hF.out
            exact ⟨by omega, by omega⟩)
          have HGC2 := Lib.hid (fun W hW => HGC.out W hW i hi)
          rw [hR, hM] at HGC2
          have hMT := HRW.out i hi
          rw [hR, hM] at hMT
          have HV1 := Lib.hid (hv.see hi)
          have HN9 := Lib.hid (fun (x : Int) W => nums_new (k := .i64) W 3 [x] #[.int .i64 x] rfl (by simp))
          have g0 : decide ((i : Int) < 0) = false := by simp
          have g1 : decide (N ≤ i) = false := by simp; omega
          clear hs hu hR hM hFd hv hir HGC HRW hF
          rw [HE.out]
          clear HE
          go_enter Try.func30, Try.ntmps30
          go_wp2_with fail
          go_loopw [4] (fun v wr => ∃ (m : Nat) (p : Option Addr) (c : Nat), m ≤ M ∧ v = .int .i64 (m : Int) ∧ Vs w wr gw gb N q qc (F m) p c) (fun v _ => M - (intOf v).toNat)
          case atStart => exact ⟨0, p, c, Nat.zero_le _, rfl, by rw [HF0.out]; exact HV1.out⟩
          case round =>
            clear HV1 HV d0 d1 d2 dl rl rc rf hlen
            obtain ⟨m, p, c, hm, rfl, hv⟩ := hrel
            have HV := Lib.hid hv
            obtain ⟨d0, d1, d2⟩ := hv.cl
            have dl := hv.gwl
            obtain ⟨b4, o4, p4, c4, rfl, hl4, e4, hn4⟩ := HGC2.out wr hv.low
            by_cases hmM : m < M
            · obtain ⟨b5, o5, rfl, hl5, e5⟩ := hn4.cells m (by rw [HM.out]; exact hmM)
              have HS := Lib.hid (HFS.out m hmM)
              obtain ⟨u1, u2⟩ := HFM.out m
              have HC := Lib.hid (HIH.out (F m) (R.getD m 0) wr p c u1 (by omega) HV.out)
              generalize R.getD m 0 = y at *
              clear hv hn4 u1 u2 HIH
              go_wp2_with (go_at_call 30; (with_reducible refine HC.out.mono ?_); rintro e w1 ⟨rfl, p', c', hv'⟩; have HV2 := Lib.hid hv'; clear hv')
              go_roundw
              case rel => exact ⟨m + 1, p', c', by omega, rfl, by rw [HS.out]; exact HV2.out⟩
              case measure => simp [intOf]; omega
            · obtain rfl : M = m := by omega
              have hL := (HFM.out M).2
              obtain ⟨t, ht⟩ : ∃ t, F M = t := ⟨_, rfl⟩
              rw [ht] at hL d2 HV
              have HTT := Lib.hid ht
              clear hv hn4 HIH ht
              go_wp2_with (at_builtin; refine wpList_app_ints rfl (.tmp 59) (.tmp 61) rfl rfl w.heap.size (some ⟨wr.heap.size, 0, none⟩) [(i : Int)] (t.2.map Int.ofNat) (.slice p t.2.length c) 1 1 rfl rfl rfl (by rw [List.length_map]; exact own_below HV.out.own ((Below.refl _ _).alloc (Nat.le_refl _) _)) (HN9.out _ _) (by have := HV.out.low.size; simp; omega) (by simp; omega) ?_; intro v8 w8 ho8 hg8 hb8; obtain ⟨q8, c8, rfl⟩ := own_form ho8; obtain ⟨m0, m1, m2⟩ := (HV.out.next ((Below.refl _ _).alloc (Nat.le_refl _) _)).mid hg8; have HX := Lib.hid ((HV.out.next ((Below.refl _ _).alloc (Nat.le_refl _) _)).leave ho8 (by simp) hg8 hb8); simp only [List.length_append, List.length_map, List.length_cons, List.length_nil, Nat.zero_add] at HX; clear ho8 hg8 hb8)
              go_end0
              exact ⟨rfl, q8, c8, by rw [HTT.out]; exact HX.out⟩
      · have HE : Hid (vis N su (f + 1) s x = s) := Lib.hid (by unfold vis; exact if_neg (fun c => xN c.2.1))
        rw [HE.out]
        clear hv HE HIH
        go_enter Try.func30, Try.ntmps30
        go_wp2
        ((try simp only [Exit.inBlock, Exit.then]); refine bodyPost_ret (results_none rfl _ _ _) rfl ?_)
        exact ⟨rfl, p, c, HV.out⟩
    · have HE : Hid (vis N su (f + 1) s x = s) := Lib.hid (by unfold vis; exact if_neg (fun c => x0 c.1))
      rw [HE.out]
      clear hv HE HIH
      go_enter Try.func30, Try.ntmps30
      go_wp2
      ((try simp only [Exit.inBlock, Exit.then]); refine bodyPost_ret (results_none rfl _ _ _) rfl ?_)
      exact ⟨rfl, p, c, HV.out⟩
end Go.Proofs.Ytgaacdnljkildaa
