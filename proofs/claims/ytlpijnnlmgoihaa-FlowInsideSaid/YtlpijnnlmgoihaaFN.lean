/- Flow: blocks in memory of one's own, each with two rows of its own. -/
import Derived.Test.YtlpijnnlmgoihaaFL
import Derived.Test.YtlpijnnlmgoihaaMF
namespace Go.Proofs.Ytlpijnnlmgoihaa
open Go.RowKit M
open Fl (upd upd_same upd_other)

/-- n blocks in block g; row r is the Succ (even) or the Pred (odd) of block r / 2 -/
structure Bm (w W : World) (g n : Nat) (G : Fl.Fg) (P : Nat → Option Addr) (C : Nat → Nat) (R : Nat → List Nat) : Prop where
  low : Below w.heap.size w W
  gb : w.heap.size ≤ g
  gl : g < W.heap.size
  fz : ∀ j, W.frozen? ⟨g, j, none⟩ = false
  c : ∀ k, k < n → W.cell? ⟨g, k * 5, none⟩ = some (.int .i64 (G.fr k)) ∧ W.cell? ⟨g, k * 5 + 1, none⟩ = some (.int .i64 (G.to (G.fr k))) ∧ W.cell? ⟨g, k * 5 + 2, none⟩ = some (.int .i64 (G.la k))
  p : ∀ r, r < 2 * n → W.cell? ⟨g, r / 2 * 5 + 3 + r % 2, none⟩ = some (.slice (P r) (R r).length (C r))
  own : ∀ r, r < 2 * n → W.ownsRow w.heap.size 3 1 (.slice (P r) (R r).length (C r)) (R r).length (intsV ((R r).map Int.ofNat))
  ne : ∀ r, r < 2 * n → (P r).map Addr.block ≠ some g
  dist : ∀ r s, r < 2 * n → s < 2 * n → r ≠ s → ∀ b, (P r).map Addr.block = some b → (P s).map Addr.block ≠ some b
theorem Bm.next {w W W' : World} {g n : Nat} {G : Fl.Fg} {P : Nat → Option Addr} {C : Nat → Nat} {R : Nat → List Nat} (h : Bm w W g n G P C R) (hb : Below W.heap.size W W') : Bm w W' g n G P C R := by
  obtain ⟨low, gb, gl, fz, c, p, own, ne, dist⟩ := h
  refine ⟨low.trans (hb.mono low.size), gb, Nat.lt_of_lt_of_le gl hb.size, fun j => (hb.frozen (p := ⟨g, j, none⟩) gl).trans (fz j), fun k hk => ?_, fun r hr => (hb.cell (p := ⟨g, _, none⟩) gl).trans (p r hr), fun r hr => own_below (own r hr) hb, ne, dist⟩
  obtain ⟨c0, c1, c2⟩ := c k hk
  exact ⟨(hb.cell (p := ⟨g, _, none⟩) gl).trans c0, (hb.cell (p := ⟨g, _, none⟩) gl).trans c1, (hb.cell (p := ⟨g, _, none⟩) gl).trans c2⟩
/-- a number put at the end of row r, and the row laid back -/
theorem Bm.app {w W W' : World} {g n r x m c' o : Nat} {q' : Option Addr} {G : Fl.Fg} {P : Nat → Option Addr} {C : Nat → Nat} {R : Nat → List Nat} (h : Bm w W g n G P C R) (hr : r < 2 * n) (heo : o = r / 2 * 5 + 3 + r % 2)
    (ho : W'.ownsRow w.heap.size 3 1 (.slice q' m c') ((R r).map Int.ofNat ++ [(x : Int)]).length (intsV ((R r).map Int.ofNat ++ [(x : Int)]))) (hm : m = (R r).length + 1) (hg : W.grownBy W' ((P r).map Addr.block)) (hb : q'.map Addr.block = (P r).map Addr.block ∨ q'.map Addr.block = some W.heap.size) :
    Bm w (W'.setCell ⟨g, o, none⟩ (.slice q' m c')) g n G (upd P r q') (upd C r c') (upd R r (R r ++ [x])) := by
  obtain ⟨low, gb, gl, fz, c, p, own, ne, dist⟩ := h
  subst hm heo
  have hgg : W'.heap[g]? = W.heap[g]? := hg.block g gl (fun e => ne r hr e.symm)
  have hq : q'.map Addr.block ≠ some g := by
    rcases hb with e | e
    · rw [e]; exact ne r hr
    · rw [e]; intro e2; injection e2 with e2; omega
  have hlow : Below w.heap.size w W' := low.grown hg low.size (fun k hk => ((own r hr).lt k (by rw [own_blk]; exact hk)).1)
  have el : (R r).map Int.ofNat ++ [(x : Int)] = (R r ++ [x]).map Int.ofNat := by rw [List.map_append]; rfl
  rw [el] at ho
  rw [List.length_map] at ho
  have e1 : (R r ++ [x]).length = (R r).length + 1 := by simp
  refine ⟨hlow.setCell (p := ⟨g, _, none⟩) gb _, gb, by simpa [World.setCell] using Nat.lt_of_lt_of_le gl hg.size, fun j => ?_, fun k hk => ?_, fun s hs => ?_, fun s hs => ?_, fun s hs => ?_, fun s t hs ht hst b hsb => ?_⟩
  · exact (World.frozen?_setCell ..).trans ((World.frozen?_of_block (a := ⟨g, j, none⟩) hgg).trans (fz j))
  · obtain ⟨c0, c1, c2⟩ := c k hk
    have hk5 : ∀ d u, d < 3 → W.cell? ⟨g, k * 5 + d, none⟩ = some u → (W'.setCell ⟨g, r / 2 * 5 + 3 + r % 2, none⟩ (.slice q' ((R r).length + 1) c')).cell? ⟨g, k * 5 + d, none⟩ = some u := fun d u hd hu =>
      (World.cell?_setCell_other _ _ _ _ (fun e => by have := congrArg Addr.off e; simp at this; omega)).trans ((World.cell?_of_block (a := ⟨g, _, none⟩) hgg).trans hu)
    exact ⟨hk5 0 _ (by omega) c0, hk5 1 _ (by omega) c1, hk5 2 _ (by omega) c2⟩
  · have hc : ∀ s, s < 2 * n → W'.cell? ⟨g, s / 2 * 5 + 3 + s % 2, none⟩ = some (.slice (P s) (R s).length (C s)) := fun s hs => (World.cell?_of_block (a := ⟨g, _, none⟩) hgg).trans (p s hs)
    by_cases e : s = r
    · subst e
      rw [upd_same, upd_same, upd_same, e1]
      exact World.cell?_setCell_same _ _ _ (hc s hs)
    · rw [upd_other _ _ e, upd_other _ _ e, upd_other _ _ e]
      exact (World.cell?_setCell_other _ _ _ _ (fun e' => by have := congrArg Addr.off e'; simp at this; omega)).trans (hc s hs)
  · by_cases e : s = r
    · subst e
      rw [upd_same, upd_same, upd_same]
      refine own_setOther (a := ⟨g, _, none⟩) ?_ (by rw [own_blk]; exact hq)
      rw [e1] at ho ⊢
      exact ho
    · rw [upd_other _ _ e, upd_other _ _ e, upd_other _ _ e]
      refine own_setOther (a := ⟨g, _, none⟩) ((own s hs).kept hg ?_) (by rw [own_blk]; exact ne s hs)
      rw [own_blk]
      by_cases hn : (P s).map Addr.block = none
      · exact .inl hn
      · right
        intro e2
        obtain ⟨b, hb2⟩ := Option.ne_none_iff_exists'.1 hn
        exact dist s r hs hr e b hb2 (e2 ▸ hb2)
  · by_cases e : s = r
    · subst e; rw [upd_same]; exact hq
    · rw [upd_other _ _ e]; exact ne s hs
  · have lt : ∀ s, s < 2 * n → ∀ b, (P s).map Addr.block = some b → b < W.heap.size := fun s hs b hb2 => ((own s hs).lt b (by rw [own_blk]; exact hb2)).2
    by_cases e : s = r
    · subst e
      rw [upd_same] at hsb
      rw [upd_other _ _ (fun c => hst c.symm)]
      rcases hb with e2 | e2
      · rw [e2] at hsb; exact dist s t hs ht hst b hsb
      · rw [e2] at hsb
        injection hsb with hsb
        intro e3
        have := lt t ht b e3
        omega
    · rw [upd_other _ _ e] at hsb
      by_cases e4 : t = r
      · subst e4
        rw [upd_same]
        rcases hb with e2 | e2
        · rw [e2]; exact dist s t hs ht hst b hsb
        · rw [e2]
          intro e3
          injection e3 with e3
          have := lt s hs b hsb
          omega
      · rw [upd_other _ _ e4]; exact dist s t hs ht hst b hsb
theorem Bm.ft {w W : World} {g n : Nat} {G : Fl.Fg} {P : Nat → Option Addr} {C : Nat → Nat} {R : Nat → List Nat} (h : Bm w W g n G P C R) (hn : n ≤ 4096) : FtAt W (some ⟨g, 0, none⟩) n (fun k => (G.fr k : Int)) (fun k => (G.to (G.fr k) : Int)) :=
  ⟨by omega, fun k hk => by
    obtain ⟨c0, c1, c2⟩ := h.c k hk
    exact ⟨g, 0, rfl, h.gl, by rw [Nat.zero_add]; exact c0, by rw [Nat.zero_add]; exact c1⟩⟩
/-- where a leader stands -/
theorem find_lead {G : Fl.Fg} (hG : G.Ok) {s : Nat} (hs : G.R s) (hl : G.lead s = true) : findI (fun k => (G.fr k : Int)) (fun k => (G.to (G.fr k) : Int)) G.n (s : Int) = (G.fd s : Int) := by
  obtain ⟨h1, h2, h3⟩ := Fl.Fg.fd_lead hG hs hl
  obtain ⟨a1, a2⟩ := Fl.Fg.inB_iff.1 h3
  refine findI_some h1 (by omega) (by omega) (fun j hj hh => ?_)
  have hh2 : (G.fr j : Int) ≤ (s : Int) ∧ (s : Int) < (G.to (G.fr j) : Int) := hh
  have e := Fl.Fg.in_one (i := j) hG (by omega) h1 (Fl.Fg.inB_iff.2 ⟨by omega, by omega⟩) h3
  omega
theorem Bm.done {w W : World} {g : Nat} {l : List In} {P : Nat → Option Addr} {C : Nat → Nat} (hc : (checkS l).2 = 0) (h : Bm w W g (gOf l).n (gOf l) P C ((gOf l).row (gOf l).n 0)) (hn : (gOf l).n ≤ 4096) (hsm : ∀ r, ((gOf l).row (gOf l).n 0 r).length ≤ 8192) : BksAt W (some ⟨g, 0, none⟩) (blocksL l) := by
  have hl := blocks_len hc
  refine ⟨by omega, fun k hk => ?_⟩
  rw [hl] at hk
  rw [blocks_at hc hk]
  obtain ⟨c0, c1, c2⟩ := h.c k hk
  have p0 := h.p (2 * k) (by omega)
  have p1 := h.p (2 * k + 1) (by omega)
  have o0 := h.own (2 * k) (by omega)
  have o1 := h.own (2 * k + 1) (by omega)
  have s0 := hsm (2 * k)
  have s1 := hsm (2 * k + 1)
  rw [Fl.Fg.row_su hk] at p0 o0 s0
  rw [Fl.Fg.row_pr] at p1 o1 s1
  rw [show 2 * k / 2 * 5 + 3 + 2 * k % 2 = 0 + k * 5 + 3 by omega] at p0
  rw [show (2 * k + 1) / 2 * 5 + 3 + (2 * k + 1) % 2 = 0 + k * 5 + 4 by omega] at p1
  have l0 : ((gOf l).sk k).length = (((gOf l).sk k).map Int.ofNat).length := by simp
  have l1 : ((gOf l).pk k).length = (((gOf l).pk k).map Int.ofNat).length := by simp
  rw [l0] at p0 o0 s0
  rw [l1] at p1 o1 s1
  refine ⟨g, 0, P (2 * k), C (2 * k), P (2 * k + 1), C (2 * k + 1), rfl, h.gl, ?_, ?_, ?_, p0, p1, own_nums o0 (Nat.le_trans s0 (by omega)), own_nums o1 (Nat.le_trans s1 (by omega))⟩
  · rw [Nat.zero_add]; exact c0
  · rw [Nat.zero_add]; exact c1
  · rw [Nat.zero_add]; exact c2
/-- a fresh block -/
noncomputable def b5 (G : Fl.Fg) (a : Nat) : List Value := [.int .i64 (a : Int), .int .i64 (G.to a : Int), .int .i64 (G.last a : Int), .slice none 0 0, .slice none 0 0]
theorem b5_len (G : Fl.Fg) (a : Nat) : (b5 G a).length = 5 := rfl
noncomputable def flatB (G : Fl.Fg) (l : List Nat) : List Value := l.flatMap (b5 G)
theorem flatB_one (G : Fl.Fg) (l : List Nat) : ∀ u ∈ flatB G l, u.oneCell' = true := by
  intro u hu
  obtain ⟨a, _, h⟩ := List.mem_flatMap.1 hu
  simp only [b5, List.mem_cons, List.not_mem_nil, or_false] at h
  rcases h with rfl | rfl | rfl | rfl | rfl <;> rfl
theorem flatB_app (G : Fl.Fg) (l m : List Nat) : flatB G (l ++ m) = flatB G l ++ flatB G m := List.flatMap_append ..
theorem Bm.start {w W : World} {q : Option Addr} {c : Nat} {G : Fl.Fg} (hn : 0 < G.n) (hb : Below w.heap.size w W) (ho : W.ownsRow w.heap.size 37 5 (.slice q G.n c) G.n (flatB G G.ls)) :
    ∃ g, q = some ⟨g, 0, none⟩ ∧ Bm w W g G.n G (fun _ => none) (fun _ => 0) (G.row 0 0) := by
  have hq : ∃ g cap cur, (Value.slice q G.n c) = .slice (some ⟨g, 0, none⟩) G.n cap ∧ w.heap.size ≤ g ∧ W.heap[g]? = some (.cells cur 37 (0, 0)) := by
    rcases ho.2 with ⟨_, h0⟩ | ⟨g, cap, cur, hv, hb, hg, _⟩
    · omega
    · exact ⟨g, cap, cur, hv, hb, hg⟩
  obtain ⟨g, cap, cur, hv, hgb, hg⟩ := hq
  injection hv with h1 h2 h3
  subst h1 h3
  have hgl : g < W.heap.size := (Array.getElem?_eq_some_iff.1 hg).1
  have hc : ∀ k r u, k < G.n → r < 5 → (b5 G (G.fr k))[r]? = some u → W.cell? ⟨g, k * 5 + r, none⟩ = some u := fun k r u hk hr hu => by
    rw [ho.cellAt (k * 5 + r) (by omega)]
    exact (Fl.flat_get (b5 G) 5 (b5_len G) G.ls k r hr hk).trans hu
  rw [Fl.Fg.row_start]
  refine ⟨g, rfl, hb, hgb, hgl, fun j => ?_, fun k hk => ⟨hc k 0 _ hk (by omega) rfl, hc k 1 _ hk (by omega) rfl, hc k 2 _ hk (by omega) rfl⟩, fun r hr => ?_, fun r hr => World.ownsRow_nil _ _ _ _, fun r hr => by simp, fun r s hr hs _ b hb2 => by simp at hb2⟩
  · simp [World.frozen?, hg]
  · rcases Nat.mod_two_eq_zero_or_one r with e | e
    · rw [e]; exact hc (r / 2) 3 _ (by omega) (by omega) rfl
    · rw [e]; exact hc (r / 2) 4 _ (by omega) (by omega) rfl
end Go.Proofs.Ytlpijnnlmgoihaa
