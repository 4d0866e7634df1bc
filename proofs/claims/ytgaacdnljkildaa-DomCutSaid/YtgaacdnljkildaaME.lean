/- Dominance: what package dom's own above keeps in memory. -/
import Derived.Test.YtgaacdnljkildaaMD
namespace Go.Proofs.Ytgaacdnljkildaa
open Go.RowKit
open Dm

theorem own_chg {w W : World} {base size n : Nat} {e : TypeId} {v : Value} {xs : List Value} (h : w.ownsRow base e size v n xs) (hb : ∀ k, v.ownBlock = some k → W.heap[k]? = w.heap[k]?) : W.ownsRow base e size v n xs := by
  obtain ⟨h1, h2 | ⟨g, cap, cur, e1, e2, e3, e4⟩⟩ := h
  · exact ⟨h1, .inl h2⟩
  · exact ⟨h1, .inr ⟨g, cap, cur, e1, e2, (hb g (by rw [e1]; rfl)).trans e3, e4⟩⟩
theorem Sr.chg {base b : Nat} {W W' : World} {js : List Nat} {r : Nat → List Int} {q : Nat → Option Addr} {c : Nat → Nat} {X : Nat → Prop} (h : Sr base W b js r q c) (hc : Chg W.heap.size X W W') (hb : ¬ X b) (hq : ∀ j ∈ js, ∀ k, (q j).map Addr.block = some k → ¬ X k) : Sr base W' b js r q c := by
  have e := hc.block b h.bl hb
  refine ⟨Nat.lt_of_lt_of_le h.bl hc.size, fun j => (World.frozen?_of_block (a := ⟨b, j, none⟩) e).trans (h.fz j), fun j hj => (World.cell?_of_block (a := ⟨b, j, none⟩) e).trans (h.cl j hj), fun j hj => own_chg (h.own j hj) (fun k hk => ?_), h.ne, h.ap⟩
  rw [own_blk] at hk
  exact hc.block k (h.blk hj hk).2 (hq j hj k hk)
/-- a row is let go -/
theorem Sr.drop {base b : Nat} {W : World} {js : List Nat} {r : Nat → List Int} {q : Nat → Option Addr} {c : Nat → Nat} (h : Sr base W b js r q c) (j : Nat) : Sr base (W.setCell ⟨b, j, none⟩ (.slice none 0 0)) b js (up1 r j []) (up1 q j none) (up1 c j 0) := by
  refine ⟨by simpa [World.setCell] using h.bl, fun o => (World.frozen?_setCell ..).trans (h.fz o), fun k hk => ?_, fun k hk => ?_, fun k hk => ?_, fun k hk k' hk' hne => ?_⟩
  · by_cases e : k = j
    · subst e
      rw [up1_at, up1_at, up1_at]
      exact World.cell?_setCell_same _ _ _ (h.cl k hk)
    · rw [up1_ne _ _ _ e, up1_ne _ _ _ e, up1_ne _ _ _ e]
      refine (World.cell?_setCell_other _ _ _ _ (fun e2 => e ?_)).trans (h.cl k hk)
      have := congrArg Addr.off e2
      simpa using this.symm
  · by_cases e : k = j
    · subst e
      rw [up1_at, up1_at, up1_at]
      exact World.ownsRow_nil _ _ _ _
    · rw [up1_ne _ _ _ e, up1_ne _ _ _ e, up1_ne _ _ _ e]
      exact own_setOther (a := ⟨b, j, none⟩) (h.own k hk) (by rw [own_blk]; exact h.ne k hk)
  · by_cases e : k = j
    · subst e; rw [up1_at]; simp
    · rw [up1_ne _ _ _ e]; exact h.ne k hk
  · by_cases e : k = j
    · subst e; rw [up1_at]; exact .inl rfl
    · rw [up1_ne _ _ _ e]
      by_cases e2 : k' = j
      · subst e2
        rw [up1_at]
        cases hq : q k with
        | none => exact .inl rfl
        | some a => exact .inr (by simp)
      · rw [up1_ne _ _ _ e2]; exact h.ap k hk k' hk' hne
/-- while the numbers above are reckoned -/
structure Mm (w W : World) (fb gw gr N : Nat) (semi up least way : List Int) (q : Nat → Option Addr) (c : Nat → Nat) (rw : Nat → List Int) (qw : Nat → Option Addr) (cw : Nat → Nat) (res : List Int) : Prop where
  sf : Sr w.heap.size W fb FJ (fr up semi least way) q c
  sw : Sr w.heap.size W gw (List.range N) rw qw cw
  so : W.ownsRow w.heap.size 3 1 (.slice (some ⟨gr, 0, none⟩) N N) N (intsV res)
  bf : w.heap.size ≤ fb
  bw : w.heap.size ≤ gw
  n1 : fb ≠ gw
  n2 : fb ≠ gr
  n3 : gw ≠ gr
  xf : ∀ j ∈ FJ, ∀ k, (q j).map Addr.block = some k → k ≠ gw ∧ k ≠ gr
  xw : ∀ j ∈ List.range N, ∀ k, (qw j).map Addr.block = some k → k ≠ fb ∧ k ≠ gr
  ap : ∀ i ∈ FJ, ∀ j ∈ List.range N, ∀ k, (q i).map Addr.block = some k → (qw j).map Addr.block ≠ some k
  bl : Below w.heap.size w W
section
variable {w W W' : World} {fb gw gr N : Nat} {semi up least way : List Int} {q : Nat → Option Addr} {c : Nat → Nat} {rw : Nat → List Int} {qw : Nat → Option Addr} {cw : Nat → Nat} {res : List Int}
theorem Mm.lo (h : Mm w W fb gw gr N semi up least way q c rw qw cw res) : w.heap.size ≤ gr ∧ gr < W.heap.size := h.so.lt gr rfl
theorem Mm.grown (h : Mm w W fb gw gr N semi up least way q c rw qw cw res) (hg : W.grownBy W' none) : Mm w W' fb gw gr N semi up least way q c rw qw cw res :=
  ⟨h.sf.grown hg (by simp) (fun _ _ _ e => by cases e), h.sw.grown hg (by simp) (fun _ _ _ e => by cases e), h.so.kept hg (.inr (by simp [Value.ownBlock])), h.bf, h.bw, h.n1, h.n2, h.n3, h.xf, h.xw, h.ap, h.bl.grown hg h.bl.size (fun k e => by cases e)⟩
/-- 'best' was asked -/
theorem Mm.best (h : Mm w W fb gw gr N semi up least way q c rw qw cw res) {up' least' way' : List Int} {q' : Nat → Option Addr} {c' : Nat → Nat} (hk : Fk W W' fb q q') (hs : Sr w.heap.size W' fb FJ (fr up' semi least' way') q' c') : Mm w W' fb gw gr N semi up' least' way' q' c' rw qw cw res := by
  have hlo := h.lo
  have lw := h.sw.bl
  have nx : ∀ k, (∀ j ∈ FJ, (q j).map Addr.block ≠ some k) → k ≠ fb → ¬ (k = fb ∨ ∃ j ∈ FJ, (q j).map Addr.block = some k) := fun k h1 h2 e => by
    rcases e with e | ⟨j, hj, e⟩
    · exact h2 e
    · exact h1 j hj e
  refine ⟨hs, h.sw.chg hk.ch (nx gw (fun j hj e => (h.xf j hj gw e).1 rfl) h.n1.symm) (fun j hj k e => nx k (fun i hi e2 => h.ap i hi j hj k e2 e) (h.xw j hj k e).1), own_chg h.so (fun k e => ?_), h.bf, h.bw, h.n1, h.n2, h.n3, fun j hj k e => ?_, h.xw, fun i hi j hj k e => ?_, ?_⟩
  · have : gr = k := by injection e
    subst this
    exact hk.ch.block gr hlo.2 (nx gr (fun j hj e => (h.xf j hj gr e).2 rfl) h.n2.symm)
  · rcases hk.qs j hj with e1 | ⟨k', e1, e2⟩
    · rw [e1] at e; exact h.xf j hj k e
    · rw [e1] at e
      injection e with e
      omega
  · rcases hk.qs i hi with e1 | ⟨k', e1, e2⟩
    · rw [e1] at e; exact h.ap i hi j hj k e
    · rw [e1] at e
      injection e with e
      intro e3
      have := (h.sw.blk hj e3).2
      omega
  · refine h.bl.trans (Chg.below hk.ch h.bl.size (fun k e => ?_))
    rcases e with e | ⟨j, hj, e⟩
    · rw [e]; exact h.bf
    · exact (h.sf.blk hj e).1
/-- a number of the forest is written -/
theorem Mm.setF (h : Mm w W fb gw gr N semi up least way q c rw qw cw res) {j g : Nat} (hj : j ∈ FJ) (hq : q j = some ⟨g, 0, none⟩) (i : Nat) (x : Int) {semi' up' least' : List Int} (he : up1 (fr up semi least way) j ((fr up semi least way j).set i x) = fr up' semi' least' way) : Mm w (W.setCell ⟨g, i, none⟩ (.int .i64 x)) fb gw gr N semi' up' least' way q c rw qw cw res := by
  have hs := h.sf.set hj hq i x
  rw [he] at hs
  have hb : (q j).map Addr.block = some g := by rw [hq]; rfl
  have hx := h.xf j hj g hb
  exact ⟨hs, h.sw.grown (set_grown W ⟨g, i, none⟩ (.int .i64 x)) (fun e => hx.1 (by injection e)) (fun k hk k' e e2 => by injection e with e; subst e; exact h.ap j hj k hk _ hb e2), own_setOther (a := ⟨g, i, none⟩) h.so (fun e => hx.2 (by injection e with e; exact e.symm)),
    h.bf, h.bw, h.n1, h.n2, h.n3, h.xf, h.xw, h.ap, h.bl.setCell (p := ⟨g, i, none⟩) (h.sf.blk hj hb).1 _⟩
/-- a number above is written -/
theorem Mm.setR (h : Mm w W fb gw gr N semi up least way q c rw qw cw res) (i : Nat) (x : Int) : Mm w (W.setCell ⟨gr, i, none⟩ (.int .i64 x)) fb gw gr N semi up least way q c rw qw cw (res.set i x) := by
  refine ⟨h.sf.grown (set_grown W ⟨gr, i, none⟩ (.int .i64 x)) (fun e => h.n2 (by injection e with e; exact e.symm)) (fun j hj k e e2 => by injection e with e; subst e; exact (h.xf j hj _ e2).2 rfl), h.sw.grown (set_grown W ⟨gr, i, none⟩ (.int .i64 x)) (fun e => h.n3 (by injection e with e; exact e.symm)) (fun j hj k e e2 => by injection e with e; subst e; exact (h.xw j hj _ e2).2 rfl), ?_,
    h.bf, h.bw, h.n1, h.n2, h.n3, h.xf, h.xw, h.ap, h.bl.setCell (p := ⟨gr, i, none⟩) h.lo.1 _⟩
  rw [← intsV_set]
  exact (h.so.stored i _).1
/-- a row that waits is let go -/
theorem Mm.drop (h : Mm w W fb gw gr N semi up least way q c rw qw cw res) (j : Nat) : Mm w (W.setCell ⟨gw, j, none⟩ (.slice none 0 0)) fb gw gr N semi up least way q c (up1 rw j []) (up1 qw j none) (up1 cw j 0) res := by
  have hx : ∀ i ∈ List.range N, ∀ k, (up1 qw j none i).map Addr.block = some k → (qw i).map Addr.block = some k := fun i _ k e => by
    unfold up1 at e
    split at e
    · cases e
    · exact e
  refine ⟨h.sf.grown (set_grown W ⟨gw, j, none⟩ (.slice none 0 0)) (fun e => h.n1 (by injection e with e; exact e.symm)) (fun i hi k e e2 => by injection e with e; subst e; exact (h.xf i hi _ e2).1 rfl), h.sw.drop j, own_setOther (a := ⟨gw, j, none⟩) h.so (fun e => h.n3 (by injection e with e; exact e.symm)),
    h.bf, h.bw, h.n1, h.n2, h.n3, h.xf, fun i hi k e => h.xw i hi k (hx i hi k e), fun i hi j' hj' k e e2 => h.ap i hi j' hj' k e (hx j' hj' k e2), h.bl.setCell (p := ⟨gw, j, none⟩) h.bw _⟩
/-- one more waits -/
theorem Mm.app (h : Mm w W fb gw gr N semi up least way q c rw qw cw res) {j n m c' : Nat} {q' : Option Addr} {l : List Int} (hj : j ∈ List.range N) (ho : W'.ownsRow w.heap.size 3 1 (.slice q' m c') l.length (intsV l)) (hm : m = l.length)
    (hg : W.grownBy W' (Value.slice (qw j) n (cw j)).ownBlock) (hb : (Value.slice q' m c').ownBlock = (Value.slice (qw j) n (cw j)).ownBlock ∨ (Value.slice q' m c').ownBlock = some W.heap.size) : Mm w (W'.setCell ⟨gw, j, none⟩ (.slice q' m c')) fb gw gr N semi up least way q c (up1 rw j l) (up1 qw j q') (up1 cw j c') res := by
  have hs := h.sw.app hj ho hm hg hb
  have hlo := h.lo
  have lw := h.sw.bl
  have lf := h.sf.bl
  rw [own_blk] at hg
  rw [own_blk, own_blk] at hb
  have hfW : Sr w.heap.size W' fb FJ (fr up semi least way) q c := h.sf.grown hg (fun e => (h.xw j hj fb e).1 rfl) (fun i hi k e e2 => h.ap i hi j hj k e2 e)
  have hoW : W'.ownsRow w.heap.size 3 1 (.slice (some ⟨gr, 0, none⟩) N N) N (intsV res) := h.so.kept hg (.inr (fun e => (h.xw j hj gr (by rw [← e]; rfl)).2 rfl))
  have hq : ∀ i ∈ List.range N, ∀ k, (up1 qw j q' i).map Addr.block = some k → (qw i).map Addr.block = some k ∨ k = W.heap.size := fun i _ k e => by
    unfold up1 at e
    split at e
    · rename_i ei
      subst ei
      rcases hb with d | d
      · rw [d] at e; exact .inl e
      · rw [d] at e; injection e with e; exact .inr e.symm
    · exact .inl e
  refine ⟨hfW.grown (set_grown W' ⟨gw, j, none⟩ (.slice q' m c')) (fun e => h.n1 (by injection e with e; exact e.symm)) (fun i hi k e e2 => by injection e with e; subst e; exact (h.xf i hi _ e2).1 rfl), hs, own_setOther (a := ⟨gw, j, none⟩) hoW (fun e => h.n3 (by injection e with e; exact e.symm)),
    h.bf, h.bw, h.n1, h.n2, h.n3, h.xf, fun i hi k e => ?_, fun i hi j' hj' k e e2 => ?_, (h.bl.grown hg h.bl.size (fun k e => (h.sw.blk hj e).1)).setCell (p := ⟨gw, j, none⟩) h.bw _⟩
  · rcases hq i hi k e with d | d
    · exact h.xw i hi k d
    · omega
  · rcases hq j' hj' k e2 with d | d
    · exact h.ap i hi j' hj' k e d
    · have := (h.sf.blk hi e).2
      omega
end
end Go.Proofs.Ytgaacdnljkildaa
