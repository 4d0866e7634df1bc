/- Dominance: what package dom's own Frontier keeps in memory. -/
import Derived.Test.YtgaacdnljkildaaMH
namespace Go.Proofs.Ytgaacdnljkildaa
open Go.RowKit
open Dm

/-- while frontiers are told: an array gw of rows of one's own, a row gl of the node told last, a row gr of the numbers above -/
structure Fm (z W : World) (gw gl gr N M : Nat) (rw : Nat → List Int) (qw : Nat → Option Addr) (cw : Nat → Nat) (last res : List Int) : Prop where
  sw : Sr z.heap.size W gw (List.range N) rw qw cw
  ol : W.ownsRow z.heap.size 3 1 (.slice (some ⟨gl, 0, none⟩) M M) M (intsV last)
  or : W.ownsRow z.heap.size 3 1 (.slice (some ⟨gr, 0, none⟩) M M) M (intsV res)
  bw : z.heap.size ≤ gw
  n1 : gw ≠ gl
  n2 : gw ≠ gr
  n3 : gl ≠ gr
  xw : ∀ j ∈ List.range N, ∀ k, (qw j).map Addr.block = some k → k ≠ gl ∧ k ≠ gr
  bl : Below z.heap.size z W
section
variable {z W W' : World} {gw gl gr N M : Nat} {rw : Nat → List Int} {qw : Nat → Option Addr} {cw : Nat → Nat} {last res : List Int}
theorem Fm.grown (h : Fm z W gw gl gr N M rw qw cw last res) (hg : W.grownBy W' none) : Fm z W' gw gl gr N M rw qw cw last res :=
  ⟨h.sw.grown hg (by simp) (fun _ _ _ e => by cases e), h.ol.kept hg (.inr (by simp [Value.ownBlock])), h.or.kept hg (.inr (by simp [Value.ownBlock])), h.bw, h.n1, h.n2, h.n3, h.xw, h.bl.grown hg h.bl.size (fun k e => by cases e)⟩
/-- the node told last is written -/
theorem Fm.setL (h : Fm z W gw gl gr N M rw qw cw last res) (i : Nat) (x : Int) : Fm z (W.setCell ⟨gl, i, none⟩ (.int .i64 x)) gw gl gr N M rw qw cw (last.set i x) res := by
  refine ⟨h.sw.grown (set_grown W ⟨gl, i, none⟩ (.int .i64 x)) (fun e => h.n1 (by injection e with e; exact e.symm)) (fun j hj k e e2 => by injection e with e; subst e; exact (h.xw j hj _ e2).1 rfl), ?_, own_setOther (a := ⟨gl, i, none⟩) h.or (fun e => h.n3 (by injection e with e; exact e.symm)),
    h.bw, h.n1, h.n2, h.n3, h.xw, h.bl.setCell (p := ⟨gl, i, none⟩) (h.ol.lt gl rfl).1 _⟩
  rw [← intsV_set]
  exact (h.ol.stored i _).1
/-- a row has one more -/
theorem Fm.app (h : Fm z W gw gl gr N M rw qw cw last res) {j n m c' : Nat} {q' : Option Addr} {l : List Int} (hj : j ∈ List.range N) (ho : W'.ownsRow z.heap.size 3 1 (.slice q' m c') l.length (intsV l)) (hm : m = l.length)
    (hg : W.grownBy W' (Value.slice (qw j) n (cw j)).ownBlock) (hb : (Value.slice q' m c').ownBlock = (Value.slice (qw j) n (cw j)).ownBlock ∨ (Value.slice q' m c').ownBlock = some W.heap.size) : Fm z (W'.setCell ⟨gw, j, none⟩ (.slice q' m c')) gw gl gr N M (up1 rw j l) (up1 qw j q') (up1 cw j c') last res := by
  have hs := h.sw.app hj ho hm hg hb
  have l1 := h.ol.lt gl rfl
  have l2 := h.or.lt gr rfl
  rw [own_blk] at hg
  rw [own_blk, own_blk] at hb
  have hlW : W'.ownsRow z.heap.size 3 1 (.slice (some ⟨gl, 0, none⟩) M M) M (intsV last) := h.ol.kept hg (.inr (fun e => (h.xw j hj gl (by rw [← e]; rfl)).1 rfl))
  have hrW : W'.ownsRow z.heap.size 3 1 (.slice (some ⟨gr, 0, none⟩) M M) M (intsV res) := h.or.kept hg (.inr (fun e => (h.xw j hj gr (by rw [← e]; rfl)).2 rfl))
  have hq : ∀ i ∈ List.range N, ∀ k, (up1 qw j q' i).map Addr.block = some k → (qw i).map Addr.block = some k ∨ k = W.heap.size := fun i _ k e => by
    unfold up1 at e
    split at e
    · rename_i ei
      subst ei
      rcases hb with d | d
      · rw [d] at e; exact .inl e
      · rw [d] at e; injection e with e; exact .inr e.symm
    · exact .inl e
  refine ⟨hs, own_setOther (a := ⟨gw, j, none⟩) hlW (fun e => h.n1 (by injection e with e; exact e.symm)), own_setOther (a := ⟨gw, j, none⟩) hrW (fun e => h.n2 (by injection e with e; exact e.symm)),
    h.bw, h.n1, h.n2, h.n3, fun i hi k e => ?_, (h.bl.grown hg h.bl.size (fun k e => (h.sw.blk hj e).1)).setCell (p := ⟨gw, j, none⟩) h.bw _⟩
  rcases hq i hi k e with d | d
  · exact h.xw i hi k d
  · omega
end
end Go.Proofs.Ytgaacdnljkildaa
