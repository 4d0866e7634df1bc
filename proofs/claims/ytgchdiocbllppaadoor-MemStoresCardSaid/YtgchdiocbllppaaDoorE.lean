/- Contract of Fresh: a memory of noughts. -/
import Derived.Test.YtgchdiocbllppaaDoorD
namespace Go.Proofs.YtgchdiocbllppaaDoor
open Go.RowKit M

theorem info36 : (Tryd.prog.info? 36).map (fun i => (i.zero, i.size, i.bytes)) = some (some (.slice none 0 0), 1, 24) := by kernel_rfl
theorem info5 : (Tryd.prog.info? 5).map (fun i => (i.zero, i.size, i.bytes)) = some (some (.int .u8 0), 1, 1) := by kernel_rfl

/-- the cells of an owned row of one-cell elements -/
theorem owns_cells {w : World} {base : Nat} {e : TypeId} {v : Value} {n : Nat} {xs : List Value} (h : w.ownsRow base e 1 v n xs) (hn : 0 < n) :
    ∃ g cap cur, v = .slice (some ⟨g, 0, none⟩) n cap ∧ base ≤ g ∧ g < w.heap.size ∧ n ≤ cap ∧ cap ≤ maxLen ∧ w.heap[g]? = some (.cells cur e (0, 0)) ∧ ∀ i x, i < n → xs[i]? = some x → w.cell? ⟨g, i, none⟩ = some x := by
  obtain ⟨hl, h | ⟨g, cap, cur, hv, hg, hh, h1, h2, h3, h4⟩⟩ := h
  · omega
  · refine ⟨g, cap, cur, hv, hg, ?_, h1, h2, hh, fun i x hi hx => ?_⟩
    · exact (Array.getElem?_eq_some_iff.1 hh).1
    · rw [Nat.mul_one] at h4
      rw [← h4, List.getElem?_take_of_lt hi] at hx
      simp only [World.cell?, hh]
      simpa using hx

/-- rows of noughts, as they are made one after the other -/
structure Rows0 (w : World) (Q : Nat → Nat) (Z : Nat → Nat) (k : Nat) : Prop where
  row : ∀ i, i < k → w.rowIs (Q i) 5 (Z i) (fun _ => .int .u8 0)
def rowV (Q : Nat → Nat) (Z : Nat → Nat) (i : Nat) : Value := .slice (some ⟨Q i, 0, none⟩) (Z i) (Z i)
def upd (Q : Nat → Nat) (k b : Nat) : Nat → Nat := fun i => if i = k then b else Q i
theorem rows_upd (Q Z : Nat → Nat) (k b : Nat) : (List.range k).map (rowV (upd Q k b) Z) = (List.range k).map (rowV Q Z) := by
  apply List.map_congr_left
  intro i hi
  have : i ≠ k := by have := List.mem_range.1 hi; omega
  simp [rowV, upd, this]
theorem rows_snoc (Q Z : Nat → Nat) (k b : Nat) : (List.range (k + 1)).map (rowV (upd Q k b) Z) = (List.range k).map (rowV Q Z) ++ [.slice (some ⟨b, 0, none⟩) (Z k) (Z k)] := by
  rw [List.range_succ, List.map_append, rows_upd]
  simp [rowV, upd]
/-- a row of bytes is none of slices -/
theorem row_ne_own {w : World} {base : Nat} {v : Value} {n : Nat} {xs : List Value} {b m : Nat} {f : Nat → Value} (h : w.ownsRow base 36 1 v n xs) (hr : w.rowIs b 5 m f) : some b ≠ v.ownBlock := by
  obtain ⟨_, ⟨rfl, _⟩ | ⟨g, cap, cur, rfl, _, hh, _⟩⟩ := h
  · simp [Value.ownBlock]
  · simp only [Value.ownBlock]
    intro e
    injection e with e
    subst e
    obtain ⟨c, hc, _⟩ := hr
    rw [hh] at hc
    injection hc with hc
    injection hc with _ hc _
    exact absurd hc (by decide)
theorem Rows0.grown {w w' : World} {Q Z : Nat → Nat} {k : Nat} {base : Nat} {v : Value} {n : Nat} {xs : List Value} (h : Rows0 w Q Z k) (ho : w.ownsRow base 36 1 v n xs) (hg : w.grownBy w' v.ownBlock) : Rows0 w' Q Z k :=
  ⟨fun i hi => (h.row i hi).of_block (hg.block _ (h.row i hi).lt (row_ne_own ho (h.row i hi)))⟩
theorem Rows0.alloc {w : World} {Q Z : Nat → Nat} {k : Nat} (h : Rows0 w Q Z k) (o : Obj) : Rows0 (w.alloc o) Q Z k := ⟨fun i hi => (h.row i hi).alloc o⟩
theorem Rows0.snoc {w : World} {Q Z : Nat → Nat} {k b : Nat} (h : Rows0 w Q Z k) (hr : w.rowIs b 5 (Z k) (fun _ => .int .u8 0)) : Rows0 w (upd Q k b) Z (k + 1) :=
  ⟨fun i hi => by
    by_cases e : i = k
    · subst e; simpa [upd] using hr
    · simpa [upd, e] using h.row i (by omega)⟩

def freshM (Z : Nat → Nat) (n : Nat) : List (List Int) := (List.range n).map fun i => List.replicate (Z i) 0
theorem fresh_mem {w : World} {base : Nat} {v : Value} {n : Nat} {Q Z : Nat → Nat} (hn : 0 < n) (hn8 : n ≤ 140737488351232) (hz : ∀ i, i < n → Z i ≤ 140737488351232) (h : w.ownsRow base 36 1 v n ((List.range n).map (rowV Q Z))) (hr : Rows0 w Q Z n) :
    ∃ g cap, v = .slice (some ⟨g, 0, none⟩) n cap ∧ MemAt w (some ⟨g, 0, none⟩) (fun i => some ⟨Q i, 0, none⟩) Z (freshM Z n) := by
  obtain ⟨g, cap, cur, hv, _, hg, _, _, hh, hc⟩ := owns_cells h hn
  have e1 : ∀ i, i < n → (freshM Z n).getD i [] = List.replicate (Z i) 0 := fun i hi => by simp [freshM, hi]
  have e2 : (freshM Z n).length = n := by simp [freshM]
  refine ⟨g, cap, hv, ⟨by rw [e2]; exact hn8, fun i => ?_, fun i hi => ?_, fun i j hi hj => ?_, fun i j hi hj => ?_⟩⟩
  · by_cases hi : i < n
    · rw [e1 i hi]; simpa using hz i hi
    · simp [freshM, hi]
  · rw [e2] at hi
    refine ⟨g, 0, rfl, hg, ?_, ?_, Nat.le_trans (hz i hi) (by omega)⟩
    · rw [e1 i hi, Nat.zero_add]
      have := hc i (rowV Q Z i) hi (by simp [hi])
      simpa [rowV] using this
    · rw [e1 i hi]; simp
  · rw [e2] at hi
    rw [e1 i hi] at hj ⊢
    have hj' : j < Z i := by simpa using hj
    refine ⟨Q i, 0, rfl, (hr.row i hi).lt, ?_⟩
    have := (hr.row i hi).cell hj'
    simpa [hj'] using this
  · rw [e2] at hi
    rw [e1 i hi] at hj ⊢
    have hj' : j < Z i := by simpa using hj
    simp [hj']
end Go.Proofs.YtgchdiocbllppaaDoor
