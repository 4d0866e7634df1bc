/- Facts on a copied memory: as a memory of its own, and one of whose bytes is then set. -/
import Derived.Test.YtgchdiocbllppaaDoorRK
import Derived.Test.YtgchdiocbllppaaDoorRH
namespace Go.Proofs.YtgchdiocbllppaaDoor
open Go.RowKit M

theorem RowBlk.row {w : World} {g : Nat} {xs : List Int} (h : RowBlk w g xs) (hs : xs.length ≤ 140737488351232) (hb : ∀ j, j < xs.length → 0 ≤ xs.getD j 0 ∧ xs.getD j 0 < 256) : RowAt w (some ⟨g, 0, none⟩) xs := by
  obtain ⟨cur, hh, ht⟩ := h
  refine ⟨hs, fun j hj => ⟨g, 0, rfl, (Array.getElem?_eq_some_iff.1 hh).1, ?_⟩, hb⟩
  have e : (cur.toList.take xs.length)[j]? = some (.int .u8 (xs.getD j 0)) := by rw [ht]; simp [bytesV, hj]
  rw [List.getElem?_take_of_lt hj] at e
  simp only [World.cell?, hh, Nat.zero_add]
  simpa using e
theorem RowBlk.setAt {w : World} {g j : Nat} {xs : List Int} {v : Int} (h : RowBlk w g xs) : RowBlk (w.setCell ⟨g, j, none⟩ (.int .u8 v)) g (xs.set j v) := by
  obtain ⟨cur, hh, ht⟩ := h
  refine ⟨_, heap_setCell_same w g j cur 5 _ hh, ?_⟩
  simp only [Array.toList_setIfInBounds, List.length_set, List.take_set, ht, bytesV, List.map_set]
theorem RowBlk.other {w : World} {g : Nat} {a : Addr} {xs : List Int} {v : Value} (h : RowBlk w g xs) (hne : g ≠ a.block) : RowBlk (w.setCell a v) g xs :=
  h.of_block (heap_setCell_other w a g v hne)
theorem RowBlk.frozen {w : World} {g j : Nat} {xs : List Int} (h : RowBlk w g xs) : w.frozen? ⟨g, j, none⟩ = false := by
  obtain ⟨cur, hh, _⟩ := h
  exact frozen_of_row w g j cur 5 hh
theorem RowBlk.cell {w : World} {g j : Nat} {xs : List Int} (h : RowBlk w g xs) (hj : j < xs.length) : w.cell? ⟨g, j, none⟩ = some (.int .u8 (xs.getD j 0)) := by
  obtain ⟨cur, hh, ht⟩ := h
  have e : (cur.toList.take xs.length)[j]? = some (.int .u8 (xs.getD j 0)) := by rw [ht]; simp [bytesV, hj]
  rw [List.getElem?_take_of_lt hj] at e
  simp only [World.cell?, hh]
  simpa using e
theorem Copies.setAt {base : Nat} {w : World} {B C : Nat → Nat} {M : List (List Int)} {K r j : Nat} {v : Int} (h : Copies base w B C M K) (hK : M.length = K) (hr : r < K) :
    Copies base (w.setCell ⟨B r, j, none⟩ (.int .u8 v)) B C (M.set r ((M.getD r []).set j v)) K := by
  subst hK
  refine ⟨fun i hi => ?_, fun i hi => ?_, h.ge, h.inj⟩
  · rw [getD_set hr]
    by_cases e : i = r
    · subst e; rw [if_pos rfl]; exact (h.blk i hi).setAt
    · rw [if_neg e]; exact (h.blk i hi).other (h.inj i r hi hr e)
  · rw [getD_set hr]
    by_cases e : i = r
    · subst e; rw [if_pos rfl, List.length_set]; exact h.cap i hi
    · rw [if_neg e]; exact h.cap i hi
/-- a copy is a memory -/
theorem copies_mem {w : World} {base base2 : Nat} {v : Value} {B C : Nat → Nat} {M M2 : List (List Int)} (hs : M.length ≤ 140737488351232) (hr : ∀ i, (M.getD i []).length ≤ 140737488351232)
    (hb : ∀ i j, i < M.length → j < (M.getD i []).length → 0 ≤ (M.getD i []).getD j 0 ∧ (M.getD i []).getD j 0 < 256) (he : M2.length = M.length ∧ ∀ i, (M2.getD i []).length = (M.getD i []).length)
    (ho : w.ownsRow base 36 1 v M.length ((List.range M.length).map (rowC B C M2))) (hc : Copies base2 w B C M M.length) :
    ∃ mp mc, v = .slice mp M.length mc ∧ MemAt w mp (fun i => some ⟨B i, 0, none⟩) C M := by
  by_cases h0 : M.length = 0
  · obtain rfl : M = [] := List.length_eq_zero_iff.1 h0
    obtain ⟨_, ⟨rfl, _⟩ | ⟨g, cap, cur, rfl, _⟩⟩ := ho
    · exact ⟨_, _, rfl, mem_nil _ _ _ _⟩
    · exact ⟨_, _, rfl, mem_nil _ _ _ _⟩
  · obtain ⟨g, cap, cur, hv, _, hg, _, _, hh, hcells⟩ := owns_cells ho (by omega)
    refine ⟨some ⟨g, 0, none⟩, cap, hv, ⟨hs, hr, fun i hi => ⟨g, 0, rfl, hg, ?_, (hc.cap i hi).1, (hc.cap i hi).2⟩, fun i j hi hj => ?_, hb⟩⟩
    · rw [Nat.zero_add, hcells i (rowC B C M2 i) hi (by simp [hi]), rowC, he.2 i]
    · exact ⟨B i, 0, rfl, (hc.blk i hi).lt, by rw [Nat.zero_add]; exact (hc.blk i hi).cell hj⟩

theorem splice_snoc {xs : List Int} {o k : Nat} {bs : List Int} (hfit : o + bs.length ≤ xs.length) (hk : k < bs.length) :
    splice xs o (bs.take (k + 1)) = (splice xs o (bs.take k)).set (o + k) (bs.getD k 0) := by
  have l1 : (bs.take k).length = k := by simp; omega
  have l2 : (bs.take (k + 1)).length = k + 1 := by simp; omega
  apply List.ext_getElem?
  intro j
  by_cases hj : j < xs.length
  · have s1 : j < (splice xs o (bs.take (k + 1))).length := by simp [splice]; omega
    have s2 : j < ((splice xs o (bs.take k)).set (o + k) (bs.getD k 0)).length := by simp [splice]; omega
    have g1 := splice_getD (xs := xs) (o := o) (bs := bs.take (k + 1)) (j := j) (by omega) hj
    have g2 := splice_getD (xs := xs) (o := o) (bs := bs.take k) (j := j) (by omega) hj
    rw [l2] at g1
    rw [l1] at g2
    have e1 : (splice xs o (bs.take (k + 1)))[j]? = some ((splice xs o (bs.take (k + 1))).getD j 0) := by simp [s1]
    have s3 : j < (splice xs o (bs.take k)).length := by simpa using s2
    have e2 : (splice xs o (bs.take k))[j]? = some ((splice xs o (bs.take k)).getD j 0) := by simp [s3]
    rw [e1, List.getElem?_set, e2, g1, g2]
    by_cases h1 : o + k = j
    · subst h1
      rw [if_pos ⟨by omega, by omega⟩, if_pos rfl, if_pos s3]
      have : o + k - o = k := by omega
      rw [this]
      simp [hk]
    · rw [if_neg h1]
      by_cases h2 : o ≤ j ∧ j < o + k
      · rw [if_pos ⟨h2.1, by omega⟩, if_pos h2]
        simp only [List.getD_eq_getElem?_getD]
        rw [List.getElem?_take_of_lt (by omega), List.getElem?_take_of_lt (by omega)]
      · rw [if_neg (by omega), if_neg h2]
  · rw [List.getElem?_eq_none (by simp [splice]; omega), List.getElem?_eq_none (by simp [splice]; omega)]
theorem fillM_zero (M : List (List Int)) (r o : Nat) : fillM M r o [] = M := by
  unfold fillM
  have : splice (M.getD r []) o [] = M.getD r [] := by simp [splice]
  rw [this]
  apply List.ext_getElem?
  intro i
  rw [List.getElem?_set]
  by_cases h : r = i
  · subst h
    by_cases h2 : r < M.length
    · simp [h2]
    · simp [h2]
  · rw [if_neg h]
theorem fillM_getD {M : List (List Int)} {r o : Nat} {bs : List Int} (hr : r < M.length) (i : Nat) : (fillM M r o bs).getD i [] = if i = r then splice (M.getD r []) o bs else M.getD i [] := getD_set hr
theorem fillM_snoc {M : List (List Int)} {r o k : Nat} {bs : List Int} (hr : r < M.length) (hfit : o + bs.length ≤ (M.getD r []).length) (hk : k < bs.length) :
    fillM M r o (bs.take (k + 1)) = (fillM M r o (bs.take k)).set r (((fillM M r o (bs.take k)).getD r []).set (o + k) (bs.getD k 0)) := by
  rw [fillM_getD hr, if_pos rfl, ← splice_snoc hfit hk]
  simp [fillM, List.set_set]
theorem splice_len {xs : List Int} {o : Nat} {bs : List Int} (hfit : o + bs.length ≤ xs.length) : (splice xs o bs).length = xs.length := by simp [splice]; omega
theorem fillM_len {M : List (List Int)} {r o : Nat} {bs : List Int} (hr : r < M.length) (hfit : o + bs.length ≤ (M.getD r []).length) (i : Nat) : ((fillM M r o bs).getD i []).length = (M.getD i []).length := by
  rw [fillM_getD hr]
  by_cases h : i = r
  · subst h; rw [if_pos rfl]; exact splice_len hfit
  · rw [if_neg h]
theorem fillM_byte {M : List (List Int)} {r o : Nat} {bs : List Int} (hr : r < M.length) (hfit : o + bs.length ≤ (M.getD r []).length)
    (hb : ∀ i j, i < M.length → j < (M.getD i []).length → 0 ≤ (M.getD i []).getD j 0 ∧ (M.getD i []).getD j 0 < 256) (hbs : ∀ j, j < bs.length → 0 ≤ bs.getD j 0 ∧ bs.getD j 0 < 256) :
    ∀ i j, i < (fillM M r o bs).length → j < ((fillM M r o bs).getD i []).length → 0 ≤ ((fillM M r o bs).getD i []).getD j 0 ∧ ((fillM M r o bs).getD i []).getD j 0 < 256 := by
  intro i j hi hj
  rw [fillM_length] at hi
  rw [fillM_len hr hfit] at hj
  rw [fillM_getD hr]
  by_cases h : i = r
  · subst h
    rw [if_pos rfl, splice_getD hfit hj]
    by_cases h2 : o ≤ j ∧ j < o + bs.length
    · rw [if_pos h2]; exact hbs _ (by omega)
    · rw [if_neg h2]; exact hb i j hi hj
  · rw [if_neg h]; exact hb i j hi hj
/-- a row that lies where it lay -/
theorem ownsRow_of_block {base : Nat} {e : TypeId} {size n : Nat} {g c : Nat} {xs : List Value} {w w' : World} (h : w.ownsRow base e size (.slice (some ⟨g, 0, none⟩) n c) n xs) (hg : w'.heap[g]? = w.heap[g]?) : w'.ownsRow base e size (.slice (some ⟨g, 0, none⟩) n c) n xs := by
  obtain ⟨hl, h | ⟨g', cap, cur, hv, hge, hh, r⟩⟩ := h
  · exact ⟨hl, .inl h⟩
  · injection hv with h1 h2 h3
    injection h1 with h1
    injection h1 with h1
    subst h1
    subst h3
    exact ⟨hl, .inr ⟨g, c, cur, rfl, hge, hg.trans hh, r⟩⟩
theorem ownsRow_blk {base : Nat} {e : TypeId} {size n : Nat} {g c : Nat} {xs : List Value} {w : World} (h : w.ownsRow base e size (.slice (some ⟨g, 0, none⟩) n c) n xs) : ∃ cur, w.heap[g]? = some (.cells cur e (0, 0)) := by
  obtain ⟨hl, h | ⟨g', cap, cur, hv, hge, hh, r⟩⟩ := h
  · cases h.1
  · injection hv with h1 h2 h3
    injection h1 with h1
    injection h1 with h1
    subst h1
    exact ⟨cur, hh⟩
theorem blk_ne {w : World} {g b : Nat} {xs : List Int} {cur : Array Value} (hg : w.heap[g]? = some (.cells cur 36 (0, 0))) (h : RowBlk w b xs) : g ≠ b := by
  rintro rfl
  obtain ⟨cur', hh, _⟩ := h
  rw [hg] at hh
  injection hh with hh
  injection hh with _ hh _
  exact absurd hh (by decide)
end Go.Proofs.YtgchdiocbllppaaDoor
