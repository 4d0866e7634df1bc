/- Facts on a memory that a call copies row by row, and one of whose rows it then writes. -/
import Derived.Test.YtgchdiocbllppaaDoorH
import Derived.Test.YtgchdiocbllppaaDoorI
namespace Go.Proofs.YtgchdiocbllppaaDoor
open Go.RowKit M

/-- one block holds something else; all else is as it was -/
structure OneRow (w w' : World) (g : Nat) (o : Obj) : Prop where
  os : w'.os = w.os
  tape : w'.tape = w.tape
  output : w'.output = w.output
  size : w'.heap.size = w.heap.size
  other : ∀ k, k ≠ g → w'.heap[k]? = w.heap[k]?
  row : w'.heap[g]? = some o
theorem OneRow.below {w0 w w' : World} {B g : Nat} {o : Obj} (h : OneRow w w' g o) (hb : Below B w0 w) (hg : B ≤ g) : Below B w0 w' :=
  hb.trans ⟨h.os, h.tape, h.output, Nat.le_of_eq h.size.symm, fun k hk => h.other k (by omega)⟩
theorem oneRow_set {w : World} {g : Nat} {cur : Array Value} {t : TypeId} (cs : Array Value) (h : w.heap[g]? = some (.cells cur t (0, 0))) : OneRow w (w.setRow g cs) g (.cells cs t (0, 0)) :=
  ⟨rfl, rfl, rfl, by simp [World.setRow], fun k hk => setRow_other w g k cs hk, setRow_heap w g _ _ t _ h⟩

/-- copy into a row of the call's own, said whole. -/
theorem step_copy_one {P : Program} {ops : Array Oper} {o : Oper} {a : Act} {w : World} {K : Act → World → Prop} {Q : Exit → Act → World → Prop} {E : Prop} (hgd : o.guard = none) (d s : Operand) (dT sT : TypeId)
    (ho : o.op = .call { callee := .builtin .copy, args := #[d, s], argTypes := #[dT, sT] }) (elem : TypeId) (hu : P.underlying dT = some (.slice elem)) (hsz : (P.info? elem).map (·.size) = some 1)
    (g off dLen dCap : Nat) (ad : Addr) (sLen sCap : Nat) (hd : a.eval d = .slice (some ⟨g, off, none⟩) dLen dCap) (hs : a.eval s = .slice (some ad) sLen sCap)
    (cur : List Value) (t : TypeId) (hg : w.heap[g]? = some (.cells cur.toArray t (0, 0))) (cs : List Value) (hn : cs.length = Nat.min sLen dLen)
    (hsrc : ∀ j v, cs[j]? = some v → w.cell? (ad.add j) = some v)
    (hfit : off + cs.length ≤ cur.length) (h1 : ∀ v ∈ cs, v.oneCell' = true)
    (h : ∀ w', OneRow w w' g (.cells (splice cur off cs).toArray t (0, 0)) → K (a.put o.dst (goInt cs.length)) w') :
    if Region.wanted o (yielded ops a.tmps) = true then Oper.wp P o a w K Q else E := by
  have hw : Region.wanted o (yielded ops a.tmps) = true := by simp [Region.wanted, hgd]
  rw [if_pos hw]
  have hrun := run_copy_row (P := P) w dT sT o.type elem g off dLen dCap ad sLen sCap cur.toArray t cs hu hsz hg hn hsrc (by simpa using hfit) h1
  unfold Oper.wp
  simp [execOp, ho, resolve, invoke, builtin, hd, hs, hrun, Result.andThen]
  exact h _ (by simpa [splice] using oneRow_set _ hg)

theorem bytesV_splice (xs : List Int) (o : Nat) (bs : List Int) : splice (bytesV xs) o (bytesV bs) = bytesV (splice xs o bs) := by
  simp [splice, bytesV]
/-- the memory with bytes at an offset of a row -/
def fillM (M : List (List Int)) (r o : Nat) (bs : List Int) : List (List Int) := M.set r (splice (M.getD r []) o bs)

/-- the first k rows are copied, each into a block of its own -/
structure Twins (w0 wr : World) (g K k : Nat) (M : List (List Int)) (B : Nat → Nat) : Prop where
  below : Below g w0 wr
  row : wr.rowIs g 36 K (fun j => if j < k then .slice (some ⟨B j, 0, none⟩) (M.getD j []).length (M.getD j []).length else .slice none 0 0)
  blk : ∀ j, j < k → wr.heap[B j]? = some (.cells (bytesV (M.getD j [])).toArray 5 (0, 0))
  gt : ∀ j, j < k → g < B j
  inj : ∀ i j, i < k → j < k → i ≠ j → B i ≠ B j
theorem Twins.snoc {w0 wr w5 : World} {g K k : Nat} {M : List (List Int)} {B : Nat → Nat} (h : Twins w0 wr g K k M B) (hb : Below wr.heap.size wr w5) (hn : w5.heap[wr.heap.size]? = some (.cells (bytesV (M.getD k [])).toArray 5 (0, 0))) :
    Twins w0 (w5.setCell ⟨g, k, none⟩ (.slice (some ⟨wr.heap.size, 0, none⟩) (M.getD k []).length (M.getD k []).length)) g K (k + 1) M (upd B k wr.heap.size) := by
  have hg : g < wr.heap.size := h.row.lt
  have hB : ∀ j, j < k → B j < wr.heap.size := fun j hj => (Array.getElem?_eq_some_iff.1 (h.blk j hj)).1
  refine ⟨(h.below.trans (hb.mono (Nat.le_of_lt hg))).setCell (p := ⟨g, k, none⟩) (Nat.le_refl _) _, ((rowIs_below h.row hb hg).set k _).congr fun j _ => ?_, fun j hj => ?_, fun j hj => ?_, fun i j hi hj hne => ?_⟩
  · by_cases e : j = k
    · subst e; simp [upd]
    · by_cases e2 : j < k
      · rw [if_neg e, if_pos e2, if_pos (by omega)]; simp [upd, e]
      · rw [if_neg e, if_neg e2, if_neg (by omega)]
  · by_cases e : j = k
    · subst e
      have : upd B j wr.heap.size j = wr.heap.size := by simp [upd]
      rw [this, Below.heap_setCell _ _ _ _ (by show wr.heap.size ≠ g; omega)]
      exact hn
    · have hj' : j < k := by omega
      have : upd B k wr.heap.size j = B j := by simp [upd, e]
      rw [this, Below.heap_setCell _ _ _ _ (by have := h.gt j hj'; show B j ≠ g; omega), hb.block _ (hB j hj')]
      exact h.blk j hj'
  · by_cases e : j = k
    · subst e; simpa [upd] using hg
    · have := h.gt j (by omega)
      simpa [upd, e] using this
  · by_cases e : i = k
    · by_cases e2 : j = k
      · omega
      · have := hB j (by omega)
        simp [upd, e, e2]; omega
    · by_cases e2 : j = k
      · have := hB i (by omega)
        simp [upd, e, e2]; omega
      · have := h.inj i j (by omega) (by omega) hne
        simpa [upd, e, e2] using this
theorem getD_set {M : List (List Int)} {r i : Nat} {x : List Int} (hr : r < M.length) : (M.set r x).getD i [] = if i = r then x else M.getD i [] := by
  by_cases h : i = r
  · subst h; simp [hr]
  · rw [if_neg h]
    simp [List.getElem?_set_ne (Ne.symm h)]
theorem splice_getD {xs : List Int} {o : Nat} {bs : List Int} {j : Nat} (hfit : o + bs.length ≤ xs.length) (hj : j < xs.length) :
    (splice xs o bs).getD j 0 = if o ≤ j ∧ j < o + bs.length then bs.getD (j - o) 0 else xs.getD j 0 := by
  unfold splice
  simp only [List.getD_eq_getElem?_getD]
  by_cases e1 : j < o
  · rw [if_neg (by omega), List.getElem?_append_left (by simp; omega), List.getElem?_take_of_lt e1]
  · by_cases e2 : j < o + bs.length
    · rw [if_pos (by omega), List.getElem?_append_right (by simp; omega), List.getElem?_append_left (by simp; omega)]
      congr 2
      simp; omega
    · rw [if_neg (by omega), List.getElem?_append_right (by simp; omega), List.getElem?_append_right (by simp; omega), List.getElem?_drop]
      congr 2
      simp; omega
/-- all rows copied, one of them written: a memory -/
theorem Twins.mem {w0 wr w' : World} {g : Nat} {M : List (List Int)} {B : Nat → Nat} (h : Twins w0 wr g M.length M.length M B) {r o : Nat} {bs : List Int} (hr : r < M.length) (hfit : o + bs.length ≤ (M.getD r []).length)
    (hbM : ∀ i j, i < M.length → j < (M.getD i []).length → 0 ≤ (M.getD i []).getD j 0 ∧ (M.getD i []).getD j 0 < 256) (hbb : ∀ j, j < bs.length → 0 ≤ bs.getD j 0 ∧ bs.getD j 0 < 256)
    (hs : M.length ≤ 140737488351232) (hrs : ∀ i, (M.getD i []).length ≤ 140737488351232)
    (ho : OneRow wr w' (B r) (.cells (bytesV (splice (M.getD r []) o bs)).toArray 5 (0, 0))) :
    MemAt w' (some ⟨g, 0, none⟩) (fun i => some ⟨B i, 0, none⟩) (fun i => (M.getD i []).length) (fillM M r o bs) := by
  have hl : (fillM M r o bs).length = M.length := by simp [fillM]
  have hsl : (splice (M.getD r []) o bs).length = (M.getD r []).length := length_splice _ _ _ hfit
  have hrow : ∀ i, ((fillM M r o bs).getD i []) = if i = r then splice (M.getD r []) o bs else M.getD i [] := fun i => getD_set hr
  have hrl : ∀ i, ((fillM M r o bs).getD i []).length = (M.getD i []).length := fun i => by
    rw [hrow i]
    by_cases e : i = r
    · subst e; rw [if_pos rfl]; exact hsl
    · rw [if_neg e]
  have hblk : ∀ i, i < M.length → w'.heap[B i]? = some (.cells (bytesV ((fillM M r o bs).getD i [])).toArray 5 (0, 0)) := fun i hi => by
    rw [hrow i]
    by_cases e : i = r
    · subst e; rw [if_pos rfl]; exact ho.row
    · rw [if_neg e, ho.other _ (h.inj i r hi hr e)]; exact h.blk i hi
  have hbyte : ∀ i j, i < M.length → j < (M.getD i []).length → 0 ≤ ((fillM M r o bs).getD i []).getD j 0 ∧ ((fillM M r o bs).getD i []).getD j 0 < 256 := fun i j hi hj => by
    rw [hrow i]
    by_cases e : i = r
    · subst e
      rw [if_pos rfl]
      rw [splice_getD hfit hj]
      by_cases e1 : o ≤ j ∧ j < o + bs.length
      · rw [if_pos e1]; exact hbb _ (by omega)
      · rw [if_neg e1]; exact hbM i j hi hj
    · rw [if_neg e]; exact hbM i j hi hj
  refine ⟨by rw [hl]; exact hs, fun i => by rw [hrl i]; exact hrs i, fun i hi => ?_, fun i j hi hj => ?_, fun i j hi hj => ?_⟩
  · rw [hl] at hi
    have hgt := h.gt r hr
    have hc := (h.row.of_block (w' := w') (ho.other g (by omega))).cell hi
    rw [if_pos hi] at hc
    refine ⟨g, 0, rfl, ?_, ?_, by rw [hrl i]; exact Nat.le_refl _, Nat.le_trans (hrs i) (by omega)⟩
    · rw [ho.size]; exact h.row.lt
    · rw [Nat.zero_add, hrl i]; exact hc
  · rw [hl] at hi
    have hb := hblk i hi
    refine ⟨B i, 0, rfl, (Array.getElem?_eq_some_iff.1 hb).1, ?_⟩
    generalize (fillM M r o bs).getD i [] = R at hb hj ⊢
    simp only [World.cell?, hb, Nat.zero_add]
    simp [bytesV, hj]
  · rw [hl] at hi
    rw [hrl i] at hj
    exact hbyte i j hi hj
end Go.Proofs.YtgchdiocbllppaaDoor
