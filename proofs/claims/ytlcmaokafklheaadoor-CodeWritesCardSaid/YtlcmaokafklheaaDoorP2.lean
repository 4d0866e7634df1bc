/- What bytes decode to, and instructions as cells. -/
import Derived.Test.YtlcmaokafklheaaDoorRS
namespace Go.Proofs.YtlcmaokafklheaaDoor
open Go.RowKit M

theorem info38 : (Tryd.prog.info? 38).map (fun i => (i.zero, i.size, i.bytes)) = some (some (.agg #[.int .i64 0, .int .i64 0, .int .i64 0, .int .i64 0, .int .i64 0, .int .u64 0]), 6, 48) := by kernel_rfl
/-- the slots of bytes -/
def slotOf (xs : List Int) (i : Nat) : In := unp (getN (cut xs (i * 8) 8))
def okS (S : Nat → In) (n : Nat) : Bool := (List.range n).all fun i => !badB S n i
theorem okS_true {S : Nat → In} {n : Nat} : okS S n = true ↔ ∀ i, i < n → badB S n i = false := by simp [okS]
theorem okS_false {S : Nat → In} {n i : Nat} (hi : i < n) (h : badB S n i = true) : okS S n = false := by
  cases h' : okS S n
  · rfl
  · rw [okS_true] at h'; rw [h' i hi] at h; cases h
def decL (S : Nat → In) (k : Nat) : List In := (List.range k).map (dec S)
theorem decL_length (S : Nat → In) (k : Nat) : (decL S k).length = k := by simp [decL]
theorem decL_snoc (S : Nat → In) (k : Nat) : decL S (k + 1) = decL S k ++ [dec S k] := by simp [decL, List.range_succ]
theorem decL_getD (S : Nat → In) {k i : Nat} (h : i < k) : (decL S k).getD i z = dec S i := by simp [decL, h]
theorem dec_bd {S : Nat → In} (h : ∀ i, Bd (S i)) (i : Nat) : Bd (dec S i) := by
  unfold dec
  split
  · exact Bd.z
  · split
    · obtain ⟨a, b, c, d, e, f⟩ := h i
      have := wideOf_bd (S i) (S (i + 1))
      exact ⟨a, b, c, d, e, by dsimp only; omega⟩
    · exact h i
theorem slotOf_bd (xs : List Int) (i : Nat) : Bd (slotOf xs i) := unp_bd _

def cellsI (x : In) : List Value := [.int .i64 x.op, .int .i64 x.dst, .int .i64 x.src, .int .i64 x.off, .int .i64 x.imm, .int .u64 x.wide]
def flatV : List In → List Value
  | [] => []
  | x :: l => cellsI x ++ flatV l
theorem flatV_length (l : List In) : (flatV l).length = l.length * 6 := by
  induction l with
  | nil => rfl
  | cons x l ih => simp [flatV, cellsI, ih]; omega
theorem flatV_append (l r : List In) : flatV (l ++ r) = flatV l ++ flatV r := by
  induction l with
  | nil => rfl
  | cons x l ih => simp [flatV, ih]
theorem flatV_get {l : List In} {i j : Nat} (hi : i < l.length) (hj : j < 6) : (flatV l)[i * 6 + j]? = (cellsI (l.getD i z))[j]? := by
  induction l generalizing i with
  | nil => simp at hi
  | cons x l ih =>
    cases i with
    | zero =>
      rw [Nat.zero_mul, Nat.zero_add]
      show (cellsI x ++ flatV l)[j]? = (cellsI x)[j]?
      rw [List.getElem?_append_left (by simp [cellsI]; omega)]
    | succ i =>
      have e : (i + 1) * 6 + j = 6 + (i * 6 + j) := by omega
      rw [e]
      show (cellsI x ++ flatV l)[6 + (i * 6 + j)]? = _
      rw [List.getElem?_append_right (by simp [cellsI])]
      have : 6 + (i * 6 + j) - (cellsI x).length = i * 6 + j := by simp [cellsI]
      rw [this, ih (by simpa using hi)]
      rfl
theorem flatV_one (l : List In) : ∀ u ∈ flatV l, u.oneCell' = true := by
  induction l with
  | nil => intro u hu; simp [flatV] at hu
  | cons x l ih =>
    intro u hu
    rcases List.mem_append.1 hu with h | h
    · simp [cellsI] at h
      rcases h with h | h | h | h | h | h <;> subst h <;> rfl
    · exact ih u h
theorem insAt_of {w : World} {g : Nat} {l : List In} (hs : l.length ≤ 140737488351232) (hb : ∀ i, i < l.length → Bd (l.getD i z)) (hg : g < w.heap.size) (hc : ∀ k v, (flatV l)[k]? = some v → w.cell? ⟨g, k, none⟩ = some v) : InsAt w (some ⟨g, 0, none⟩) l :=
  ⟨hs, fun i hi => by
    have f := fun j (hj : j < 6) v (hv : (cellsI (l.getD i z))[j]? = some v) => hc (i * 6 + j) v (by rw [flatV_get hi hj]; exact hv)
    refine ⟨g, 0, rfl, hg, ?_, ?_, ?_, ?_, ?_, ?_⟩
    · simpa using f 0 (by omega) _ rfl
    · simpa using f 1 (by omega) _ rfl
    · simpa using f 2 (by omega) _ rfl
    · simpa using f 3 (by omega) _ rfl
    · simpa using f 4 (by omega) _ rfl
    · simpa using f 5 (by omega) _ rfl, hb⟩
theorem owns6 {w : World} {base n : Nat} {v : Value} {l : List In} (h : w.ownsRow base 38 6 v n (flatV l)) (hn : 0 < n) (hl : l.length = n) (hs : n ≤ 140737488351232) (hb : ∀ i, i < l.length → Bd (l.getD i z)) :
    ∃ g cap, v = .slice (some ⟨g, 0, none⟩) n cap ∧ InsAt w (some ⟨g, 0, none⟩) l := by
  obtain ⟨hl', h | ⟨g, cap, cur, hv, hg, hh, h1, h2, h3, h4⟩⟩ := h
  · omega
  · refine ⟨g, cap, hv, insAt_of (by omega) hb (Array.getElem?_eq_some_iff.1 hh).1 fun k u hu => ?_⟩
    have hk : k < n * 6 := by
      have := (List.getElem?_eq_some_iff.1 hu).1
      omega
    rw [← h4, List.getElem?_take_of_lt hk] at hu
    simp only [World.cell?, hh]
    simpa using hu
def DecPost (S : Nat → In) (n : Nat) (w : World) (e : Ending) (w' : World) : Prop :=
  (okS S n = true ∧ ∃ g cap, e = .returned (.tuple #[.slice (some ⟨g, 0, none⟩) n cap, .int .i64 0]) ∧ Below w.heap.size w w' ∧ InsAt w' (some ⟨g, 0, none⟩) (decL S n)) ∨
  (okS S n = false ∧ e = .returned (.tuple #[.slice none 0 0, .int .i64 30]) ∧ Below w.heap.size w w')
end Go.Proofs.YtlcmaokafklheaaDoor
