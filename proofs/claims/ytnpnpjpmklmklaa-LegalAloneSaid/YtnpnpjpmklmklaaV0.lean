/- Lists of instructions as rows that grow; one put for another. -/
import Derived.Test.YtnpnpjpmklmklaaU
import Derived.Deep.Slices
namespace Go.Proofs.Ytnpnpjpmklmklaa
open Go.RowKit M

theorem info36 : (Try.prog.info? 36).map (fun i => (i.zero, i.size, i.bytes)) = some (some (.agg #[.int .i64 0, .int .i64 0, .int .i64 0, .int .i64 0, .int .i64 0, .int .u64 0]), 6, 48) := by kernel_rfl
def cellsI (x : In) : List Value := [.int .i64 x.op, .int .i64 x.dst, .int .i64 x.src, .int .i64 x.off, .int .i64 x.imm, .int .u64 x.wide]
def flatV : List In → List Value
  | [] => []
  | x :: l => cellsI x ++ flatV l
theorem flatV_length (l : List In) : (flatV l).length = l.length * 6 := by
  induction l with
  | nil => rfl
  | cons x l ih => simp [flatV, cellsI, ih]; omega
theorem flatV_append (l r : List In) : flatV (l ++ r) = flatV l ++ flatV r := by
  induction l with
  | nil => rfl
  | cons x l ih => simp [flatV, ih]
theorem flatV_get {l : List In} {i j : Nat} (hi : i < l.length) (hj : j < 6) : (flatV l)[i * 6 + j]? = (cellsI (l.getD i z))[j]? := by
  induction l generalizing i with
  | nil => simp at hi
  | cons x l ih =>
    cases i with
    | zero =>
      rw [Nat.zero_mul, Nat.zero_add]
      show (cellsI x ++ flatV l)[j]? = (cellsI x)[j]?
      rw [List.getElem?_append_left (by simp [cellsI]; omega)]
    | succ i =>
      have e : (i + 1) * 6 + j = 6 + (i * 6 + j) := by omega
      rw [e]
      show (cellsI x ++ flatV l)[6 + (i * 6 + j)]? = _
      rw [List.getElem?_append_right (by simp [cellsI])]
      have : 6 + (i * 6 + j) - (cellsI x).length = i * 6 + j := by simp [cellsI]
      rw [this, ih (by simpa using hi)]
      rfl
theorem flatV_one (l : List In) : ∀ u ∈ flatV l, u.oneCell' = true := by
  induction l with
  | nil => intro u hu; simp [flatV] at hu
  | cons x l ih =>
    intro u hu
    rcases List.mem_append.1 hu with h | h
    · simp [cellsI] at h
      rcases h with h | h | h | h | h | h <;> subst h <;> rfl
    · exact ih u h
theorem insAt_of {w : World} {g : Nat} {l : List In} (hs : l.length ≤ 140737488351232) (hb : ∀ i, i < l.length → Bd (l.getD i z)) (hg : g < w.heap.size) (hc : ∀ k v, (flatV l)[k]? = some v → w.cell? ⟨g, k, none⟩ = some v) : InsAt w (some ⟨g, 0, none⟩) l :=
  ⟨hs, fun i hi => by
    have f := fun j (hj : j < 6) v (hv : (cellsI (l.getD i z))[j]? = some v) => hc (i * 6 + j) v (by rw [flatV_get hi hj]; exact hv)
    refine ⟨g, 0, rfl, hg, ?_, ?_, ?_, ?_, ?_, ?_⟩
    · simpa using f 0 (by omega) _ rfl
    · simpa using f 1 (by omega) _ rfl
    · simpa using f 2 (by omega) _ rfl
    · simpa using f 3 (by omega) _ rfl
    · simpa using f 4 (by omega) _ rfl
    · simpa using f 5 (by omega) _ rfl, hb⟩
theorem owns6 {w : World} {base n : Nat} {v : Value} {l : List In} (h : w.ownsRow base 36 6 v n (flatV l)) (hn : 0 < n) (hl : l.length = n) (hs : n ≤ 140737488351232) (hb : ∀ i, i < l.length → Bd (l.getD i z)) :
    ∃ g cap, v = .slice (some ⟨g, 0, none⟩) n cap ∧ InsAt w (some ⟨g, 0, none⟩) l := by
  obtain ⟨hl', h | ⟨g, cap, cur, hv, hg, hh, h1, h2, h3, h4⟩⟩ := h
  · omega
  · refine ⟨g, cap, hv, insAt_of (by omega) hb (Array.getElem?_eq_some_iff.1 hh).1 fun k u hu => ?_⟩
    have hk : k < n * 6 := by
      have := (List.getElem?_eq_some_iff.1 hu).1
      omega
    rw [← h4, List.getElem?_take_of_lt hk] at hu
    simp only [World.cell?, hh]
    simpa using hu
theorem InsAt.src {w : World} {q : Option Addr} {l : List In} (h : InsAt w q l) (hp : 0 < l.length) : ∃ ad, q = some ad ∧ ∀ j u, (flatV l)[j]? = some u → w.cell? (ad.add j) = some u := by
  obtain ⟨b, off, rfl, _⟩ := h.cells 0 hp
  refine ⟨_, rfl, fun j u hu => ?_⟩
  have hj : j < l.length * 6 := by
    have := (List.getElem?_eq_some_iff.1 hu).1
    rwa [flatV_length] at this
  obtain ⟨b', off', e, _, c0, c1, c2, c3, c4, c5⟩ := h.cells (j / 6) (by omega)
  injection e with e
  injection e with e1 e2
  subst e1 e2
  have hd : (⟨b, off, none⟩ : Addr).add j = ⟨b, off + j, none⟩ := by
    by_cases h0 : j = 0
    · subst h0; simp [Addr.add]
    · simp [Addr.add, h0]
  rw [hd]
  have hj' : j = j / 6 * 6 + j % 6 := by omega
  rw [hj', flatV_get (by omega) (by omega)] at hu
  rw [hj']
  have hr : j % 6 < 6 := Nat.mod_lt _ (by omega)
  generalize j / 6 = i at *
  generalize j % 6 = r at *
  clear hj hj' hd
  have e : r = 0 ∨ r = 1 ∨ r = 2 ∨ r = 3 ∨ r = 4 ∨ r = 5 := by omega
  rcases e with rfl | rfl | rfl | rfl | rfl | rfl <;> (simp only [cellsI] at hu; simp at hu; subst hu)
  · simpa using c0
  · simpa [Nat.add_assoc] using c1
  · simpa [Nat.add_assoc] using c2
  · simpa [Nat.add_assoc] using c3
  · simpa [Nat.add_assoc] using c4
  · simpa [Nat.add_assoc] using c5
theorem own_empty (w : World) (e : TypeId) (size : Nat) (B : Nat) (hB : B ≤ w.heap.size) : (w.alloc (.cells #[] e)).ownsRow B e size (.slice (some ⟨w.heap.size, 0, none⟩) 0 0) 0 [] :=
  ⟨by simp, .inr ⟨w.heap.size, 0, #[], rfl, hB, heap_alloc_new w _, Nat.le_refl _, Nat.zero_le _, by simp, by simp⟩⟩
theorem srcI {w : World} {ad : Addr} {l : List In} (h : InsAt w (some ad) l) : ∀ j u, (flatV l)[j]? = some u → w.cell? (ad.add j) = some u := by
  intro j u hu
  have hj : j < l.length * 6 := by
    have := (List.getElem?_eq_some_iff.1 hu).1
    rwa [flatV_length] at this
  obtain ⟨ad', e, hc⟩ := h.src (by omega)
  injection e with e
  subst e
  exact hc j u hu
theorem flatV_len {l : List In} {N : Nat} (h : N = l.length) : (flatV l).length = N * 6 := by rw [flatV_length, h]
theorem growB {w w2 w' : World} {n size : Nat} {e : TypeId} {v : Value} {xs : List Value} (hb : Below w.heap.size w w2) (ho : w2.ownsRow w.heap.size e size v n xs) (hg : w2.grownBy w' v.ownBlock) : Below w.heap.size w w' :=
  hb.grown hg hb.size (own_ge ho)
theorem alloc_own (w : World) (o : Obj) : Below w.heap.size w (w.alloc o) := (Below.refl _ _).alloc (Nat.le_refl _) o
end Go.Proofs.Ytnpnpjpmklmklaa
