/- What the document's own Encode asks and answers, in plain mathematics; two small contracts. -/
import Derived.Test.YtlcmaokafklheaaDoorVW0
import Derived.Test.YtlcmaokafklheaaDoorRB
namespace Go.Proofs.YtlcmaokafklheaaDoor
open Go.RowKit M

def inB (n a b : Int) : Bool := decide (a ≤ n ∧ n ≤ b)
theorem within_b (n a b : Int) (w : World) : Calls Tryd.prog 25 #[.int .i64 n, .int .i64 a, .int .i64 b] w fun e w' => e = .returned (.bool (inB n a b)) ∧ w = w' := within_any n a b w
/-- is a number out of its field? -/
theorem fits_why {x : In} (h : fitsB x = false) : inB x.op 0 255 = false ∨ (inB x.op 0 255 = true ∧ inB x.dst 0 15 = false) ∨ (inB x.op 0 255 = true ∧ inB x.dst 0 15 = true ∧ inB x.src 0 15 = false) ∨
    (inB x.op 0 255 = true ∧ inB x.dst 0 15 = true ∧ inB x.src 0 15 = true ∧ inB x.off (-32768) 32767 = false) ∨ (inB x.op 0 255 = true ∧ inB x.dst 0 15 = true ∧ inB x.src 0 15 = true ∧ inB x.off (-32768) 32767 = true ∧ inB x.imm (-2147483648) 2147483647 = false) := by
  unfold fitsB at h
  unfold inB
  simp only [decide_eq_true_eq, decide_eq_false_iff_not] at h ⊢
  omega
theorem fits_all {x : In} (h : fitsB x = true) : inB x.op 0 255 = true ∧ inB x.dst 0 15 = true ∧ inB x.src 0 15 = true ∧ inB x.off (-32768) 32767 = true ∧ inB x.imm (-2147483648) 2147483647 = true := by
  rw [fits_true] at h
  unfold inB
  simp only [decide_eq_true_eq]
  omega
theorem enc_bad {l : List In} (h1 : 1 ≤ l.length) (h2 : l.length ≤ 4096) {i : Nat} (hi : i < l.length) (h : okE l i = false) : encS l = ([], 2) := by
  unfold encS
  rw [if_neg (by omega), allE_false hi h]
  rfl
theorem enc_good {l : List In} (h1 : 1 ≤ l.length) (h2 : l.length ≤ 4096) (h : ∀ i, i < l.length → okE l i = true) : encS l = (encTo l l.length, 0) := by
  unfold encS
  rw [if_neg (by omega), if_pos (allE_true.2 h)]
theorem encR_bad {l : List In} {w w' : World} {e : Ending} (h : encS l = ([], 2)) (he : e = .returned (.tuple #[.slice none 0 0, .int .i64 2])) (hb : Below w.heap.size w w') : EncR l w e w' := by
  unfold EncR
  rw [h]
  exact ⟨none, 0, he, RowAt.nil _ _, Nat.le_refl _, hb⟩
theorem encR_good {l : List In} {n : Nat} {w w' : World} {v : Value} {e : Ending} (h : encS l = (encTo l n, 0)) (hn : 0 < n) (h2 : n ≤ 4096) (hown : w'.ownsRow w.heap.size 5 1 v (n * 8) (bytesV (encTo l n))) (he : e = .returned (.tuple #[v, .int .i64 0])) (hb : Below w.heap.size w w') : EncR l w e w' := by
  unfold EncR
  rw [h]
  obtain ⟨g, cap, rfl, hrow, hc⟩ := row_own (by omega) (encTo_length l n) (by omega) (encTo_by l n) hown
  exact ⟨some ⟨g, 0, none⟩, cap, by rw [he, encTo_length], hrow, by rw [encTo_length]; exact hc, hb⟩
theorem pk_rest (w : Int) : pk ⟨0, 0, 0, 0, w / 4294967296, 0⟩ = pk (restI w) := by
  unfold pk restI sg32
  dsimp only
  omega
theorem box_ne {w : World} {B n : Nat} {v : Value} {xs : List Value} (h : w.ownsRow B 5 1 v n xs) : some w.heap.size ≠ v.ownBlock := fun e =>
  Nat.lt_irrefl _ (h.lt _ e.symm).2
/-- an element that is no hole, and why it may not stand there, or how it goes on -/
theorem next_plain {l : List In} {k : Nat} (hk : k < l.length) (hh : holeB l (k : Int) = false) (hop : ¬ (l.getD k z).op = 24) : holeB l ((k + 1 : Nat) : Int) = false := by
  have := hole_next hk hh
  rw [show ((k + 1 : Nat) : Int) = (k : Int) + 1 by omega, this, decide_eq_false hop]
  simp
theorem ok_plain {l : List In} {k : Nat} (hh : holeB l (k : Int) = false) (hop : ¬ (l.getD k z).op = 24) : okE l k = (fitsB (l.getD k z) && (l.getD k z).wide == 0) := by
  rw [okE_plain hh, if_neg hop]
theorem ok_wide {l : List In} {k : Nat} (hk : k < l.length) (hh : holeB l (k : Int) = false) (hop : (l.getD k z).op = 24) : okE l k = (fitsB (l.getD k z) && (decide ((l.getD k z).imm = sg32 (l.getD k z).wide) && decide (k + 1 < l.length))) := by
  rw [okE_plain hh, if_pos hop, hole_next hk hh, decide_eq_true hop, Bool.and_true]
theorem hole_wide {l : List In} {k : Nat} (hk : k < l.length) (hh : holeB l (k : Int) = false) (hop : (l.getD k z).op = 24) (h1 : k + 1 < l.length) : holeB l ((k : Int) + 1) = true := by
  rw [hole_next hk hh, decide_eq_true h1, decide_eq_true hop]; rfl
theorem enc_plain {l : List In} {k : Nat} (hh : holeB l (k : Int) = false) : encTo l (k + 1) = encTo l k ++ putL (pk (l.getD k z)) 8 := by
  rw [encTo_snoc]
  unfold bytesE
  rw [fieldsE_plain hh]
theorem enc_wide {l : List In} {k : Nat} (hh : holeB l (k : Int) = false) (hw : holeB l ((k : Int) + 1) = true) : encTo l (k + 2) = encTo l k ++ putL (pk (l.getD k z)) 8 ++ putL (pk (restI (l.getD k z).wide)) 8 := by
  rw [show k + 2 = (k + 1) + 1 by omega, encTo_snoc, enc_plain hh]
  unfold bytesE
  rw [fieldsE_hole hw]
theorem own_drewN {w : World} {B : Nat} {e : TypeId} {size n : Nat} {v : Value} {xs : List Value} (h : w.ownsRow B e size v n xs) (m : Nat) : (w.drewN m).ownsRow B e size v n xs := own_below h (below_drewN (Below.refl _ _) m)
end Go.Proofs.YtlcmaokafklheaaDoor
