/- Contract of the document's own answer: a copy of a memory. -/
import Derived.Test.YtgchdiocbllppaaDoorRG
namespace Go.Proofs.YtgchdiocbllppaaDoor
open Go.RowKit M

/-- a row's block: its bytes are the first of what lies there -/
def RowBlk (w : World) (g : Nat) (xs : List Int) : Prop := ∃ cur : Array Value, w.heap[g]? = some (.cells cur 5 (0, 0)) ∧ cur.toList.take xs.length = bytesV xs
theorem run_append_zero (w : World) (g c : Nat) : (Builtin.append_ #[36, 36] 36 #[.slice (some ⟨g, 0, none⟩) 0 0, .slice none 0 c]).run Tryd.prog w = .ok (.slice (some ⟨g, 0, none⟩) 0 0) w := by
  obtain ⟨i5, h5, g5, s5, b5⟩ := info_parts info5
  simp [Builtin.append_, run_underlying Tryd.underlying36, sizeOf, typeInfo, h5, Builtin.lenOf, Builtin.firstCells, storeCells]
theorem own_zero {w : World} {g : Nat} (h : w.heap[g]? = some (.cells #[] 5 (0, 0))) : w.ownsRow g 5 1 (.slice (some ⟨g, 0, none⟩) 0 0) 0 [] :=
  ⟨rfl, .inr ⟨g, 0, #[], rfl, Nat.le_refl _, h, Nat.le_refl _, Nat.zero_le _, rfl, rfl⟩⟩
theorem append_row' {ops : Array Oper} {rest : List Oper} {o : Oper} {a : Act} {Q' : Exit → Act → World → Prop} (hgd : o.guard = none) (s x : Operand) (ho : o.op = .call { callee := .builtin .append, args := #[s, x], argTypes := #[36, 36] }) (hty : o.type = 36)
    (w : World) (q : Option Addr) (xs : List Int) (c : Nat) (hrow : RowAt w q xs) (g : Nat) (hs : a.eval s = .slice (some ⟨g, 0, none⟩) 0 0) (hg : w.heap[g]? = some (.cells #[] 5 (0, 0))) (hx : a.eval x = .slice q xs.length c)
    (h : ∀ g' cap w', g ≤ g' → RowBlk w' g' xs → xs.length ≤ cap → cap ≤ 9223372036854775807 → w.grownBy w' (some g) → wpList Tryd.prog ops Q' rest (a.put o.dst (.slice (some ⟨g', 0, none⟩) xs.length cap)) w') :
    wpList Tryd.prog ops Q' (o :: rest) a w := by
  have hgl := (Array.getElem?_eq_some_iff.1 hg).1
  by_cases hq : q = none
  · subst hq
    have hl : xs = [] := by
      cases xs with
      | nil => rfl
      | cons y ys => obtain ⟨b, off, e, _⟩ := hrow.cells 0 (by simp); cases e
    subst hl
    refine wpList_plain hgd fun K hK => ?_
    have hrun := run_append_zero w g c
    unfold Oper.wp
    simp only [List.length_nil] at hx
    simp [execOp, ho, resolve, invoke, builtin, hs, hx, hty, hrun, Result.andThen]
    exact hK _ _ (h g 0 w (Nat.le_refl _) ⟨#[], hg, rfl⟩ (Nat.le_refl _) (by omega) ⟨rfl, rfl, rfl, Nat.le_refl _, fun _ _ _ => rfl⟩)
  · obtain ⟨ad, rfl⟩ : ∃ ad, q = some ad := by cases q with | none => exact absurd rfl hq | some a => exact ⟨a, rfl⟩
    obtain ⟨i5, h5, g5, s5, b5⟩ := info_parts info5
    have hsrc : ∀ j u, (bytesV xs)[j]? = some u → w.cell? (ad.add j) = some u := by
      by_cases hp : 0 < xs.length
      · obtain ⟨ad', e, h⟩ := hrow.src hp
        injection e with e
        subst e
        exact h
      · have : xs = [] := by cases xs with | nil => rfl | cons y ys => simp at hp
        subst this
        intro j u hj
        simp [bytesV] at hj
    have hsm := hrow.small
    refine wpList_append_own w hgd s x 36 ho g 5 i5 _ 1 1 Tryd.underlying36 h5 g5 s5 b5 rfl (by decide) (.slice (some ⟨g, 0, none⟩) 0 0) 0 [] hs (own_zero hg) ad xs.length c (bytesV xs) hx (by rw [bytesV_length]; omega) hsrc (bytesV_one xs) (by simp only [maxLen]; omega) (by omega) (Nat.le_of_lt hgl) ?_
    intro v' w' hown hgr hiff
    obtain ⟨hl, ⟨rfl, _⟩ | ⟨g', cap, cur, rfl, hge, hh, h1, h2, h3, h4⟩⟩ := hown
    · exact absurd (hiff.1 rfl).1 (by simp)
    · rw [Nat.zero_add] at h1 h4 ⊢
      rw [Nat.mul_one] at h4
      exact h g' cap w' hge ⟨cur, hh, by simpa using h4⟩ h1 (by simpa [maxLen] using h2) hgr
theorem append_row {ops : Array Oper} {rest : List Oper} {o : Oper} {a : Act} {Q' : Exit → Act → World → Prop} (hgd : o.guard = none) (s x : Operand) (ho : o.op = .call { callee := .builtin .append, args := #[s, x], argTypes := #[36, 36] }) (hty : o.type = 36)
    (w : World) (q : Option Addr) (xs : List Int) (L : Nat) (hL : xs.length = L) (c : Nat) (hrow : RowAt w q xs) (g : Nat) (hs : a.eval s = .slice (some ⟨g, 0, none⟩) 0 0) (hx : a.eval x = .slice q L c) (hg : w.heap[g]? = some (.cells #[] 5 (0, 0)))
    (h : ∀ g' cap w', g ≤ g' → RowBlk w' g' xs → L ≤ cap → cap ≤ 9223372036854775807 → w.grownBy w' (some g) → wpList Tryd.prog ops Q' rest (a.put o.dst (.slice (some ⟨g', 0, none⟩) L cap)) w') :
    wpList Tryd.prog ops Q' (o :: rest) a w := by
  subst hL
  exact append_row' hgd s x ho hty w q xs c hrow g hs hg hx h
end Go.Proofs.YtgchdiocbllppaaDoor
