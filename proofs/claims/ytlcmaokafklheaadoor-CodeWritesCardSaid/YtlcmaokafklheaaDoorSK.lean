/- What a region behind the second load keeps. -/
import Derived.Test.YtlcmaokafklheaaDoorSA
namespace Go.Proofs.YtlcmaokafklheaaDoor
open Go.RowKit M

theorem keep7 {w1 : World} {b : Nat} {x0 x1 x2 x3 x4 v4 v5 : Value} (hb : b < w1.heap.size) (a4 : w1.cell? ⟨b, 4, none⟩ = some v4) (a5 : w1.cell? ⟨b, 5, none⟩ = some v5) :
    (w1.alloc (.cells #[x0, x1, x2, x3, x4] 56)).drew.cell? ⟨w1.heap.size, 0, none⟩ = some x0 ∧ (w1.alloc (.cells #[x0, x1, x2, x3, x4] 56)).drew.cell? ⟨w1.heap.size, 1, none⟩ = some x1 ∧
    (w1.alloc (.cells #[x0, x1, x2, x3, x4] 56)).drew.cell? ⟨w1.heap.size, 2, none⟩ = some x2 ∧ (w1.alloc (.cells #[x0, x1, x2, x3, x4] 56)).drew.cell? ⟨w1.heap.size, 3, none⟩ = some x3 ∧
    (w1.alloc (.cells #[x0, x1, x2, x3, x4] 56)).drew.cell? ⟨w1.heap.size, 4, none⟩ = some x4 ∧ (w1.alloc (.cells #[x0, x1, x2, x3, x4] 56)).drew.cell? ⟨b, 4, none⟩ = some v4 ∧ (w1.alloc (.cells #[x0, x1, x2, x3, x4] 56)).drew.cell? ⟨b, 5, none⟩ = some v5 :=
  ⟨cell_new _ rfl, cell_new _ rfl, cell_new _ rfl, cell_new _ rfl, cell_new _ rfl, (World.cell?_alloc_lt _ _ ⟨b, 4, none⟩ hb).trans a4, (World.cell?_alloc_lt _ _ ⟨b, 5, none⟩ hb).trans a5⟩
theorem set5far {W : World} {b c : Nat} (h : c ≠ b) (i : Nat) (v0 v1 v2 v3 v4 : Value) : (((((W.setCell ⟨b, 0, none⟩ v0).setCell ⟨b, 1, none⟩ v1).setCell ⟨b, 2, none⟩ v2).setCell ⟨b, 3, none⟩ v3).setCell ⟨b, 4, none⟩ v4).cell? ⟨c, i, none⟩ = W.cell? ⟨c, i, none⟩ := by
  have n : ∀ j, (⟨c, i, none⟩ : Addr) ≠ ⟨b, j, none⟩ := fun j e => h (by injection e)
  rw [World.cell?_setCell_other _ _ _ _ (n 4).symm, World.cell?_setCell_other _ _ _ _ (n 3).symm, World.cell?_setCell_other _ _ _ _ (n 2).symm, World.cell?_setCell_other _ _ _ _ (n 1).symm, World.cell?_setCell_other _ _ _ _ (n 0).symm]
theorem keepS {W : World} {b b7 b6 : Nat} {x0 x1 x2 x3 x4 y4 y5 v0 v1 v2 v3 v4 : Value} (h7 : b7 ≠ b) (h6 : b6 ≠ b) (k0 : W.cell? ⟨b7, 0, none⟩ = some x0) (k1 : W.cell? ⟨b7, 1, none⟩ = some x1) (k2 : W.cell? ⟨b7, 2, none⟩ = some x2)
    (k3 : W.cell? ⟨b7, 3, none⟩ = some x3) (k4 : W.cell? ⟨b7, 4, none⟩ = some x4) (a4 : W.cell? ⟨b6, 4, none⟩ = some y4) (a5 : W.cell? ⟨b6, 5, none⟩ = some y5) :
    (((((W.setCell ⟨b, 0, none⟩ v0).setCell ⟨b, 1, none⟩ v1).setCell ⟨b, 2, none⟩ v2).setCell ⟨b, 3, none⟩ v3).setCell ⟨b, 4, none⟩ v4).cell? ⟨b7, 0, none⟩ = some x0 ∧ (((((W.setCell ⟨b, 0, none⟩ v0).setCell ⟨b, 1, none⟩ v1).setCell ⟨b, 2, none⟩ v2).setCell ⟨b, 3, none⟩ v3).setCell ⟨b, 4, none⟩ v4).cell? ⟨b7, 1, none⟩ = some x1 ∧ (((((W.setCell ⟨b, 0, none⟩ v0).setCell ⟨b, 1, none⟩ v1).setCell ⟨b, 2, none⟩ v2).setCell ⟨b, 3, none⟩ v3).setCell ⟨b, 4, none⟩ v4).cell? ⟨b7, 2, none⟩ = some x2 ∧ (((((W.setCell ⟨b, 0, none⟩ v0).setCell ⟨b, 1, none⟩ v1).setCell ⟨b, 2, none⟩ v2).setCell ⟨b, 3, none⟩ v3).setCell ⟨b, 4, none⟩ v4).cell? ⟨b7, 3, none⟩ = some x3 ∧ (((((W.setCell ⟨b, 0, none⟩ v0).setCell ⟨b, 1, none⟩ v1).setCell ⟨b, 2, none⟩ v2).setCell ⟨b, 3, none⟩ v3).setCell ⟨b, 4, none⟩ v4).cell? ⟨b7, 4, none⟩ = some x4 ∧ (((((W.setCell ⟨b, 0, none⟩ v0).setCell ⟨b, 1, none⟩ v1).setCell ⟨b, 2, none⟩ v2).setCell ⟨b, 3, none⟩ v3).setCell ⟨b, 4, none⟩ v4).cell? ⟨b6, 4, none⟩ = some y4 ∧ (((((W.setCell ⟨b, 0, none⟩ v0).setCell ⟨b, 1, none⟩ v1).setCell ⟨b, 2, none⟩ v2).setCell ⟨b, 3, none⟩ v3).setCell ⟨b, 4, none⟩ v4).cell? ⟨b6, 5, none⟩ = some y5 :=
  ⟨(set5far h7 _ _ _ _ _ _).trans k0, (set5far h7 _ _ _ _ _ _).trans k1, (set5far h7 _ _ _ _ _ _).trans k2, (set5far h7 _ _ _ _ _ _).trans k3, (set5far h7 _ _ _ _ _ _).trans k4, (set5far h6 _ _ _ _ _ _).trans a4, (set5far h6 _ _ _ _ _ _).trans a5⟩
end Go.Proofs.YtlcmaokafklheaaDoor
