/- The number of eight bytes is their sum, and bytes and numbers go there and back. -/
import Derived.Test.YtlcmaokafklheaaDoorB
namespace Go.Proofs.YtlcmaokafklheaaDoor
open Go.RowKit M

structure By (b : Int) : Prop where
  lo : 0 ≤ b
  hi : b < 256
theorem get_step {xs : List Int} {k : Nat} {a : Int} (p : Int) (hp : (2 : Int) ^ (8 * k) = p) (hn : 2 ^ (8 * k) = p.toNat) (hpp : p ≤ 72057594037927936) (h0 : 0 < p) (hd : p.toNat = p) (ha : getTo xs k = a) (ha0 : 0 ≤ a) (ha1 : a < p) (hb : By (xs.getD k 0)) : getTo xs (k + 1) = a + xs.getD k 0 * p := by
  unfold getTo
  rw [ha, hp, IntKind.wrap_u64]
  obtain ⟨b0, b1⟩ := hb
  generalize xs.getD k 0 = b at *
  have h1 : 0 ≤ b * p := Int.mul_nonneg b0 (by omega)
  have h2 : b * p ≤ 255 * 72057594037927936 := by
    calc b * p ≤ 255 * p := Int.mul_le_mul_of_nonneg_right (by omega) (by omega)
      _ ≤ 255 * 72057594037927936 := Int.mul_le_mul_of_nonneg_left hpp (by omega)
  rw [show b * p % 18446744073709551616 = b * p from Int.emod_eq_of_lt h1 (by omega)]
  refine or_join (8 * k) a (b * p) ha0 (by rw [hn]; omega) h1 ?_ (by omega) (by omega)
  rw [hn]
  rw [Int.toNat_mul b0 (by omega)]
  exact Nat.mul_mod_left _ _
def sum8 (xs : List Int) : Int := xs.getD 0 0 + xs.getD 1 0 * 256 + xs.getD 2 0 * 65536 + xs.getD 3 0 * 16777216 + xs.getD 4 0 * 4294967296 + xs.getD 5 0 * 1099511627776 + xs.getD 6 0 * 281474976710656 + xs.getD 7 0 * 72057594037927936
theorem getTo_2 {xs : List Int} (h : ∀ j, j < 2 → By (xs.getD j 0)) : getTo xs 2 = xs.getD 0 0 + xs.getD 1 0 * 256 := by
  have g0 : getTo xs 0 = 0 := rfl
  obtain ⟨l0, u0⟩ := h 0 (by omega)
  have g1 := get_step (xs := xs) (k := 0) 1 (by decide) (by decide) (by decide) (by decide) (by decide) g0 (by omega) (by omega) (h 0 (by omega))
  exact (get_step (xs := xs) (k := 1) 256 (by decide) (by decide) (by decide) (by decide) (by decide) g1 (by omega) (by omega) (h 1 (by omega))).trans (by omega)
theorem getTo_4 {xs : List Int} (h : ∀ j, j < 4 → By (xs.getD j 0)) : getTo xs 4 = xs.getD 0 0 + xs.getD 1 0 * 256 + xs.getD 2 0 * 65536 + xs.getD 3 0 * 16777216 := by
  have g2 := getTo_2 (xs := xs) (fun j hj => h j (by omega))
  obtain ⟨l0, u0⟩ := h 0 (by omega)
  obtain ⟨l1, u1⟩ := h 1 (by omega)
  obtain ⟨l2, u2⟩ := h 2 (by omega)
  have g3 := get_step (xs := xs) (k := 2) 65536 (by decide) (by decide) (by decide) (by decide) (by decide) g2 (by omega) (by omega) (h 2 (by omega))
  exact get_step (xs := xs) (k := 3) 16777216 (by decide) (by decide) (by decide) (by decide) (by decide) g3 (by omega) (by omega) (h 3 (by omega))
theorem getTo_8 {xs : List Int} (h : ∀ j, j < 8 → By (xs.getD j 0)) : getTo xs 8 = sum8 xs := by
  have g4 := getTo_4 (xs := xs) (fun j hj => h j (by omega))
  obtain ⟨l0, u0⟩ := h 0 (by omega)
  obtain ⟨l1, u1⟩ := h 1 (by omega)
  obtain ⟨l2, u2⟩ := h 2 (by omega)
  obtain ⟨l3, u3⟩ := h 3 (by omega)
  obtain ⟨l4, u4⟩ := h 4 (by omega)
  obtain ⟨l5, u5⟩ := h 5 (by omega)
  obtain ⟨l6, u6⟩ := h 6 (by omega)
  have g5 := get_step (xs := xs) (k := 4) 4294967296 (by decide) (by decide) (by decide) (by decide) (by decide) g4 (by omega) (by omega) (h 4 (by omega))
  have g6 := get_step (xs := xs) (k := 5) 1099511627776 (by decide) (by decide) (by decide) (by decide) (by decide) g5 (by omega) (by omega) (h 5 (by omega))
  have g7 := get_step (xs := xs) (k := 6) 281474976710656 (by decide) (by decide) (by decide) (by decide) (by decide) g6 (by omega) (by omega) (h 6 (by omega))
  exact get_step (xs := xs) (k := 7) 72057594037927936 (by decide) (by decide) (by decide) (by decide) (by decide) g7 (by omega) (by omega) (h 7 (by omega))
theorem getN_8 {xs : List Int} (hl : xs.length = 8) (h : ∀ j, j < 8 → By (xs.getD j 0)) : getN xs = sum8 xs := by
  unfold getN; rw [hl]; exact getTo_8 h
theorem putB_by (x : Int) (j : Nat) : By (putB x j) := ⟨(putB_bd x j).1, (putB_bd x j).2⟩
/-- what is put is got -/
theorem get_put {X : Int} (h0 : 0 ≤ X) (h1 : X < 18446744073709551616) : getN (putL X 8) = X := by
  rw [getN_8 (putL_length X 8) (fun j hj => by rw [putL_getD X hj]; exact putB_by X j)]
  unfold sum8
  rw [putL_getD X (show 0 < 8 by omega), putL_getD X (show 1 < 8 by omega), putL_getD X (show 2 < 8 by omega), putL_getD X (show 3 < 8 by omega), putL_getD X (show 4 < 8 by omega), putL_getD X (show 5 < 8 by omega), putL_getD X (show 6 < 8 by omega), putL_getD X (show 7 < 8 by omega)]
  unfold putB
  simp only [Nat.mul_zero, Nat.reduceMul, Int.reducePow]
  omega
theorem ext_getD {xs ys : List Int} (hl : xs.length = ys.length) (h : ∀ j, j < xs.length → xs.getD j 0 = ys.getD j 0) : xs = ys := by
  apply List.ext_getElem hl
  intro i h1 h2
  have := h i h1
  simpa [h1, h2] using this
/-- what is got is put -/
theorem put_get {xs : List Int} (hl : xs.length = 8) (h : ∀ j, j < 8 → By (xs.getD j 0)) : putL (getN xs) 8 = xs := by
  rw [getN_8 hl h]
  obtain ⟨l0, u0⟩ := h 0 (by omega)
  obtain ⟨l1, u1⟩ := h 1 (by omega)
  obtain ⟨l2, u2⟩ := h 2 (by omega)
  obtain ⟨l3, u3⟩ := h 3 (by omega)
  obtain ⟨l4, u4⟩ := h 4 (by omega)
  obtain ⟨l5, u5⟩ := h 5 (by omega)
  obtain ⟨l6, u6⟩ := h 6 (by omega)
  obtain ⟨l7, u7⟩ := h 7 (by omega)
  apply ext_getD (by rw [putL_length, hl])
  intro j hj
  rw [putL_length] at hj
  rw [putL_getD _ hj]
  unfold putB sum8
  match j, hj with
  | 0, _ => simp only [Nat.mul_zero, Int.reducePow]; omega
  | 1, _ => simp only [Nat.reduceMul, Int.reducePow]; omega
  | 2, _ => simp only [Nat.reduceMul, Int.reducePow]; omega
  | 3, _ => simp only [Nat.reduceMul, Int.reducePow]; omega
  | 4, _ => simp only [Nat.reduceMul, Int.reducePow]; omega
  | 5, _ => simp only [Nat.reduceMul, Int.reducePow]; omega
  | 6, _ => simp only [Nat.reduceMul, Int.reducePow]; omega
  | 7, _ => simp only [Nat.reduceMul, Int.reducePow]; omega
end Go.Proofs.YtlcmaokafklheaaDoor
