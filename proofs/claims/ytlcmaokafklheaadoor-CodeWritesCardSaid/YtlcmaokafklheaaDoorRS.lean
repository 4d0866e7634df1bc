/- Contract of the document's own slot: an instruction from eight bytes. -/
import Derived.Test.YtlcmaokafklheaaDoorE
import Derived.Test.YtlcmaokafklheaaDoorH
namespace Go.Proofs.YtlcmaokafklheaaDoor
open Go.RowKit M

def cut (xs : List Int) (o n : Nat) : List Int := (xs.drop o).take n
theorem cut_length {xs : List Int} {o n : Nat} (h : o + n ≤ xs.length) : (cut xs o n).length = n := by simp [cut]; omega
theorem cut_getD {xs : List Int} {o n j : Nat} (h : j < n) : (cut xs o n).getD j 0 = xs.getD (o + j) 0 := by
  simp [cut, List.getD, List.getElem?_drop, h]
theorem RowAt.cut {w : World} {b off : Nat} {xs : List Int} (h : RowAt w (some ⟨b, off, none⟩) xs) {o n : Nat} (hn : o + n ≤ xs.length) : RowAt w (some ⟨b, off + o, none⟩) (cut xs o n) :=
  ⟨by rw [cut_length hn]; have := h.small; omega, fun j hj => by
    rw [cut_length hn] at hj
    obtain ⟨b', off', e, hl, hc⟩ := h.cells (o + j) (by omega)
    injection e with e
    injection e with e1 e2
    subst e1 e2
    exact ⟨_, _, rfl, hl, by rw [cut_getD hj, Nat.add_assoc]; exact hc⟩,
   fun j hj => by
    rw [cut_length hn] at hj
    rw [cut_getD hj]
    exact h.byte (o + j) (by omega)⟩
theorem RowAt.by8 {w : World} {q : Option Addr} {xs : List Int} (h : RowAt w q xs) {j : Nat} (hj : j < xs.length) : By (xs.getD j 0) := ⟨(h.byte j hj).1, (h.byte j hj).2⟩
theorem unp_sum {xs : List Int} (h : ∀ j, j < 8 → By (xs.getD j 0)) : unp (sum8 xs) = ⟨xs.getD 0 0, xs.getD 1 0 % 16, xs.getD 1 0 / 16, sg16 (xs.getD 2 0 + xs.getD 3 0 * 256), sg32 (xs.getD 4 0 + xs.getD 5 0 * 256 + xs.getD 6 0 * 65536 + xs.getD 7 0 * 16777216), 0⟩ := by
  obtain ⟨l0, u0⟩ := h 0 (by omega)
  obtain ⟨l1, u1⟩ := h 1 (by omega)
  obtain ⟨l2, u2⟩ := h 2 (by omega)
  obtain ⟨l3, u3⟩ := h 3 (by omega)
  obtain ⟨l4, u4⟩ := h 4 (by omega)
  obtain ⟨l5, u5⟩ := h 5 (by omega)
  obtain ⟨l6, u6⟩ := h 6 (by omega)
  obtain ⟨l7, u7⟩ := h 7 (by omega)
  unfold unp sum8 sg16 sg32
  apply In.ext_ <;> dsimp only <;> omega
theorem wrap_sg16 (x : Int) : wrap64 (sg16 x % 18446744073709551616) = sg16 x := by unfold wrap64 sg16; omega
theorem wrap_sg32 (x : Int) : wrap64 (sg32 x % 18446744073709551616) = sg32 x := by unfold wrap64 sg32; omega
set_option maxRecDepth 100000 in
set_option maxHeartbeats 1000000 in
theorem rslot_any (b off qc : Nat) (xs : List Int) (w : World) (hl : xs.length = 8) (hc : 8 ≤ qc) (h : RowAt w (some ⟨b, off, none⟩) xs) :
    Calls Tryd.prog 22 #[.slice (some ⟨b, off, none⟩) 8 qc] w fun e w' => e = .returned (iV (unp (getN xs))) ∧ Below w.heap.size w w' := by
  have hb8 : ∀ j, j < 8 → By (xs.getD j 0) := fun j hj => h.by8 (by omega)
  rw [getN_8 hl hb8, unp_sum hb8]
  have h2 : getN (cut xs 2 2) = xs.getD 2 0 + xs.getD 3 0 * 256 := by
    unfold getN
    rw [cut_length (by omega)]
    have := getTo_2 (xs := cut xs 2 2) (fun j hj => by rw [cut_getD hj]; exact hb8 _ (by omega))
    rw [cut_getD (by omega), cut_getD (by omega)] at this
    exact this
  have h4 : getN (cut xs 4 4) = xs.getD 4 0 + xs.getD 5 0 * 256 + xs.getD 6 0 * 65536 + xs.getD 7 0 * 16777216 := by
    unfold getN
    rw [cut_length (by omega)]
    have := getTo_4 (xs := cut xs 4 4) (fun j hj => by rw [cut_getD hj]; exact hb8 _ (by omega))
    rw [cut_getD (by omega), cut_getD (by omega), cut_getD (by omega), cut_getD (by omega)] at this
    exact this
  obtain ⟨b0, o0, e0, hlt, c0⟩ := h.cells 0 (by omega)
  obtain ⟨b1, o1, e1, _, c1⟩ := h.cells 1 (by omega)
  injection e0 with e0; injection e0 with e0 e0'; subst e0 e0'
  injection e1 with e1; injection e1 with e1 e1'; subst e1 e1'
  have r2 := h.cut (o := 2) (n := 2) (by omega)
  have r4 := h.cut (o := 4) (n := 4) (by omega)
  have hl2 : (cut xs 2 2).length = 2 := cut_length (by omega)
  have hl4 : (cut xs 4 4).length = 4 := cut_length (by omega)
  have G2 := Lib.hid (fun c w => rget_any (some ⟨b, off + 2, none⟩) c (cut xs 2 2) w)
  have G4 := Lib.hid (fun c w => rget_any (some ⟨b, off + 4, none⟩) c (cut xs 4 4) w)
  rw [hl2, h2] at G2
  rw [hl4, h4] at G4
  have R2 := Lib.hid r2
  have R4 := Lib.hid r4
  obtain ⟨l0, u0⟩ := hb8 0 (by omega)
  obtain ⟨l1, u1⟩ := hb8 1 (by omega)
  obtain ⟨l2, u2⟩ := hb8 2 (by omega)
  obtain ⟨l3, u3⟩ := hb8 3 (by omega)
  obtain ⟨l4, u4⟩ := hb8 4 (by omega)
  obtain ⟨l5, u5⟩ := hb8 5 (by omega)
  obtain ⟨l6, u6⟩ := hb8 6 (by omega)
  obtain ⟨l7, u7⟩ := hb8 7 (by omega)
  obtain ⟨y0, hy0⟩ : ∃ y, xs.getD 0 0 = y := ⟨_, rfl⟩
  obtain ⟨y1, hy1⟩ : ∃ y, xs.getD 1 0 = y := ⟨_, rfl⟩
  obtain ⟨X2, hX2⟩ : ∃ y, xs.getD 2 0 + xs.getD 3 0 * 256 = y := ⟨_, rfl⟩
  obtain ⟨X4, hX4⟩ : ∃ y, xs.getD 4 0 + xs.getD 5 0 * 256 + xs.getD 6 0 * 65536 + xs.getD 7 0 * 16777216 = y := ⟨_, rfl⟩
  have b2 : 0 ≤ X2 ∧ X2 < 18446744073709551616 := by omega
  have b4 : 0 ≤ X4 ∧ X4 < 18446744073709551616 := by omega
  rw [hX2] at G2 ⊢
  rw [hX4] at G4 ⊢
  rw [Nat.add_zero] at c0
  rw [hy0] at c0 l0 u0 ⊢
  rw [hy1] at c1 l1 u1 ⊢
  have W2 := Lib.hid (wrap_sg16 X2)
  have W4 := Lib.hid (wrap_sg32 X4)
  clear h2 h4 hX2 hX4 hy0 hy1 l2 u2 l3 u3 l4 u4 l5 u5 l6 u6 l7 u7 h hl2 hl4 r2 r4 hb8 hl
  obtain ⟨b20, b21⟩ := b2
  obtain ⟨b40, b41⟩ := b4
  go_enter Tryd.func22, Tryd.ntmps22
  have tok1 : True := trivial
  have tok2 : True := trivial
  go_wp2_with (first
    | (go_at_call 35; have _t := tok1; refine (G2.out _ _ (R2.out.alloc _)).mono ?_; rintro e w1 ⟨rfl, rfl⟩; clear tok1)
    | (go_at_call 34; have _t := tok2; refine (rsign2_any X2 _ b20 b21).mono ?_; rintro e w1 ⟨rfl, rfl⟩; clear tok2)
    | (go_at_call 35; refine (G4.out _ _ (R4.out.alloc _)).mono ?_; rintro e w1 ⟨rfl, rfl⟩)
    | (go_at_call 34; refine (rsign4_any X4 _ b40 b41).mono ?_; rintro e w1 ⟨rfl, rfl⟩))
  rw [W2.out, W4.out]
  go_region_held3 (fun W => W.cell? ⟨b, off, none⟩ = some (.int .u8 y0) ∧ W.cell? ⟨b, off + 1, none⟩ = some (.int .u8 y1)) (go_keep) (fail)
  go_wp2
  have z0 : IntKind.i64.wrap y0 = y0 := by rw [IntKind.wrap_i64]; omega
  have z1 : IntKind.i64.wrap (y1.tmod 16) = y1 % 16 := by rw [Int.tmod_eq_emod_of_nonneg l1, IntKind.wrap_i64]; omega
  have z2 : IntKind.i64.wrap (IntKind.u8.wrap (y1.tdiv 16)) = y1 / 16 := by rw [Int.tdiv_eq_ediv_of_nonneg l1, IntKind.wrap_i64, IntKind.wrap_u8]; omega
  rw [z0, z1, z2]
  exact bodyPost_ret (v := iV ⟨y0, y1 % 16, y1 / 16, sg16 X2, sg32 X4, 0⟩) (by simp [results, Tryd.results22, go_sem, iV]) rfl ⟨rfl, ((Below.refl _ _).alloc (Nat.le_refl _) _).drew⟩
end Go.Proofs.YtlcmaokafklheaaDoor
