/- Contract of slot at a hole: the wide one's second slot, and whether the element is a zero. -/
import Derived.Test.YtlcmaokafklheaaDoorLH
namespace Go.Proofs.YtlcmaokafklheaaDoor
open Go.RowKit M

theorem rest_v2 (x : Int) (w : World) (h0 : 0 ≤ x) (h1 : x < 18446744073709551616) :
    Calls Tryd.prog 46 #[.int .u64 x] w fun e w' => e = .returned (.agg #[.int .i64 0, .int .i64 0, .int .i64 0, .int .i64 0, .int .i64 (sg32 (x / 4294967296))]) ∧ Below w.heap.size w w' := rest_any x w h0 h1
theorem eq_zero (x : In) (w : World) : (Op.equalIn 10000 38 (.agg #[.int .i64 x.op, .int .i64 x.dst, .int .i64 x.src, .int .i64 x.off, .int .i64 x.imm, .int .u64 x.wide]) (.agg #[.int .i64 0, .int .i64 0, .int .i64 0, .int .i64 0, .int .i64 0, .int .u64 0])).run Tryd.prog w = .ok (eqB x z) w := neq_r x z w
theorem set5at {B b : Nat} {w W : World} (h : Below B w W) (hb : B ≤ b) (v0 v1 v2 v3 v4 : Value) : Below B w (((((W.setCell ⟨b, 0, none⟩ v0).setCell ⟨b, 1, none⟩ v1).setCell ⟨b, 2, none⟩ v2).setCell ⟨b, 3, none⟩ v3).setCell ⟨b, 4, none⟩ v4) :=
  ((((h.setCell (p := ⟨b, 0, none⟩) hb _).setCell (p := ⟨b, 1, none⟩) hb _).setCell (p := ⟨b, 2, none⟩) hb _).setCell (p := ⟨b, 3, none⟩) hb _).setCell (p := ⟨b, 4, none⟩) hb _
theorem slot_b {w w3 : World} {o1 o2 : Obj} (h : Below ((w.alloc o1).alloc o2).drew.heap.size ((w.alloc o1).alloc o2).drew w3) : Below w.heap.size w w3 :=
  (((Below.refl w.heap.size w).alloc (Nat.le_refl _) _).alloc (by simp) _).drew.trans (h.mono (by simp; omega))
theorem two_dd {w w3 : World} {o1 o2 : Obj} (h : Below ((w.alloc o1).alloc o2).drew.heap.size ((w.alloc o1).alloc o2).drew w3) : w.heap.size < w3.heap.size ∧ w.heap.size + 1 < w3.heap.size := by
  have := h.size
  simp at this
  omega
theorem slot_r {w w1 : World} {o2 : Obj} (h : Below ((w.alloc (.cells #[.int .i64 0, .int .i64 0, .int .i64 0, .int .i64 0, .int .i64 0] 56)).alloc o2).heap.size ((w.alloc (.cells #[.int .i64 0, .int .i64 0, .int .i64 0, .int .i64 0, .int .i64 0] 56)).alloc o2) w1) : ∀ i, i < 5 → w1.cell? ⟨w.heap.size, i, none⟩ = some (.int .i64 0) := by
  intro i hi
  rw [h.cell (p := ⟨w.heap.size, i, none⟩) (by simp; omega), World.cell?_alloc_lt _ _ ⟨w.heap.size, i, none⟩ (by simp)]
  refine cell_new w ?_
  match i, hi with
  | 0, _ => rfl
  | 1, _ => rfl
  | 2, _ => rfl
  | 3, _ => rfl
  | 4, _ => rfl
theorem slot_f {w w1 : World} {o2 : Obj} (h : Below ((w.alloc (.cells #[.int .i64 0, .int .i64 0, .int .i64 0, .int .i64 0, .int .i64 0] 56)).alloc o2).heap.size ((w.alloc (.cells #[.int .i64 0, .int .i64 0, .int .i64 0, .int .i64 0, .int .i64 0] 56)).alloc o2) w1) : ∀ i, w1.frozen? ⟨w.heap.size, i, none⟩ = false := by
  intro i
  rw [h.frozen (p := ⟨w.heap.size, i, none⟩) (by simp; omega), World.frozen?_alloc_old _ _ ⟨w.heap.size, i, none⟩ (by simp)]
  simp
theorem slot_rd {w w1 : World} {o2 : Obj} (h : Below ((w.alloc (.cells #[.int .i64 0, .int .i64 0, .int .i64 0, .int .i64 0, .int .i64 0] 56)).alloc o2).drew.heap.size ((w.alloc (.cells #[.int .i64 0, .int .i64 0, .int .i64 0, .int .i64 0, .int .i64 0] 56)).alloc o2).drew w1) : ∀ i, i < 5 → w1.cell? ⟨w.heap.size, i, none⟩ = some (.int .i64 0) :=
  slot_r ⟨h.os, h.tape, h.output, h.size, h.block⟩
theorem slot_fd {w w1 : World} {o2 : Obj} (h : Below ((w.alloc (.cells #[.int .i64 0, .int .i64 0, .int .i64 0, .int .i64 0, .int .i64 0] 56)).alloc o2).drew.heap.size ((w.alloc (.cells #[.int .i64 0, .int .i64 0, .int .i64 0, .int .i64 0, .int .i64 0] 56)).alloc o2).drew w1) : ∀ i, w1.frozen? ⟨w.heap.size, i, none⟩ = false :=
  slot_f ⟨h.os, h.tape, h.output, h.size, h.block⟩
theorem slot_rows {w w1 : World} {o1 o2 o3 : Obj} (hr : RowsAt w) (h : Below ((w.alloc o1).alloc o2).heap.size ((w.alloc o1).alloc o2) w1) : RowsAt (w1.alloc o3).drew :=
  ((((hr.alloc o1).alloc o2).below h).alloc o3).below (Below.refl _ _).drew
theorem one_d {w1 w3 : World} {o : Obj} (h : Below (w1.alloc o).drew.heap.size (w1.alloc o).drew w3) : w1.heap.size < w3.heap.size := by
  have := h.size; simp at this; omega
theorem slot_e {w w1 w3 : World} {o1 o2 o3 : Obj} (h1 : Below ((w.alloc o1).alloc o2).heap.size ((w.alloc o1).alloc o2) w1) (h3 : Below (w1.alloc o3).drew.heap.size (w1.alloc o3).drew w3) : Below w.heap.size w w3 :=
  below_next (below2 h1) (below1d h3)
theorem fits_v (x : In) (hx : BdF x) (w : World) (hr : RowsAt w) :
    Calls Tryd.prog 52 #[.agg #[.int .i64 x.op, .int .i64 x.dst, .int .i64 x.src, .int .i64 x.off, .int .i64 x.imm]] w fun e w' => e = .returned (.bool (fitsB x)) ∧ Below w.heap.size w w' := fits_any x hx w hr
set_option maxRecDepth 100000 in
set_option maxHeartbeats 8000000 in
theorem slot_hole (p : Option Addr) (c j : Nat) (l : List In) (w : World) (h : InsAt w p l) (hj : j + 1 < l.length) (hh : holeB l ((j : Int) + 1) = true) :
    Calls Tryd.prog 36 #[.slice p l.length c, .int .i64 ((j : Int) + 1)] w fun e w' => e = .returned (.tuple #[fV (restI (l.getD j z).wide), .bool (eqB (l.getD (j + 1) z) z)]) ∧ Below w.heap.size w w' := by
  have hs := h.small
  have HH := Lib.hid (fun W hW => hole_any p c l ((j : Int) + 1) W hW)
  rw [hh] at HH
  obtain ⟨b, o, rfl, hbl, d0, d1, d2, d3, d4, d5⟩ := h.cells (j + 1) hj
  obtain ⟨b', o', hq, _, _, _, _, _, _, e5⟩ := h.cells j (by omega)
  obtain ⟨rfl, rfl⟩ : b = b' ∧ o = o' := by injection hq with hq; injection hq with h1 h2; exact ⟨h1, h2⟩
  have hw := (h.bd j (by omega)).wide
  have H := Lib.hid h
  obtain ⟨L, hL⟩ : ∃ L, l.length = L := ⟨_, rfl⟩
  obtain ⟨Y, hY⟩ : ∃ Y, (l.getD j z).wide = Y := ⟨_, rfl⟩
  have heq := fun W => eq_zero (l.getD (j + 1) z) W
  generalize l.getD (j + 1) z = X at *
  rw [hL] at HH hs hj ⊢
  rw [hY] at e5 hw ⊢
  obtain ⟨hw0, hw1⟩ := hw
  clear hL hY hh h hq
  have hjl : j < L := by omega
  have hj0 : (0 : Int) ≤ (j : Int) := by omega
  have hjL : (j : Int) < (L : Int) := by omega
  have hwr : IntKind.i64.wrap ((j : Int) + 1 - 1) = (j : Int) := by rw [IntKind.wrap_i64]; omega
  have hwr2 : IntKind.i64.wrap (j : Int) = (j : Int) := by rw [IntKind.wrap_i64]; omega
  go_enter Tryd.func36, Tryd.ntmps36
  go_wp2_with (go_at_call 16; refine (HH.out _ ((H.out.alloc _).alloc _)).mono ?_; rintro e w3 ⟨rfl, rfl⟩)
  go_region_with (first
    | (go_at_call 46; refine (rest_v2 _ _ hw0 hw1).mono ?_; rintro e w3 ⟨rfl, hb3⟩; obtain ⟨hc, hf⟩ := bcell hb3; have hz0 := (two_dd hb3).1; have hz1 := (two_dd hb3).2; have r1 := slot_rd hb3; have f1 := slot_fd hb3; have q0 := r1 0 (by omega); have q1 := r1 1 (by omega); have q2 := r1 2 (by omega); have q3 := r1 3 (by omega); have q4 := r1 4 (by omega); have g0 := f1 0; have g1 := f1 1; have g2 := f1 2; have g3 := f1 3; have g4 := f1 4; clear r1 f1; have HB3 := Lib.hid hb3; clear hb3))
  all_goals
    go_wp2
    exact bodyPost_ret (v := .tuple #[fV (restI Y), .bool (eqB X z)]) (by simp [results, Tryd.results36, go_sem, fV, restI, *]) rfl ⟨rfl, set5at (slot_b HB3.out) (Nat.le_refl _) _ _ _ _ _⟩
end Go.Proofs.YtlcmaokafklheaaDoor
