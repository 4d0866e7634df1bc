/- Contracts of numbers, rest and fits. -/
import Derived.Test.YtlcmaokafklheaaDoorD
import Derived.Test.YtlcmaokafklheaaDoorE0
import Derived.Test.YtlcmaokafklheaaDoorC2
namespace Go.Proofs.YtlcmaokafklheaaDoor
open Go.RowKit M

theorem set5 {B b : Nat} {w W : World} (h : Below B w W) (hb : B ≤ b) (v0 v1 v2 v3 v4 : Value) : Below B w (((((W.setCell ⟨b, 0, none⟩ v0).setCell ⟨b, 1, none⟩ v1).setCell ⟨b, 2, none⟩ v2).setCell ⟨b, 3, none⟩ v3).setCell ⟨b, 4, none⟩ v4) :=
  ((((h.setCell (p := ⟨b, 0, none⟩) hb _).setCell (p := ⟨b, 1, none⟩) hb _).setCell (p := ⟨b, 2, none⟩) hb _).setCell (p := ⟨b, 3, none⟩) hb _).setCell (p := ⟨b, 4, none⟩) hb _
set_option maxHeartbeats 1000000 in
theorem numbers_any (x : In) (w : World) :
    Calls Tryd.prog 27 #[iV x] w fun e w' => e = .returned (fV x) ∧ Below w.heap.size w w' := by
  unfold iV
  go_enter Tryd.func27, Tryd.ntmps27
  go_wp2
  exact bodyPost_ret (v := fV x) (by simp [results, Tryd.results27, go_sem, fV, *]) rfl ⟨rfl, ((Below.refl w.heap.size w).alloc (Nat.le_refl _) _).alloc (by simp) _⟩
set_option maxHeartbeats 1000000 in
theorem rest_any (x : Int) (w : World) (h0 : 0 ≤ x) (h1 : x < 18446744073709551616) :
    Calls Tryd.prog 46 #[.int .u64 x] w fun e w' => e = .returned (fV (restI x)) ∧ Below w.heap.size w w' := by
  go_enter Tryd.func46, Tryd.ntmps46
  go_wp2_with (go_at_call 53; refine (signed_any _ _ (by omega) (by omega)).mono ?_; rintro e w1 ⟨rfl, rfl⟩)
  exact bodyPost_ret (v := fV (restI x)) (by simp [results, Tryd.results46, go_sem, fV, restI, *]) rfl ⟨rfl, (Below.refl w.heap.size w).alloc (Nat.le_refl _) _⟩
theorem two_d {w w1 : World} {o1 : Obj} (h : Below (w.alloc o1).drew.heap.size (w.alloc o1).drew w1) : w.heap.size < w1.heap.size := by
  have := h.size; simp at this; omega
theorem unpack_v (q : Option Addr) (qc : Nat) (xs : List Int) (w : World) (h : RowAt w q xs) (hr : RowsAt w) :
    Calls Tryd.prog 44 #[.slice q xs.length qc] w fun e w' => e = .returned (.agg #[.int .i64 (unp (getN xs)).op, .int .i64 (unp (getN xs)).dst, .int .i64 (unp (getN xs)).src, .int .i64 (unp (getN xs)).off, .int .i64 (unp (getN xs)).imm]) ∧ Below w.heap.size w w' := unpack_any q qc xs w h hr
theorem eq56_v (x : In) (L : List Int) (h : getN L = pk x) (w : World) : (Op.equalIn 10000 56 (.agg #[.int .i64 (unp (getN L)).op, .int .i64 (unp (getN L)).dst, .int .i64 (unp (getN L)).src, .int .i64 (unp (getN L)).off, .int .i64 (unp (getN L)).imm]) (.agg #[.int .i64 x.op, .int .i64 x.dst, .int .i64 x.src, .int .i64 x.off, .int .i64 x.imm])).run Tryd.prog w = .ok (fitsB x) w := by
  rw [h, fits_eq]
  exact eq56a 9998 (unp (pk x)) x w
set_option maxRecDepth 100000 in
set_option maxHeartbeats 1000000 in
theorem fits_any (x : In) (hx : BdF x) (w : World) (hr : RowsAt w) :
    Calls Tryd.prog 52 #[fV x] w fun e w' => e = .returned (.bool (fitsB x)) ∧ Below w.heap.size w w' := by
  have HP := Lib.hid (pack_any x hx)
  have HX0 := Lib.hid (pk_bd x)
  have HR := Lib.hid (hr.alloc (fBox x))
  unfold PutPost at HP
  have HG := Lib.hid (get_put HX0.out.1 HX0.out.2)
  obtain ⟨L, hL⟩ : ∃ L, putL (pk x) 8 = L := ⟨_, rfl⟩
  have HL := Lib.hid (show L.length = 8 by rw [← hL]; exact putL_length _ 8)
  rw [hL] at HP HG
  have HEQ := Lib.hid (eq56_v x L HG.out)
  clear hL hx
  unfold fV fBox at *
  have he := HEQ.out
  go_enter Tryd.func52, Tryd.ntmps52
  go_wp2_with fail
  go_region_held3 (fun W => W.cell? ⟨w.heap.size, 0, none⟩ = some (.int .i64 x.op) ∧ W.cell? ⟨w.heap.size, 1, none⟩ = some (.int .i64 x.dst) ∧ W.cell? ⟨w.heap.size, 2, none⟩ = some (.int .i64 x.src) ∧ W.cell? ⟨w.heap.size, 3, none⟩ = some (.int .i64 x.off) ∧ W.cell? ⟨w.heap.size, 4, none⟩ = some (.int .i64 x.imm)) (go_keep)
    (first
    | (go_at_call 37; refine (HP.out _ (HR.out.below (Below.refl _ _).drew)).mono ?_; rintro e w1 ⟨g, cap, rfl, hb1, hrow⟩
       have j0 : w1.cell? ⟨w.heap.size, 0, none⟩ = some (.int .i64 x.op) := box_in hb1 (cell_new _ rfl)
       have j1 : w1.cell? ⟨w.heap.size, 1, none⟩ = some (.int .i64 x.dst) := box_in hb1 (cell_new _ rfl)
       have j2 : w1.cell? ⟨w.heap.size, 2, none⟩ = some (.int .i64 x.src) := box_in hb1 (cell_new _ rfl)
       have j3 : w1.cell? ⟨w.heap.size, 3, none⟩ = some (.int .i64 x.off) := box_in hb1 (cell_new _ rfl)
       have j4 : w1.cell? ⟨w.heap.size, 4, none⟩ = some (.int .i64 x.imm) := box_in hb1 (cell_new _ rfl)
       have HR1 := Lib.hid ((HR.out.below (Below.refl _ _).drew).below hb1)
       have HB1 := Lib.hid (below1d hb1)
       have hz1 := two_d hb1
       have HROW := Lib.hid hrow
       clear hb1 hrow)
    | (go_at_call 44; refine (unpack_v _ _ L _ HROW.out HR1.out).mono ?_; rintro e w2 ⟨rfl, hb2⟩
       have i0 : w2.cell? ⟨w.heap.size, 0, none⟩ = some (.int .i64 x.op) := (hb2.cell (p := ⟨w.heap.size, 0, none⟩) hz1).trans j0
       have i1 : w2.cell? ⟨w.heap.size, 1, none⟩ = some (.int .i64 x.dst) := (hb2.cell (p := ⟨w.heap.size, 1, none⟩) hz1).trans j1
       have i2 : w2.cell? ⟨w.heap.size, 2, none⟩ = some (.int .i64 x.src) := (hb2.cell (p := ⟨w.heap.size, 2, none⟩) hz1).trans j2
       have i3 : w2.cell? ⟨w.heap.size, 3, none⟩ = some (.int .i64 x.off) := (hb2.cell (p := ⟨w.heap.size, 3, none⟩) hz1).trans j3
       have i4 : w2.cell? ⟨w.heap.size, 4, none⟩ = some (.int .i64 x.imm) := (hb2.cell (p := ⟨w.heap.size, 4, none⟩) hz1).trans j4
       have HB2 := Lib.hid hb2
       clear hb2 j0 j1 j2 j3 j4))
  go_wp2
  go_ret
  exact ⟨rfl, HB1.out.trans (HB2.out.mono (by omega))⟩
end Go.Proofs.YtlcmaokafklheaaDoor
