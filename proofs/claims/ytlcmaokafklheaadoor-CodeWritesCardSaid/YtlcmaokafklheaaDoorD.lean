/- Contract of pack: the bytes of a slot's fields. -/
import Derived.Test.YtlcmaokafklheaaDoorC
import Derived.Deep.RegionHeld3
namespace Go.Proofs.YtlcmaokafklheaaDoor
open Go.RowKit M

/-- fields that are a machine's numbers -/
structure BdF (x : In) : Prop where
  op : -9223372036854775808 ≤ x.op ∧ x.op ≤ 9223372036854775807
  dst : -9223372036854775808 ≤ x.dst ∧ x.dst ≤ 9223372036854775807
  src : -9223372036854775808 ≤ x.src ∧ x.src ≤ 9223372036854775807
  off : -9223372036854775808 ≤ x.off ∧ x.off ≤ 9223372036854775807
  imm : -9223372036854775808 ≤ x.imm ∧ x.imm ≤ 9223372036854775807
/-- what the first fields add up to -/
def pkTo (x : In) : Nat → Int
  | 0 => 0
  | 1 => x.op % 256
  | 2 => x.op % 256 + x.dst % 16 * 256
  | 3 => x.op % 256 + x.dst % 16 * 256 + x.src % 16 * 4096
  | 4 => x.op % 256 + x.dst % 16 * 256 + x.src % 16 * 4096 + x.off % 65536 * 65536
  | _ => pk x
theorem below1d {w w1 : World} {o1 : Obj} (h : Below (w.alloc o1).drew.heap.size (w.alloc o1).drew w1) : Below w.heap.size w w1 :=
  ((Below.refl _ _).alloc (Nat.le_refl _) _).drew.trans (h.mono (by simp))
theorem box_in {w w1 : World} {o : Obj} (h : Below (w.alloc o).drew.heap.size (w.alloc o).drew w1) {i : Nat} {v : Value} (hv : (w.alloc o).cell? ⟨w.heap.size, i, none⟩ = some v) : w1.cell? ⟨w.heap.size, i, none⟩ = some v := by
  have h' : Below (w.alloc o).heap.size (w.alloc o) w1 := ⟨h.os, h.tape, h.output, h.size, h.block⟩
  exact (h'.cell (p := ⟨w.heap.size, i, none⟩) (by simp)).trans hv
theorem old_in {w w1 : World} {o : Obj} (h : Below (w.alloc o).drew.heap.size (w.alloc o).drew w1) {b i : Nat} {v : Value} (hb : b < w.heap.size) (hv : w.cell? ⟨b, i, none⟩ = some v) : w1.cell? ⟨b, i, none⟩ = some v :=
  ((below1d h).cell (p := ⟨b, i, none⟩) hb).trans hv
theorem or_pk (x : In) {k : Nat} (hk : k < 5) : bits .or .u64 (pkTo x k) (ptF (fOf x k) k) = pkTo x (k + 1) := by
  match k, hk with
  | 0, _ => exact (or_join 0 _ _ (by simp [pkTo]) (by simp [pkTo]) (by simp [ptF]; omega) (by omega) (by simp [pkTo]) (by simp [ptF]; omega)).trans (by simp [pkTo, ptF, fOf])
  | 1, _ => exact (or_join 8 _ _ (by simp only [pkTo]; omega) (by simp only [pkTo]; omega) (by simp only [ptF]; omega) (by simp only [ptF]; omega) (by simp only [pkTo]; omega) (by simp only [ptF]; omega)).trans (by simp only [pkTo, ptF, fOf])
  | 2, _ => exact (or_join 12 _ _ (by simp only [pkTo]; omega) (by simp only [pkTo]; omega) (by simp only [ptF]; omega) (by simp only [ptF]; omega) (by simp only [pkTo]; omega) (by simp only [ptF]; omega)).trans (by simp only [pkTo, ptF, fOf])
  | 3, _ => exact (or_join 16 _ _ (by simp only [pkTo]; omega) (by simp only [pkTo]; omega) (by simp only [ptF]; omega) (by simp only [ptF]; omega) (by simp only [pkTo]; omega) (by simp only [ptF]; omega)).trans (by simp only [pkTo, ptF, fOf])
  | 4, _ => exact (or_join 32 _ _ (by simp only [pkTo]; omega) (by simp only [pkTo]; omega) (by simp only [ptF]; omega) (by simp only [ptF]; omega) (by simp only [pkTo]; omega) (by simp only [ptF]; omega)).trans (by simp only [pkTo, ptF, fOf, pk])
theorem rows_agg_all {w : World} (h : RowsAt w) (o : Obj) : (w.alloc o).cell? ⟨1, 0, none⟩ = some (.int .i64 0) ∧ (w.alloc o).cell? ⟨1, 1, none⟩ = some (.int .i64 8) ∧ (w.alloc o).cell? ⟨1, 2, none⟩ = some (.bool false) ∧ (w.alloc o).cell? ⟨1, 3, none⟩ = some (.int .i64 8) ∧ (w.alloc o).cell? ⟨1, 4, none⟩ = some (.int .i64 4) ∧ (w.alloc o).cell? ⟨1, 5, none⟩ = some (.bool false) ∧ (w.alloc o).cell? ⟨1, 6, none⟩ = some (.int .i64 12) ∧ (w.alloc o).cell? ⟨1, 7, none⟩ = some (.int .i64 4) ∧ (w.alloc o).cell? ⟨1, 8, none⟩ = some (.bool false) ∧ (w.alloc o).cell? ⟨1, 9, none⟩ = some (.int .i64 16) ∧ (w.alloc o).cell? ⟨1, 10, none⟩ = some (.int .i64 16) ∧ (w.alloc o).cell? ⟨1, 11, none⟩ = some (.bool true) ∧ (w.alloc o).cell? ⟨1, 12, none⟩ = some (.int .i64 32) ∧ (w.alloc o).cell? ⟨1, 13, none⟩ = some (.int .i64 32) ∧ (w.alloc o).cell? ⟨1, 14, none⟩ = some (.bool true) := (h.alloc o).all
def fBox (x : In) : Obj := .cells #[.int .i64 x.op, .int .i64 x.dst, .int .i64 x.src, .int .i64 x.off, .int .i64 x.imm] 56
set_option maxRecDepth 100000 in
set_option maxHeartbeats 1000000 in
theorem pack_any (x : In) (hx : BdF x) (w : World) (hr : RowsAt w) :
    Calls Tryd.prog 37 #[fV x] w (PutPost (pk x) 8 w) := by
  have hlt := hr.lt
  have hr2 := rows_agg_all hr (fBox x)
  unfold fBox at hr2
  obtain ⟨d0, d1, d2, d3, d4, d5, d6, d7, d8, d9, d10, d11, d12, d13, d14⟩ := hr2
  have HX := Lib.hid hx
  clear hx hr
  unfold fV
  go_enter Tryd.func37, Tryd.ntmps37
  go_wp2
  clear d0 d1 d2 d3 d4 d5 d6 d7 d8 d9 d10 d11 d12 d13 d14
  go_loopw [3, 7] (fun a i wr => ∃ k : Nat, k ≤ 5 ∧ i = .int .i64 k ∧ a = .int .u64 (pkTo x k) ∧ Below (w.heap.size + 1) (w.alloc (fBox x)) wr) (fun _ i _ => 5 - (intOf i).toNat)
  case atStart => exact ⟨0, Nat.zero_le _, rfl, rfl, Below.refl _ _⟩
  case round =>
    obtain ⟨k, hk, rfl, rfl, hb⟩ := hrel
    have hz := hb.size
    rw [World.size_alloc] at hz
    have e0 := (hb.cell (p := ⟨w.heap.size, 0, none⟩) (by simp)).trans (cell_new w (v := .int .i64 x.op) rfl)
    have e1 := (hb.cell (p := ⟨w.heap.size, 1, none⟩) (by simp)).trans (cell_new w (v := .int .i64 x.dst) rfl)
    have e2 := (hb.cell (p := ⟨w.heap.size, 2, none⟩) (by simp)).trans (cell_new w (v := .int .i64 x.src) rfl)
    have e3 := (hb.cell (p := ⟨w.heap.size, 3, none⟩) (by simp)).trans (cell_new w (v := .int .i64 x.off) rfl)
    have e4 := (hb.cell (p := ⟨w.heap.size, 4, none⟩) (by simp)).trans (cell_new w (v := .int .i64 x.imm) rfl)
    have HB := Lib.hid hb
    clear hb
    by_cases hlt : k < 5
    · have HO := Lib.hid (or_pk x hlt)
      match k, hlt with
      | 0, _ =>
        have ix := index103_0 wr
        obtain ⟨A, hA⟩ : ∃ A, pkTo x 0 = A := ⟨_, rfl⟩
        rw [hA] at HO ⊢
        have HA := Lib.hid hA
        clear hA
        go_wp2_with fail
        go_region_held3 (fun W => W.cell? ⟨w.heap.size, 0, none⟩ = some (.int .i64 x.op) ∧ W.cell? ⟨wr.heap.size, 0, none⟩ = some (.int .i64 0) ∧ W.cell? ⟨wr.heap.size, 1, none⟩ = some (.int .i64 8) ∧ W.cell? ⟨wr.heap.size, 2, none⟩ = some (.bool false)) (go_keep)
          (first | (go_at_call 54; refine (put_row _ _ HX.out.op.1 HX.out.op.2 0 (by omega)).mono ?_; rintro e w1 ⟨rfl, hb1⟩; have HB1 := Lib.hid (below1d hb1); have j0 := old_in hb1 hz e0; have j1 : w1.cell? ⟨wr.heap.size, 0, none⟩ = some (.int .i64 0) := box_in hb1 (cell_new _ rfl); have j2 : w1.cell? ⟨wr.heap.size, 1, none⟩ = some (.int .i64 8) := box_in hb1 (cell_new _ rfl); have j3 : w1.cell? ⟨wr.heap.size, 2, none⟩ = some (.bool false) := box_in hb1 (cell_new _ rfl); clear hb1))
        go_wp2
        go_roundw
        case rel => exact ⟨0 + 1, by omega, by go_num, by rw [← HO.out]; rfl, HB.out.trans (HB1.out.mono (by omega))⟩
        case measure => simp [intOf]
      | 1, _ =>
        have ix := index103_1 wr
        obtain ⟨A, hA⟩ : ∃ A, pkTo x 1 = A := ⟨_, rfl⟩
        rw [hA] at HO ⊢
        have HA := Lib.hid hA
        clear hA
        go_wp2_with fail
        go_region_held3 (fun W => W.cell? ⟨w.heap.size, 1, none⟩ = some (.int .i64 x.dst) ∧ W.cell? ⟨wr.heap.size, 0, none⟩ = some (.int .i64 8) ∧ W.cell? ⟨wr.heap.size, 1, none⟩ = some (.int .i64 4) ∧ W.cell? ⟨wr.heap.size, 2, none⟩ = some (.bool false)) (go_keep)
          (first | (go_at_call 54; refine (put_row _ _ HX.out.dst.1 HX.out.dst.2 1 (by omega)).mono ?_; rintro e w1 ⟨rfl, hb1⟩; have HB1 := Lib.hid (below1d hb1); have j0 := old_in hb1 hz e1; have j1 : w1.cell? ⟨wr.heap.size, 0, none⟩ = some (.int .i64 8) := box_in hb1 (cell_new _ rfl); have j2 : w1.cell? ⟨wr.heap.size, 1, none⟩ = some (.int .i64 4) := box_in hb1 (cell_new _ rfl); have j3 : w1.cell? ⟨wr.heap.size, 2, none⟩ = some (.bool false) := box_in hb1 (cell_new _ rfl); clear hb1))
        go_wp2
        go_roundw
        case rel => exact ⟨1 + 1, by omega, by go_num, by rw [← HO.out]; rfl, HB.out.trans (HB1.out.mono (by omega))⟩
        case measure => simp [intOf]
      | 2, _ =>
        have ix := index103_2 wr
        obtain ⟨A, hA⟩ : ∃ A, pkTo x 2 = A := ⟨_, rfl⟩
        rw [hA] at HO ⊢
        have HA := Lib.hid hA
        clear hA
        go_wp2_with fail
        go_region_held3 (fun W => W.cell? ⟨w.heap.size, 2, none⟩ = some (.int .i64 x.src) ∧ W.cell? ⟨wr.heap.size, 0, none⟩ = some (.int .i64 12) ∧ W.cell? ⟨wr.heap.size, 1, none⟩ = some (.int .i64 4) ∧ W.cell? ⟨wr.heap.size, 2, none⟩ = some (.bool false)) (go_keep)
          (first | (go_at_call 54; refine (put_row _ _ HX.out.src.1 HX.out.src.2 2 (by omega)).mono ?_; rintro e w1 ⟨rfl, hb1⟩; have HB1 := Lib.hid (below1d hb1); have j0 := old_in hb1 hz e2; have j1 : w1.cell? ⟨wr.heap.size, 0, none⟩ = some (.int .i64 12) := box_in hb1 (cell_new _ rfl); have j2 : w1.cell? ⟨wr.heap.size, 1, none⟩ = some (.int .i64 4) := box_in hb1 (cell_new _ rfl); have j3 : w1.cell? ⟨wr.heap.size, 2, none⟩ = some (.bool false) := box_in hb1 (cell_new _ rfl); clear hb1))
        go_wp2
        go_roundw
        case rel => exact ⟨2 + 1, by omega, by go_num, by rw [← HO.out]; rfl, HB.out.trans (HB1.out.mono (by omega))⟩
        case measure => simp [intOf]
      | 3, _ =>
        have ix := index103_3 wr
        obtain ⟨A, hA⟩ : ∃ A, pkTo x 3 = A := ⟨_, rfl⟩
        rw [hA] at HO ⊢
        have HA := Lib.hid hA
        clear hA
        go_wp2_with fail
        go_region_held3 (fun W => W.cell? ⟨w.heap.size, 3, none⟩ = some (.int .i64 x.off) ∧ W.cell? ⟨wr.heap.size, 0, none⟩ = some (.int .i64 16) ∧ W.cell? ⟨wr.heap.size, 1, none⟩ = some (.int .i64 16) ∧ W.cell? ⟨wr.heap.size, 2, none⟩ = some (.bool true)) (go_keep)
          (first | (go_at_call 54; refine (put_row _ _ HX.out.off.1 HX.out.off.2 3 (by omega)).mono ?_; rintro e w1 ⟨rfl, hb1⟩; have HB1 := Lib.hid (below1d hb1); have j0 := old_in hb1 hz e3; have j1 : w1.cell? ⟨wr.heap.size, 0, none⟩ = some (.int .i64 16) := box_in hb1 (cell_new _ rfl); have j2 : w1.cell? ⟨wr.heap.size, 1, none⟩ = some (.int .i64 16) := box_in hb1 (cell_new _ rfl); have j3 : w1.cell? ⟨wr.heap.size, 2, none⟩ = some (.bool true) := box_in hb1 (cell_new _ rfl); clear hb1))
        go_wp2
        go_roundw
        case rel => exact ⟨3 + 1, by omega, by go_num, by rw [← HO.out]; rfl, HB.out.trans (HB1.out.mono (by omega))⟩
        case measure => simp [intOf]
      | 4, _ =>
        have ix := index103_4 wr
        obtain ⟨A, hA⟩ : ∃ A, pkTo x 4 = A := ⟨_, rfl⟩
        rw [hA] at HO ⊢
        have HA := Lib.hid hA
        clear hA
        go_wp2_with fail
        go_region_held3 (fun W => W.cell? ⟨w.heap.size, 4, none⟩ = some (.int .i64 x.imm) ∧ W.cell? ⟨wr.heap.size, 0, none⟩ = some (.int .i64 32) ∧ W.cell? ⟨wr.heap.size, 1, none⟩ = some (.int .i64 32) ∧ W.cell? ⟨wr.heap.size, 2, none⟩ = some (.bool true)) (go_keep)
          (first | (go_at_call 54; refine (put_row _ _ HX.out.imm.1 HX.out.imm.2 4 (by omega)).mono ?_; rintro e w1 ⟨rfl, hb1⟩; have HB1 := Lib.hid (below1d hb1); have j0 := old_in hb1 hz e4; have j1 : w1.cell? ⟨wr.heap.size, 0, none⟩ = some (.int .i64 32) := box_in hb1 (cell_new _ rfl); have j2 : w1.cell? ⟨wr.heap.size, 1, none⟩ = some (.int .i64 32) := box_in hb1 (cell_new _ rfl); have j3 : w1.cell? ⟨wr.heap.size, 2, none⟩ = some (.bool true) := box_in hb1 (cell_new _ rfl); clear hb1))
        go_wp2
        go_roundw
        case rel => exact ⟨4 + 1, by omega, by go_num, by rw [← HO.out]; rfl, HB.out.trans (HB1.out.mono (by omega))⟩
        case measure => simp [intOf]
    · have hk5 : k = 5 := by omega
      subst hk5
      have HP := Lib.hid (fun w => put_yes (pk x) 8 w rfl (by omega))
      obtain ⟨A, hA⟩ : ∃ A, pk x = A := ⟨_, rfl⟩
      rw [show pkTo x 5 = pk x from rfl]
      rw [hA] at HP ⊢
      have HA := Lib.hid hA
      clear hA
      go_wp2_with (go_at_call 55; refine (HP.out _).mono ?_; rintro e w1 ⟨g, cap, rfl, hb1, hrow⟩; have HB1 := Lib.hid hb1; have HRW := Lib.hid hrow; clear hb1 hrow)
      go_ret
      rw [HA.out]
      exact ⟨g, cap, rfl, ((Below.refl _ _).alloc (Nat.le_refl _) (fBox x)).trans ((HB.out.mono (by omega)).trans (HB1.out.mono (by omega))), HRW.out⟩
end Go.Proofs.YtlcmaokafklheaaDoor
