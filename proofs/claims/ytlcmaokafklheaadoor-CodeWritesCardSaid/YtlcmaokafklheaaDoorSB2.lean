/- Contract of slot at a plain instruction that is no hole. -/
import Derived.Test.YtlcmaokafklheaaDoorSA
namespace Go.Proofs.YtlcmaokafklheaaDoor
open Go.RowKit M

set_option maxRecDepth 100000 in
set_option maxHeartbeats 8000000 in
theorem slot_plain_yes (p : Option Addr) (c k : Nat) (l : List In) (w : World) (h : InsAt w p l) (hr : RowsAt w) (hk : k < l.length) (hh : holeB l (k : Int) = false) (hop : ¬ (l.getD k z).op = 24) (hfit : fitsB (l.getD k z) = true) :
    Calls Tryd.prog 36 #[.slice p l.length c, .int .i64 (k : Int)] w fun e w' => e = .returned (.tuple #[fV (l.getD k z), .bool ((l.getD k z).wide == 0)]) ∧ Below w.heap.size w w' := by
  have hs := h.small
  have HH := Lib.hid (fun W hW => hole_any p c l (k : Int) W hW)
  rw [hh] at HH
  obtain ⟨b, o, rfl, hbl, d0, d1, d2, d3, d4, d5⟩ := h.cells k hk
  have HBD := Lib.hid (h.bd k hk)
  have H := Lib.hid h
  have HR := Lib.hid hr
  obtain ⟨L, hL⟩ : ∃ L, l.length = L := ⟨_, rfl⟩
  generalize l.getD k z = X at *
  have HF := Lib.hid (fun W hW => fits_v X (bdF HBD.out) W hW)
  have hw := HBD.out.wide
  have him := HBD.out.imm
  rw [hL] at HH hs hk ⊢
  clear hL hh h hr
  have hne : (X.op == 24) = false := by simpa using hop
  clear hop
  rw [hfit] at HF
  go_enter Tryd.func36, Tryd.ntmps36
  have tok1 : True := trivial
  go_wp2_with (first
    | (go_at_call 16; have _t := tok1; refine (HH.out _ ((H.out.alloc _).alloc _)).mono ?_; rintro e w3 ⟨rfl, rfl⟩; clear tok1)
    | (go_at_call 27; refine (numbers_v X _).mono ?_; rintro e w1 ⟨rfl, hb1⟩; have hz := two_in hb1; obtain ⟨hz0, hz1⟩ := hz; have HB1 := Lib.hid hb1
       have a4 : w1.cell? ⟨w.heap.size + 1, 4, none⟩ = some (.int .i64 X.imm) := (hb1.cell (p := ⟨w.heap.size + 1, 4, none⟩) (by simp)).trans (cell_new2 _ _ trivial rfl)
       have a5 : w1.cell? ⟨w.heap.size + 1, 5, none⟩ = some (.int .u64 X.wide) := (hb1.cell (p := ⟨w.heap.size + 1, 5, none⟩) (by simp)).trans (cell_new2 _ _ trivial rfl)
       have a0 : w1.cell? ⟨w.heap.size + 1, 0, none⟩ = some (.int .i64 X.op) := (hb1.cell (p := ⟨w.heap.size + 1, 0, none⟩) (by simp)).trans (cell_new2 _ _ trivial rfl)
       have r1 : ∀ i, i < 5 → w1.cell? ⟨w.heap.size, i, none⟩ = some (.int .i64 0) := slot_r hb1
       have f1 : ∀ i, w1.frozen? ⟨w.heap.size, i, none⟩ = false := slot_f hb1
       have q0 := r1 0 (by omega); have q1 := r1 1 (by omega); have q2 := r1 2 (by omega); have q3 := r1 3 (by omega); have q4 := r1 4 (by omega)
       have g0 := f1 0; have g1 := f1 1; have g2 := f1 2; have g3 := f1 3; have g4 := f1 4
       clear hb1 r1 f1))
  go_region_with (first
    | (go_at_call 52; refine (HF.out _ (slot_rows HR.out HB1.out)).mono ?_; rintro e w3 ⟨rfl, hb3⟩; have q0' := ((below1d hb3).cell (p := ⟨w.heap.size, 0, none⟩) hz0).trans q0; have g0' := ((below1d hb3).frozen (p := ⟨w.heap.size, 0, none⟩) hz0).trans g0; have q1' := ((below1d hb3).cell (p := ⟨w.heap.size, 1, none⟩) hz0).trans q1; have g1' := ((below1d hb3).frozen (p := ⟨w.heap.size, 1, none⟩) hz0).trans g1; have q2' := ((below1d hb3).cell (p := ⟨w.heap.size, 2, none⟩) hz0).trans q2; have g2' := ((below1d hb3).frozen (p := ⟨w.heap.size, 2, none⟩) hz0).trans g2; have q3' := ((below1d hb3).cell (p := ⟨w.heap.size, 3, none⟩) hz0).trans q3; have g3' := ((below1d hb3).frozen (p := ⟨w.heap.size, 3, none⟩) hz0).trans g3; have q4' := ((below1d hb3).cell (p := ⟨w.heap.size, 4, none⟩) hz0).trans q4; have g4' := ((below1d hb3).frozen (p := ⟨w.heap.size, 4, none⟩) hz0).trans g4; have a4' := ((below1d hb3).cell (p := ⟨w.heap.size + 1, 4, none⟩) hz1).trans a4; have a5' := ((below1d hb3).cell (p := ⟨w.heap.size + 1, 5, none⟩) hz1).trans a5;have k0 : w3.cell? ⟨w1.heap.size, 0, none⟩ = some (.int .i64 X.op) := box_in hb3 (cell_new _ rfl); have k1 : w3.cell? ⟨w1.heap.size, 1, none⟩ = some (.int .i64 X.dst) := box_in hb3 (cell_new _ rfl); have k2 : w3.cell? ⟨w1.heap.size, 2, none⟩ = some (.int .i64 X.src) := box_in hb3 (cell_new _ rfl); have k3 : w3.cell? ⟨w1.heap.size, 3, none⟩ = some (.int .i64 X.off) := box_in hb3 (cell_new _ rfl); have k4 : w3.cell? ⟨w1.heap.size, 4, none⟩ = some (.int .i64 X.imm) := box_in hb3 (cell_new _ rfl); have hz3 : w1.heap.size < w3.heap.size := one_d hb3; have hz4 : w.heap.size < w3.heap.size := Nat.lt_trans hz0 hz3; have hz5 : w.heap.size + 1 < w3.heap.size := Nat.lt_trans hz1 hz3; have HB3 := Lib.hid hb3; clear hb3))
  all_goals
    go_wp2
    exact bodyPost_ret (v := .tuple #[fV X, .bool (X.wide == 0)]) (by simp [results, Tryd.results36, go_sem, fV, *]) rfl ⟨rfl, set5at (slot_e HB1.out HB3.out) (Nat.le_refl _) _ _ _ _ _⟩
end Go.Proofs.YtlcmaokafklheaaDoor
