/- Contract of instruction at a wide one: its two slots, put together. -/
import Derived.Test.YtlcmaokafklheaaDoorI0
namespace Go.Proofs.YtlcmaokafklheaaDoor
open Go.RowKit M

set_option maxRecDepth 100000 in
set_option maxHeartbeats 8000000 in
theorem ins_wide (g o m mc : Nat) (q0 q1 : Option Addr) (xs0 xs1 : List Int) (w : World) (hm : 2 ≤ m) (hm2 : m ≤ 4096) (hg : g < w.heap.size) (c0 : w.cell? ⟨g, o, none⟩ = some (.slice q0 xs0.length 8)) (c1 : w.cell? ⟨g, o + 1, none⟩ = some (.slice q1 xs1.length 8)) (h0 : RowAt w q0 xs0) (h1 : RowAt w q1 xs1) (hr : RowsAt w) (hop : (unp (getN xs0)).op = 24) :
    Calls Tryd.prog 32 #[.slice (some ⟨g, o, none⟩) m mc] w fun e w' => e = .returned (.tuple #[iV { unp (getN xs0) with wide := wideOf (unp (getN xs0)) (unp (getN xs1)) }, .bool (okHole (unp (getN xs1)))]) ∧ Below w.heap.size w w' := by
  have HU := Lib.hid (unpack_v q0 8 xs0)
  have HV := Lib.hid (unpack_v q1 8 xs1)
  have H0 := Lib.hid h0
  have H1 := Lib.hid h1
  have HR := Lib.hid hr
  have hbx := unp_bd (getN xs0)
  have hby := unp_bd (getN xs1)
  have hiy : -2147483648 ≤ (unp (getN xs1)).imm ∧ (unp (getN xs1)).imm ≤ 2147483647 := by unfold unp sg32; dsimp only; omega
  obtain ⟨N, hN⟩ : ∃ N, xs0.length = N := ⟨_, rfl⟩
  obtain ⟨N1, hN1⟩ : ∃ N, xs1.length = N := ⟨_, rfl⟩
  generalize unp (getN xs0) = X at *
  generalize unp (getN xs1) = Y at *
  obtain ⟨a0, a1, a2, a3, a4, a5⟩ := X
  obtain rfl : a0 = 24 := hop
  rw [hN] at c0 HU
  have hbits : bits .or .u64 (a4 % 4294967296) (IntKind.u64.wrap (Y.imm % 4294967296 * 4294967296)) = wideOf ⟨24, a1, a2, a3, a4, a5⟩ Y := by
    rw [IntKind.wrap_u64, show Y.imm % 4294967296 * 4294967296 % 18446744073709551616 = Y.imm % 4294967296 * 4294967296 by omega]; exact or_wide
  have hwd := wideOf_bd ⟨24, a1, a2, a3, a4, a5⟩ Y
  have HEQ := Lib.hid (eq56_r (x := ⟨24, a1, a2, a3, a4, a5⟩) hiy)
  obtain ⟨WD, hWD⟩ : ∃ W, wideOf ⟨24, a1, a2, a3, a4, a5⟩ Y = W := ⟨_, rfl⟩
  obtain ⟨OH, hOH⟩ : ∃ b, okHole Y = b := ⟨_, rfl⟩
  rw [hWD] at hbits hwd HEQ ⊢
  rw [hOH] at HEQ ⊢
  have HBITS := Lib.hid hbits
  clear hWD hOH hbits
  rw [hN1] at c1 HV
  clear hN h0 hr hN1 h1
  go_enter Tryd.func32, Tryd.ntmps32
  have tok1 : True := trivial
  go_wp2_with (first
    | (go_at_call 44; have _t := tok1; refine (HU.out _ (H0.out.alloc _) (HR.out.alloc _)).mono ?_; rintro e w1 ⟨rfl, hb1⟩; obtain ⟨hc, hf⟩ := bcell hb1; have hz1 := one_in hb1; have HB1 := Lib.hid hb1; have hg1 : g < w1.heap.size := Nat.lt_trans hg hz1; have d1 : w1.cell? ⟨g, o + 1, none⟩ = some (.slice q1 N1 8) := ((below1 hb1).cell (p := ⟨g, o + 1, none⟩) hg).trans c1; clear hb1 tok1)
    | (go_at_call 44; refine (HV.out _ (((H1.out.alloc _).below HB1.out).alloc _ |>.alloc _) (((HR.out.alloc _).below HB1.out).alloc _ |>.alloc _)).mono ?_; rintro e w2 ⟨rfl, hb2⟩; have HB2 := Lib.hid hb2; clear hb2))
  clear hc hf c0 c1 d1 _t
  have hx4 := hbx.imm
  dsimp only at hx4
  have HBY := Lib.hid hby
  clear hbx hby
  obtain ⟨hz2, hz3⟩ := two_in HB2.out
  have e0 : w2.cell? ⟨w1.heap.size + 1, 0, none⟩ = some (.int .i64 24) := (HB2.out.cell (p := ⟨w1.heap.size + 1, 0, none⟩) (by simp)).trans (cell_new2 _ _ trivial rfl)
  have e1 : w2.cell? ⟨w1.heap.size + 1, 1, none⟩ = some (.int .i64 a1) := (HB2.out.cell (p := ⟨w1.heap.size + 1, 1, none⟩) (by simp)).trans (cell_new2 _ _ trivial rfl)
  have e2 : w2.cell? ⟨w1.heap.size + 1, 2, none⟩ = some (.int .i64 a2) := (HB2.out.cell (p := ⟨w1.heap.size + 1, 2, none⟩) (by simp)).trans (cell_new2 _ _ trivial rfl)
  have e3 : w2.cell? ⟨w1.heap.size + 1, 3, none⟩ = some (.int .i64 a3) := (HB2.out.cell (p := ⟨w1.heap.size + 1, 3, none⟩) (by simp)).trans (cell_new2 _ _ trivial rfl)
  have e4 : w2.cell? ⟨w1.heap.size + 1, 4, none⟩ = some (.int .i64 a4) := (HB2.out.cell (p := ⟨w1.heap.size + 1, 4, none⟩) (by simp)).trans (cell_new2 _ _ trivial rfl)
  have e5 : w2.cell? ⟨w1.heap.size + 1, 5, none⟩ = some (.int .u64 0) := (HB2.out.cell (p := ⟨w1.heap.size + 1, 5, none⟩) (by simp)).trans (cell_new2 _ _ trivial rfl)
  have f5 : w2.frozen? ⟨w1.heap.size + 1, 5, none⟩ = false := (HB2.out.frozen (p := ⟨w1.heap.size + 1, 5, none⟩) (by simp)).trans (by simp)
  go_region_held3 (fun W => W.cell? ⟨w1.heap.size + 1, 4, none⟩ = some (.int .i64 a4) ∧ W.cell? ⟨w2.heap.size, 4, none⟩ = some (.int .i64 Y.imm)) (first | exact ⟨keepA5 hz3 (by omega) e4, keepB5 rfl⟩ | go_keep)
    (first
    | (go_at_call 45; refine (imm_no _ _ (by omega) (by omega)).mono ?_; rintro e w3 ⟨rfl, rfl⟩))
  go_wp2_with fail
  rw [HBITS.out]
  have hz4 : w.heap.size < w2.heap.size := by omega
  have r8 : ∀ i, i < 6 → (((w2.setCell ⟨w1.heap.size + 1, 5, none⟩ (.int .u64 WD)).alloc (.cells #[.int .i64 Y.op, .int .i64 Y.dst, .int .i64 Y.src, .int .i64 Y.off, .int .i64 Y.imm] 56)).drew).cell? ⟨w.heap.size, i, none⟩ = some (if i < 5 then .int .i64 0 else .int .u64 0) ∧ (((w2.setCell ⟨w1.heap.size + 1, 5, none⟩ (.int .u64 WD)).alloc (.cells #[.int .i64 Y.op, .int .i64 Y.dst, .int .i64 Y.src, .int .i64 Y.off, .int .i64 Y.imm] 56)).drew).frozen? ⟨w.heap.size, i, none⟩ = false := by
    intro i hi
    have g0 : w2.cell? ⟨w.heap.size, i, none⟩ = some (if i < 5 then .int .i64 0 else .int .u64 0) := by
      rw [HB2.out.cell (p := ⟨w.heap.size, i, none⟩) (by simp; omega), World.cell?_alloc_lt _ _ ⟨w.heap.size, i, none⟩ (by simp; omega), World.cell?_alloc_lt _ _ ⟨w.heap.size, i, none⟩ hz1, HB1.out.cell (p := ⟨w.heap.size, i, none⟩) (by simp)]
      refine cell_new w ?_
      match i, hi with
      | 0, _ => rfl
      | 1, _ => rfl
      | 2, _ => rfl
      | 3, _ => rfl
      | 4, _ => rfl
      | 5, _ => rfl
    have g1 : w2.frozen? ⟨w.heap.size, i, none⟩ = false := by
      rw [HB2.out.frozen (p := ⟨w.heap.size, i, none⟩) (by simp; omega), World.frozen?_alloc_old _ _ ⟨w.heap.size, i, none⟩ (by simp; omega), World.frozen?_alloc_old _ _ ⟨w.heap.size, i, none⟩ (by simp; omega), HB1.out.frozen (p := ⟨w.heap.size, i, none⟩) (by simp)]
      simp
    refine ⟨?_, ?_⟩
    · rw [World.cell?_drew, World.cell?_alloc_lt _ _ ⟨w.heap.size, i, none⟩ (by simpa using hz4), World.cell?_setCell_other _ _ _ _ (by intro e; injection e; omega)]
      exact g0
    · rw [World.frozen?_drew, World.frozen?_alloc_old _ _ ⟨w.heap.size, i, none⟩ (by simp; omega), World.frozen?_setCell]
      exact g1
  have j0 : (((w2.setCell ⟨w1.heap.size + 1, 5, none⟩ (.int .u64 WD)).alloc (.cells #[.int .i64 Y.op, .int .i64 Y.dst, .int .i64 Y.src, .int .i64 Y.off, .int .i64 Y.imm] 56)).drew).cell? ⟨w1.heap.size + 1, 0, none⟩ = some (.int .i64 24) := keepA5 hz3 (by omega) e0
  have j1 : (((w2.setCell ⟨w1.heap.size + 1, 5, none⟩ (.int .u64 WD)).alloc (.cells #[.int .i64 Y.op, .int .i64 Y.dst, .int .i64 Y.src, .int .i64 Y.off, .int .i64 Y.imm] 56)).drew).cell? ⟨w1.heap.size + 1, 1, none⟩ = some (.int .i64 a1) := keepA5 hz3 (by omega) e1
  have j2 : (((w2.setCell ⟨w1.heap.size + 1, 5, none⟩ (.int .u64 WD)).alloc (.cells #[.int .i64 Y.op, .int .i64 Y.dst, .int .i64 Y.src, .int .i64 Y.off, .int .i64 Y.imm] 56)).drew).cell? ⟨w1.heap.size + 1, 2, none⟩ = some (.int .i64 a2) := keepA5 hz3 (by omega) e2
  have j3 : (((w2.setCell ⟨w1.heap.size + 1, 5, none⟩ (.int .u64 WD)).alloc (.cells #[.int .i64 Y.op, .int .i64 Y.dst, .int .i64 Y.src, .int .i64 Y.off, .int .i64 Y.imm] 56)).drew).cell? ⟨w1.heap.size + 1, 3, none⟩ = some (.int .i64 a3) := keepA5 hz3 (by omega) e3
  have j4 : (((w2.setCell ⟨w1.heap.size + 1, 5, none⟩ (.int .u64 WD)).alloc (.cells #[.int .i64 Y.op, .int .i64 Y.dst, .int .i64 Y.src, .int .i64 Y.off, .int .i64 Y.imm] 56)).drew).cell? ⟨w1.heap.size + 1, 4, none⟩ = some (.int .i64 a4) := keepA5 hz3 (by omega) e4
  have j5 : (((w2.setCell ⟨w1.heap.size + 1, 5, none⟩ (.int .u64 WD)).alloc (.cells #[.int .i64 Y.op, .int .i64 Y.dst, .int .i64 Y.src, .int .i64 Y.off, .int .i64 Y.imm] 56)).drew).cell? ⟨w1.heap.size + 1, 5, none⟩ = some (.int .u64 WD) := by
    rw [World.cell?_drew, World.cell?_alloc_lt _ _ ⟨w1.heap.size + 1, 5, none⟩ (by simpa using hz3)]
    exact World.cell?_setCell_same _ _ _ e5
  have k0 : (((w2.setCell ⟨w1.heap.size + 1, 5, none⟩ (.int .u64 WD)).alloc (.cells #[.int .i64 Y.op, .int .i64 Y.dst, .int .i64 Y.src, .int .i64 Y.off, .int .i64 Y.imm] 56)).drew).cell? ⟨w2.heap.size, 0, none⟩ = some (.int .i64 Y.op) := keepB5 rfl
  have k1 : (((w2.setCell ⟨w1.heap.size + 1, 5, none⟩ (.int .u64 WD)).alloc (.cells #[.int .i64 Y.op, .int .i64 Y.dst, .int .i64 Y.src, .int .i64 Y.off, .int .i64 Y.imm] 56)).drew).cell? ⟨w2.heap.size, 1, none⟩ = some (.int .i64 Y.dst) := keepB5 rfl
  have k2 : (((w2.setCell ⟨w1.heap.size + 1, 5, none⟩ (.int .u64 WD)).alloc (.cells #[.int .i64 Y.op, .int .i64 Y.dst, .int .i64 Y.src, .int .i64 Y.off, .int .i64 Y.imm] 56)).drew).cell? ⟨w2.heap.size, 2, none⟩ = some (.int .i64 Y.src) := keepB5 rfl
  have k3 : (((w2.setCell ⟨w1.heap.size + 1, 5, none⟩ (.int .u64 WD)).alloc (.cells #[.int .i64 Y.op, .int .i64 Y.dst, .int .i64 Y.src, .int .i64 Y.off, .int .i64 Y.imm] 56)).drew).cell? ⟨w2.heap.size, 3, none⟩ = some (.int .i64 Y.off) := keepB5 rfl
  have k4 : (((w2.setCell ⟨w1.heap.size + 1, 5, none⟩ (.int .u64 WD)).alloc (.cells #[.int .i64 Y.op, .int .i64 Y.dst, .int .i64 Y.src, .int .i64 Y.off, .int .i64 Y.imm] 56)).drew).cell? ⟨w2.heap.size, 4, none⟩ = some (.int .i64 Y.imm) := keepB5 rfl
  have HB8 : Below w.heap.size w (((w2.setCell ⟨w1.heap.size + 1, 5, none⟩ (.int .u64 WD)).alloc (.cells #[.int .i64 Y.op, .int .i64 Y.dst, .int .i64 Y.src, .int .i64 Y.off, .int .i64 Y.imm] 56)).drew) := ((((below1 HB1.out).trans ((below2 HB2.out).mono (by omega))).setCell (p := ⟨w1.heap.size + 1, 5, none⟩) (by show w.heap.size ≤ w1.heap.size + 1; omega) _).alloc (by simp; omega) _).drew
  have hz8 : w2.heap.size < (((w2.setCell ⟨w1.heap.size + 1, 5, none⟩ (.int .u64 WD)).alloc (.cells #[.int .i64 Y.op, .int .i64 Y.dst, .int .i64 Y.src, .int .i64 Y.off, .int .i64 Y.imm] 56)).drew).heap.size := by simp
  obtain ⟨W8, hW8⟩ : ∃ W, ((w2.setCell ⟨w1.heap.size + 1, 5, none⟩ (.int .u64 WD)).alloc (.cells #[.int .i64 Y.op, .int .i64 Y.dst, .int .i64 Y.src, .int .i64 Y.off, .int .i64 Y.imm] 56)).drew = W := ⟨_, rfl⟩
  rw [hW8] at r8 j0 j1 j2 j3 j4 j5 k0 k1 k2 k3 k4 hz8 HB8 ⊢
  clear hW8 e0 e1 e2 e3 e4 e5 f5
  have hz9 : w1.heap.size + 1 < W8.heap.size := by omega
  have hz10 : w.heap.size < W8.heap.size := by omega
  go_region_with
    (first
    | (go_at_call 46; refine (rest_v _ _ hwd.1 hwd.2).mono ?_; rintro e w9 ⟨rfl, hb9⟩
       have hb9 : Below W8.heap.size W8 w9 := ⟨hb9.os, hb9.tape, hb9.output, hb9.size, hb9.block⟩
       have q9 : ∀ b i v, b < W8.heap.size → W8.cell? ⟨b, i, none⟩ = some v → w9.cell? ⟨b, i, none⟩ = some v := fun b i v hb h => (hb9.cell (p := ⟨b, i, none⟩) hb).trans h
       have m0 := q9 _ _ _ hz9 j0
       have m1 := q9 _ _ _ hz9 j1
       have m2 := q9 _ _ _ hz9 j2
       have m3 := q9 _ _ _ hz9 j3
       have m4 := q9 _ _ _ hz9 j4
       have m5 := q9 _ _ _ hz9 j5
       have n0 := q9 _ _ _ hz8 k0
       have n1 := q9 _ _ _ hz8 k1
       have n2 := q9 _ _ _ hz8 k2
       have n3 := q9 _ _ _ hz8 k3
       have n4 := q9 _ _ _ hz8 k4
       have s0 : w9.cell? ⟨w.heap.size, 0, none⟩ = some (.int .i64 0) := q9 _ _ _ hz10 (r8 0 (by omega)).1
       have f0 := (hb9.frozen (p := ⟨w.heap.size, 0, none⟩) hz10).trans (r8 0 (by omega)).2
       have s1 : w9.cell? ⟨w.heap.size, 1, none⟩ = some (.int .i64 0) := q9 _ _ _ hz10 (r8 1 (by omega)).1
       have f1 := (hb9.frozen (p := ⟨w.heap.size, 1, none⟩) hz10).trans (r8 1 (by omega)).2
       have s2 : w9.cell? ⟨w.heap.size, 2, none⟩ = some (.int .i64 0) := q9 _ _ _ hz10 (r8 2 (by omega)).1
       have f2 := (hb9.frozen (p := ⟨w.heap.size, 2, none⟩) hz10).trans (r8 2 (by omega)).2
       have s3 : w9.cell? ⟨w.heap.size, 3, none⟩ = some (.int .i64 0) := q9 _ _ _ hz10 (r8 3 (by omega)).1
       have f3 := (hb9.frozen (p := ⟨w.heap.size, 3, none⟩) hz10).trans (r8 3 (by omega)).2
       have s4 : w9.cell? ⟨w.heap.size, 4, none⟩ = some (.int .i64 0) := q9 _ _ _ hz10 (r8 4 (by omega)).1
       have f4 := (hb9.frozen (p := ⟨w.heap.size, 4, none⟩) hz10).trans (r8 4 (by omega)).2
       have s5 : w9.cell? ⟨w.heap.size, 5, none⟩ = some (.int .u64 0) := q9 _ _ _ hz10 (r8 5 (by omega)).1
       have f5 := (hb9.frozen (p := ⟨w.heap.size, 5, none⟩) hz10).trans (r8 5 (by omega)).2
       have he := HEQ.out
       have HB9 := Lib.hid hb9
       have hne : w.heap.size ≠ w1.heap.size + 1 := by omega
       have hne2 : w.heap.size ≠ w2.heap.size := by omega
       clear hb9 q9))
  all_goals
    go_wp2

    exact bodyPost_ret (v := .tuple #[iV ⟨24, a1, a2, a3, a4, WD⟩, .bool OH]) (by simp [results, Tryd.results32, go_sem, iV, *]) rfl ⟨rfl, set6 (HB8.trans (HB9.out.mono (by omega))) (Nat.le_refl _) _ _ _ _ _ _⟩
end Go.Proofs.YtlcmaokafklheaaDoor
