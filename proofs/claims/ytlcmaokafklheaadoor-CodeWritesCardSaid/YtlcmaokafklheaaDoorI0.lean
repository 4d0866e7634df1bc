/- Contracts of instruction: the one that the slots begin with, and whether it is one. -/
import Derived.Test.YtlcmaokafklheaaDoorK
namespace Go.Proofs.YtlcmaokafklheaaDoor
open Go.RowKit M

theorem set6 {B b : Nat} {w W : World} (h : Below B w W) (hb : B ≤ b) (v0 v1 v2 v3 v4 v5 : Value) : Below B w ((((((W.setCell ⟨b, 0, none⟩ v0).setCell ⟨b, 1, none⟩ v1).setCell ⟨b, 2, none⟩ v2).setCell ⟨b, 3, none⟩ v3).setCell ⟨b, 4, none⟩ v4).setCell ⟨b, 5, none⟩ v5) :=
  (((((h.setCell (p := ⟨b, 0, none⟩) hb _).setCell (p := ⟨b, 1, none⟩) hb _).setCell (p := ⟨b, 2, none⟩) hb _).setCell (p := ⟨b, 3, none⟩) hb _).setCell (p := ⟨b, 4, none⟩) hb _).setCell (p := ⟨b, 5, none⟩) hb _
set_option maxRecDepth 100000 in
set_option maxHeartbeats 1000000 in
theorem ins_plain (g o m mc : Nat) (q0 : Option Addr) (xs0 : List Int) (w : World) (hm : 1 ≤ m) (hm2 : m ≤ 4096) (hg : g < w.heap.size) (c0 : w.cell? ⟨g, o, none⟩ = some (.slice q0 xs0.length 8)) (h0 : RowAt w q0 xs0) (hr : RowsAt w) (hop : (unp (getN xs0)).op ≠ 24) :
    Calls Tryd.prog 32 #[.slice (some ⟨g, o, none⟩) m mc] w fun e w' => e = .returned (.tuple #[iV (unp (getN xs0)), .bool true]) ∧ Below w.heap.size w w' := by
  have HU := Lib.hid (unpack_v q0 8 xs0)
  have H0 := Lib.hid h0
  have HR := Lib.hid hr
  obtain ⟨N, hN⟩ : ∃ N, xs0.length = N := ⟨_, rfl⟩
  have hw : (unp (getN xs0)).wide = 0 := rfl
  generalize unp (getN xs0) = X at *
  rw [hN] at c0 HU
  have hne : (X.op != 24) = true := by simpa using hop
  have HW := Lib.hid hw
  clear hN h0 hr hop hw
  go_enter Tryd.func32, Tryd.ntmps32
  go_wp2_with (go_at_call 44; refine (HU.out _ (H0.out.alloc _) (HR.out.alloc _)).mono ?_; rintro e w1 ⟨rfl, hb1⟩; obtain ⟨hc, hf⟩ := bcell hb1; have hz1 := one_in hb1; have HB1 := Lib.hid (below1 hb1); clear hb1)
  exact bodyPost_ret (v := .tuple #[iV X, .bool true]) (by simp [results, Tryd.results32, go_sem, iV, HW.out, *]) rfl ⟨rfl, ((set6 HB1.out (Nat.le_refl _) _ _ _ _ _ _).alloc (by simp; omega) _).alloc (by simp; omega) _⟩
set_option maxRecDepth 100000 in
set_option maxHeartbeats 1000000 in
theorem ins_short (g o mc : Nat) (q0 : Option Addr) (xs0 : List Int) (w : World) (hg : g < w.heap.size) (c0 : w.cell? ⟨g, o, none⟩ = some (.slice q0 xs0.length 8)) (h0 : RowAt w q0 xs0) (hr : RowsAt w) (hop : (unp (getN xs0)).op = 24) :
    Calls Tryd.prog 32 #[.slice (some ⟨g, o, none⟩) 1 mc] w fun e w' => e = .returned (.tuple #[iV z, .bool false]) ∧ Below w.heap.size w w' := by
  have HU := Lib.hid (unpack_v q0 8 xs0)
  have H0 := Lib.hid h0
  have HR := Lib.hid hr
  obtain ⟨N, hN⟩ : ∃ N, xs0.length = N := ⟨_, rfl⟩
  generalize unp (getN xs0) = X at *
  obtain ⟨a0, a1, a2, a3, a4, a5⟩ := X
  obtain rfl : a0 = 24 := hop
  rw [hN] at c0 HU
  clear hN h0 hr
  go_enter Tryd.func32, Tryd.ntmps32
  go_wp2_with (go_at_call 44; refine (HU.out _ (H0.out.alloc _) (HR.out.alloc _)).mono ?_; rintro e w1 ⟨rfl, hb1⟩; obtain ⟨hc, hf⟩ := bcell hb1; have hz1 := one_in hb1; have HB1 := Lib.hid (below1 hb1); clear hb1)
  exact bodyPost_ret (v := .tuple #[iV z, .bool false]) (by simp [results, Tryd.results32, go_sem, iV, z, *]) rfl ⟨rfl, ((set6 HB1.out (Nat.le_refl _) _ _ _ _ _ _).alloc (by simp; omega) _).alloc (by simp; omega) _⟩
theorem keepA5 {w : World} {o : Obj} {b i : Nat} {v u : Value} (h : b < w.heap.size) (hi : i ≠ 5) (hu : w.cell? ⟨b, i, none⟩ = some u) : ((w.setCell ⟨b, 5, none⟩ v).alloc o).drew.cell? ⟨b, i, none⟩ = some u := by
  rw [World.cell?_drew, World.cell?_alloc_lt _ _ ⟨b, i, none⟩ (by simpa using h), World.cell?_setCell_other _ _ _ _ (by intro e; injection e; omega)]
  exact hu
theorem keepB5 {w : World} {cs : Array Value} {t : TypeId} {b i : Nat} {v u : Value} (hu : cs[i]? = some u) : ((w.setCell ⟨b, 5, none⟩ v).alloc (.cells cs t)).drew.cell? ⟨w.heap.size, i, none⟩ = some u := by
  have := cell_new (w.setCell ⟨b, 5, none⟩ v) (t := t) (fr := (0, 0)) hu
  rw [World.cell?_drew]
  rwa [World.size_setCell] at this
/-- a wide one's own number, put together -/
theorem rest_wide {x y : In} (hy : -2147483648 ≤ y.imm ∧ y.imm ≤ 2147483647) : decide (y.op = (restI (wideOf x y)).op ∧ y.dst = (restI (wideOf x y)).dst ∧ y.src = (restI (wideOf x y)).src ∧ y.off = (restI (wideOf x y)).off ∧ y.imm = (restI (wideOf x y)).imm) = okHole y := by
  unfold restI wideOf okHole sg32
  dsimp only
  apply decide_eq_decide.2
  omega
theorem rest_v (x : Int) (w : World) (h0 : 0 ≤ x) (h1 : x < 18446744073709551616) :
    Calls Tryd.prog 46 #[.int .u64 x] w fun e w' => e = .returned (.agg #[.int .i64 0, .int .i64 0, .int .i64 0, .int .i64 0, .int .i64 (sg32 (x / 4294967296))]) ∧ Below w.heap.size w w' := rest_any x w h0 h1
theorem eq56_r {x Y : In} (hy : -2147483648 ≤ Y.imm ∧ Y.imm ≤ 2147483647) (w : World) : (Op.equalIn 10000 56 (.agg #[.int .i64 Y.op, .int .i64 Y.dst, .int .i64 Y.src, .int .i64 Y.off, .int .i64 Y.imm]) (.agg #[.int .i64 0, .int .i64 0, .int .i64 0, .int .i64 0, .int .i64 (sg32 (wideOf x Y / 4294967296))])).run Tryd.prog w = .ok (okHole Y) w := by
  rw [← rest_wide (x := x) hy]
  exact eq56a 9998 Y (restI (wideOf x Y)) w
theorem keep6 {w : World} {b c i : Nat} {v0 v1 v2 v3 v4 v5 u : Value} (h : b ≠ c) (hu : w.cell? ⟨c, i, none⟩ = some u) : ((((((w.setCell ⟨b, 0, none⟩ v0).setCell ⟨b, 1, none⟩ v1).setCell ⟨b, 2, none⟩ v2).setCell ⟨b, 3, none⟩ v3).setCell ⟨b, 4, none⟩ v4).setCell ⟨b, 5, none⟩ v5).cell? ⟨c, i, none⟩ = some u := by
  have hh : ∀ k, (⟨b, k, none⟩ : Addr) ≠ ⟨c, i, none⟩ := fun k e => by injection e with e; exact h e
  rw [World.cell?_setCell_other _ _ _ _ (by first | exact hh _ | exact (hh _).symm), World.cell?_setCell_other _ _ _ _ (by first | exact hh _ | exact (hh _).symm), World.cell?_setCell_other _ _ _ _ (by first | exact hh _ | exact (hh _).symm), World.cell?_setCell_other _ _ _ _ (by first | exact hh _ | exact (hh _).symm), World.cell?_setCell_other _ _ _ _ (by first | exact hh _ | exact (hh _).symm), World.cell?_setCell_other _ _ _ _ (by first | exact hh _ | exact (hh _).symm)]
  exact hu
theorem or_wide {a b : Int} : bits .or .u64 (a % 4294967296) (b % 4294967296 * 4294967296) = a % 4294967296 + b % 4294967296 * 4294967296 :=
  or_join 32 _ _ (by omega) (by omega) (by omega) (by omega) (by omega) (by omega)
end Go.Proofs.YtlcmaokafklheaaDoor
