/- Contracts of unpack, pack, fits, numbers and rest: a slot's fields. -/
import Derived.Test.YtlcmaokafklheaaDoorB
import Derived.OpenShut
namespace Go.Proofs.YtlcmaokafklheaaDoor
open Go.RowKit M

/-- the table of the fields lies in memory -/
structure RowsAt (w : World) : Prop where
  lt : 1 < w.heap.size
  c : (∀ j v, (#[.int .i64 0, .int .i64 8, .bool false, .int .i64 8, .int .i64 4, .bool false, .int .i64 12, .int .i64 4, .bool false, .int .i64 16, .int .i64 16, .bool true, .int .i64 32, .int .i64 32, .bool true] : Array Value)[j]? = some v → w.cell? ⟨1, j, none⟩ = some v)
theorem RowsAt.below {w w' : World} (h : RowsAt w) (hb : Below w.heap.size w w') : RowsAt w' :=
  ⟨Nat.lt_of_lt_of_le h.lt hb.size, fun j v hv => (hb.cell (p := ⟨1, j, none⟩) h.lt).trans (h.c j v hv)⟩

theorem RowsAt.all {w : World} (h : RowsAt w) : w.cell? ⟨1, 0, none⟩ = some (.int .i64 0) ∧ w.cell? ⟨1, 1, none⟩ = some (.int .i64 8) ∧ w.cell? ⟨1, 2, none⟩ = some (.bool false) ∧ w.cell? ⟨1, 3, none⟩ = some (.int .i64 8) ∧ w.cell? ⟨1, 4, none⟩ = some (.int .i64 4) ∧ w.cell? ⟨1, 5, none⟩ = some (.bool false) ∧ w.cell? ⟨1, 6, none⟩ = some (.int .i64 12) ∧ w.cell? ⟨1, 7, none⟩ = some (.int .i64 4) ∧ w.cell? ⟨1, 8, none⟩ = some (.bool false) ∧ w.cell? ⟨1, 9, none⟩ = some (.int .i64 16) ∧ w.cell? ⟨1, 10, none⟩ = some (.int .i64 16) ∧ w.cell? ⟨1, 11, none⟩ = some (.bool true) ∧ w.cell? ⟨1, 12, none⟩ = some (.int .i64 32) ∧ w.cell? ⟨1, 13, none⟩ = some (.int .i64 32) ∧ w.cell? ⟨1, 14, none⟩ = some (.bool true) :=
  ⟨h.c 0 _ rfl, h.c 1 _ rfl, h.c 2 _ rfl, h.c 3 _ rfl, h.c 4 _ rfl, h.c 5 _ rfl, h.c 6 _ rfl, h.c 7 _ rfl, h.c 8 _ rfl, h.c 9 _ rfl, h.c 10 _ rfl, h.c 11 _ rfl, h.c 12 _ rfl, h.c 13 _ rfl, h.c 14 _ rfl⟩
theorem RowsAt.alloc {w : World} (h : RowsAt w) (o : Obj) : RowsAt (w.alloc o) := h.below ((Below.refl _ _).alloc (Nat.le_refl _) o)
def z5 : Obj := .cells #[.int .i64 0, .int .i64 0, .int .i64 0, .int .i64 0, .int .i64 0] 56

theorem rowIs_one {w w1 : World} {o : Obj} {b : Nat} {t : TypeId} {n : Nat} {f : Nat → Value} (h : w.rowIs b t n f) (hb : Below (w.alloc o).heap.size (w.alloc o) w1) : w1.rowIs b t n f :=
  rowIs_below h (below1 hb) h.lt
theorem getTo_bd (xs : List Int) (k : Nat) : 0 ≤ getTo xs k ∧ getTo xs k < 18446744073709551616 := by
  cases k with
  | zero => simp [getTo]
  | succ k =>
    unfold getTo
    have := wf_bits .or .u64 (getTo xs k) (IntKind.u64.wrap (xs.getD k 0 * 2 ^ (8 * k)))
    simp [Lit.wf, IntKind.min, IntKind.max, IntKind.signed, IntKind.bits] at this ⊢
    omega
theorem getN_bd (xs : List Int) : 0 ≤ getN xs ∧ getN xs < 18446744073709551616 := getTo_bd xs _
/-- fields as an array of five -/
def fV (x : In) : Value := .agg #[.int .i64 x.op, .int .i64 x.dst, .int .i64 x.src, .int .i64 x.off, .int .i64 x.imm]
def fRow (x : In) (k j : Nat) : Value := .int .i64 (if j < k then fOf x j else 0)
theorem z5_row (w : World) (x : In) : ((w.alloc z5).alloc z5).rowIs (w.heap.size + 1) 56 5 (fRow x 0) := by
  have h := World.rowIs_alloc (w.alloc z5) #[.int .i64 0, .int .i64 0, .int .i64 0, .int .i64 0, .int .i64 0] 56 (fRow x 0) (by
    intro i hi
    have : i < 5 := hi
    match i, this with
    | 0, _ => rfl
    | 1, _ => rfl
    | 2, _ => rfl
    | 3, _ => rfl
    | 4, _ => rfl)
  rw [World.size_alloc] at h
  exact h
theorem fRow_set {w : World} {g : Nat} {x : In} {k : Nat} (h : w.rowIs g 56 5 (fRow x k)) : (w.setCell ⟨g, k, none⟩ (.int .i64 (fOf x k))).rowIs g 56 5 (fRow x (k + 1)) :=
  (h.set k _).congr fun i hi => by
    simp only [fRow]
    by_cases h1 : i = k
    · subst h1; simp
    · by_cases h2 : i < k
      · rw [if_neg h1, if_pos h2, if_pos (by omega)]
      · rw [if_neg h1, if_neg h2, if_neg (by omega)]

theorem index103_0 (w : World) : (Instr.index 103 (.agg #[.int .i64 0, .int .i64 8, .bool false, .int .i64 8, .int .i64 4, .bool false, .int .i64 12, .int .i64 4, .bool false, .int .i64 16, .int .i64 16, .bool true, .int .i64 32, .int .i64 32, .bool true]) (.int .i64 0)).run Tryd.prog w = .ok (.agg #[.int .i64 0, .int .i64 8, .bool false]) w := by kernel_rfl
theorem index103_1 (w : World) : (Instr.index 103 (.agg #[.int .i64 0, .int .i64 8, .bool false, .int .i64 8, .int .i64 4, .bool false, .int .i64 12, .int .i64 4, .bool false, .int .i64 16, .int .i64 16, .bool true, .int .i64 32, .int .i64 32, .bool true]) (.int .i64 1)).run Tryd.prog w = .ok (.agg #[.int .i64 8, .int .i64 4, .bool false]) w := by kernel_rfl
theorem index103_2 (w : World) : (Instr.index 103 (.agg #[.int .i64 0, .int .i64 8, .bool false, .int .i64 8, .int .i64 4, .bool false, .int .i64 12, .int .i64 4, .bool false, .int .i64 16, .int .i64 16, .bool true, .int .i64 32, .int .i64 32, .bool true]) (.int .i64 2)).run Tryd.prog w = .ok (.agg #[.int .i64 12, .int .i64 4, .bool false]) w := by kernel_rfl
theorem index103_3 (w : World) : (Instr.index 103 (.agg #[.int .i64 0, .int .i64 8, .bool false, .int .i64 8, .int .i64 4, .bool false, .int .i64 12, .int .i64 4, .bool false, .int .i64 16, .int .i64 16, .bool true, .int .i64 32, .int .i64 32, .bool true]) (.int .i64 3)).run Tryd.prog w = .ok (.agg #[.int .i64 16, .int .i64 16, .bool true]) w := by kernel_rfl
theorem index103_4 (w : World) : (Instr.index 103 (.agg #[.int .i64 0, .int .i64 8, .bool false, .int .i64 8, .int .i64 4, .bool false, .int .i64 12, .int .i64 4, .bool false, .int .i64 16, .int .i64 16, .bool true, .int .i64 32, .int .i64 32, .bool true]) (.int .i64 4)).run Tryd.prog w = .ok (.agg #[.int .i64 32, .int .i64 32, .bool true]) w := by kernel_rfl
set_option maxRecDepth 100000 in
set_option maxHeartbeats 1000000 in
theorem unpack_any (q : Option Addr) (qc : Nat) (xs : List Int) (w : World) (h : RowAt w q xs) (hr : RowsAt w) :
    Calls Tryd.prog 44 #[.slice q xs.length qc] w fun e w' => e = .returned (fV (unp (getN xs))) ∧ Below w.heap.size w w' := by
  have H := Lib.hid h
  have hlt := hr.lt
  have hr2 := ((hr.alloc z5).alloc z5).all
  have R0 := Lib.hid (z5_row w (unp (getN xs)))
  obtain ⟨N, hN⟩ : ∃ N, xs.length = N := ⟨_, rfl⟩
  rw [hN]
  have HG := Lib.hid (get_any q qc xs)
  rw [hN] at HG
  obtain ⟨X, hX⟩ : ∃ X, getN xs = X := ⟨_, rfl⟩
  obtain ⟨hX0, hX1⟩ : 0 ≤ X ∧ X < 18446744073709551616 := by rw [← hX]; exact getN_bd xs
  rw [hX] at R0 HG ⊢
  unfold z5 at hr2 R0
  obtain ⟨d0, d1, d2, d3, d4, d5, d6, d7, d8, d9, d10, d11, d12, d13, d14⟩ := hr2
  clear h hr hX hN
  go_enter Tryd.func44, Tryd.ntmps44
  go_wp2_with (go_at_call 63; refine (HG.out _ (H.out.alloc _)).mono ?_; rintro e w1 ⟨rfl, rfl⟩)
  clear d0 d1 d2 d3 d4 d5 d6 d7 d8 d9 d10 d11 d12 d13 d14
  go_loopw [10] (fun i wr => ∃ k : Nat, k ≤ 5 ∧ i = .int .i64 k ∧ Below (w.heap.size + 1) (w.alloc z5) wr ∧ wr.rowIs (w.heap.size + 1) 56 5 (fRow (unp X) k)) (fun i _ => 5 - (intOf i).toNat)
  case atStart => exact ⟨0, Nat.zero_le _, rfl, (Below.refl _ _).alloc (by simp) _, R0.out⟩
  case round =>
    obtain ⟨k, hk, rfl, hb, hrow⟩ := hrel
    have hz := hrow.lt
    have hz0 : w.heap.size < wr.heap.size := by omega
    by_cases hlt : k < 5
    · have e1 := hrow.cell hlt
      have e2 := hrow.frozen k
      have HR := Lib.hid hrow
      have HB := Lib.hid hb
      clear hrow hb
      match k, hlt with
      | 0, _ =>
        have ix := index103_0 wr
        go_wp2_with (go_at_call 64; refine (get_row X _ hX0 hX1 0 (by omega)).mono ?_; rintro e w1 ⟨rfl, hb1⟩; obtain ⟨hc, hf⟩ := bcell hb1; have hz1 := one_in hb1; have HB1 := Lib.hid (below1 hb1); have HR1 := Lib.hid (rowIs_one HR.out hb1); clear hb1)
        go_roundw
        case rel => exact ⟨0 + 1, by omega, by go_num, (HB.out.trans (HB1.out.mono (by omega))).setCell (p := ⟨w.heap.size + 1, 0, none⟩) (by simp) _, fRow_set HR1.out⟩
        case measure => simp [intOf]
      | 1, _ =>
        have ix := index103_1 wr
        go_wp2_with (go_at_call 64; refine (get_row X _ hX0 hX1 1 (by omega)).mono ?_; rintro e w1 ⟨rfl, hb1⟩; obtain ⟨hc, hf⟩ := bcell hb1; have hz1 := one_in hb1; have HB1 := Lib.hid (below1 hb1); have HR1 := Lib.hid (rowIs_one HR.out hb1); clear hb1)
        go_roundw
        case rel => exact ⟨1 + 1, by omega, by go_num, (HB.out.trans (HB1.out.mono (by omega))).setCell (p := ⟨w.heap.size + 1, 1, none⟩) (by simp) _, fRow_set HR1.out⟩
        case measure => simp [intOf]
      | 2, _ =>
        have ix := index103_2 wr
        go_wp2_with (go_at_call 64; refine (get_row X _ hX0 hX1 2 (by omega)).mono ?_; rintro e w1 ⟨rfl, hb1⟩; obtain ⟨hc, hf⟩ := bcell hb1; have hz1 := one_in hb1; have HB1 := Lib.hid (below1 hb1); have HR1 := Lib.hid (rowIs_one HR.out hb1); clear hb1)
        go_roundw
        case rel => exact ⟨2 + 1, by omega, by go_num, (HB.out.trans (HB1.out.mono (by omega))).setCell (p := ⟨w.heap.size + 1, 2, none⟩) (by simp) _, fRow_set HR1.out⟩
        case measure => simp [intOf]
      | 3, _ =>
        have ix := index103_3 wr
        go_wp2_with (go_at_call 64; refine (get_row X _ hX0 hX1 3 (by omega)).mono ?_; rintro e w1 ⟨rfl, hb1⟩; obtain ⟨hc, hf⟩ := bcell hb1; have hz1 := one_in hb1; have HB1 := Lib.hid (below1 hb1); have HR1 := Lib.hid (rowIs_one HR.out hb1); clear hb1)
        go_roundw
        case rel => exact ⟨3 + 1, by omega, by go_num, (HB.out.trans (HB1.out.mono (by omega))).setCell (p := ⟨w.heap.size + 1, 3, none⟩) (by simp) _, fRow_set HR1.out⟩
        case measure => simp [intOf]
      | 4, _ =>
        have ix := index103_4 wr
        go_wp2_with (go_at_call 64; refine (get_row X _ hX0 hX1 4 (by omega)).mono ?_; rintro e w1 ⟨rfl, hb1⟩; obtain ⟨hc, hf⟩ := bcell hb1; have hz1 := one_in hb1; have HB1 := Lib.hid (below1 hb1); have HR1 := Lib.hid (rowIs_one HR.out hb1); clear hb1)
        go_roundw
        case rel => exact ⟨4 + 1, by omega, by go_num, (HB.out.trans (HB1.out.mono (by omega))).setCell (p := ⟨w.heap.size + 1, 4, none⟩) (by simp) _, fRow_set HR1.out⟩
        case measure => simp [intOf]
    · have hk5 : k = 5 := by omega
      subst hk5
      have e0 : wr.cell? ⟨w.heap.size + 1, 0, none⟩ = some (.int .i64 (unp X).op) := (hrow.cell (i := 0) (by omega)).trans (by simp [fRow, fOf])
      have e1 : wr.cell? ⟨w.heap.size + 1, 1, none⟩ = some (.int .i64 (unp X).dst) := (hrow.cell (i := 1) (by omega)).trans (by simp [fRow, fOf])
      have e2 : wr.cell? ⟨w.heap.size + 1, 2, none⟩ = some (.int .i64 (unp X).src) := (hrow.cell (i := 2) (by omega)).trans (by simp [fRow, fOf])
      have e3 : wr.cell? ⟨w.heap.size + 1, 3, none⟩ = some (.int .i64 (unp X).off) := (hrow.cell (i := 3) (by omega)).trans (by simp [fRow, fOf])
      have e4 : wr.cell? ⟨w.heap.size + 1, 4, none⟩ = some (.int .i64 (unp X).imm) := (hrow.cell (i := 4) (by omega)).trans (by simp [fRow, fOf])
      have c0 := (hb.cell (p := ⟨w.heap.size, 0, none⟩) (by simp)).trans (cell_new w (v := .int .i64 0) rfl)
      have c1 := (hb.cell (p := ⟨w.heap.size, 1, none⟩) (by simp)).trans (cell_new w (v := .int .i64 0) rfl)
      have c2 := (hb.cell (p := ⟨w.heap.size, 2, none⟩) (by simp)).trans (cell_new w (v := .int .i64 0) rfl)
      have c3 := (hb.cell (p := ⟨w.heap.size, 3, none⟩) (by simp)).trans (cell_new w (v := .int .i64 0) rfl)
      have c4 := (hb.cell (p := ⟨w.heap.size, 4, none⟩) (by simp)).trans (cell_new w (v := .int .i64 0) rfl)
      have hfz : ∀ i, wr.frozen? ⟨w.heap.size, i, none⟩ = false := fun i => (hb.frozen (p := ⟨w.heap.size, i, none⟩) (by simp)).trans (by unfold z5; simp)
      have f0 := hfz 0
      have f1 := hfz 1
      have f2 := hfz 2
      have f3 := hfz 3
      have f4 := hfz 4
      have HB := Lib.hid hb
      clear hfz hb hrow
      go_wp2
      exact bodyPost_ret (v := fV (unp X)) (by simp [results, Tryd.results44, go_sem, fV, *]) rfl ⟨rfl, (((((((Below.refl _ _).alloc (Nat.le_refl _) z5).trans (HB.out.mono (by omega))).setCell (p := ⟨w.heap.size, 0, none⟩) (Nat.le_refl _) _).setCell (p := ⟨w.heap.size, 1, none⟩) (Nat.le_refl _) _).setCell (p := ⟨w.heap.size, 2, none⟩) (Nat.le_refl _) _).setCell (p := ⟨w.heap.size, 3, none⟩) (Nat.le_refl _) _).setCell (p := ⟨w.heap.size, 4, none⟩) (Nat.le_refl _) _⟩
end Go.Proofs.YtlcmaokafklheaaDoor
