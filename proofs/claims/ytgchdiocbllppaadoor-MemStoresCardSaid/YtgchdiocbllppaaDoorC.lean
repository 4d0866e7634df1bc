/- Contracts of sizes: the regions' sizes, in order, in a new slice. -/
import Derived.Test.YtgchdiocbllppaaDoorB4
import Derived.Deep.OwnRows
namespace Go.Proofs.YtgchdiocbllppaaDoor
open Go.RowKit M

theorem info3 : (Tryd.prog.info? 3).map (fun i => (i.zero, i.size, i.bytes)) = some (some (.int .i64 0), 1, 8) := by kernel_rfl
theorem rowIs_below {B : Nat} {w w' : World} {b : Nat} {t : TypeId} {n : Nat} {f : Nat → Value} (h : w.rowIs b t n f) (hb : Below B w w') (hlt : b < B) : w'.rowIs b t n f := h.of_block (hb.block b hlt)
/-- the size of region i + 1 -/
def szOf (c : Int) (ms : List Ar) (i : Nat) : Int := (areaOf c true ms (i + 1)).size
theorem szOf_eq (c : Int) (wr : Bool) (ms : List Ar) (i : Nat) : (areaOf c wr ms (i + 1)).size = szOf c ms i := by
  unfold szOf areaOf; (repeat' split) <;> rfl
theorem hasReg_in {len i : Nat} (h : i < len + 2) : hasReg len ((i : Int) + 1) = true := by simp [hasReg]; omega
theorem area_sz {c : Int} {wr : Bool} {ms : List Ar} {i : Nat} (p : Option Addr) (len cap : Nat) (w : World) (hm : MapsAt w p len ms) (hi : i < len + 2) :
    Calls Tryd.prog 39 #[.agg #[.int .i64 c, .bool wr, .slice p len cap], (.int .i64 (1 + (i : Int)))] w fun e w' =>
      (∃ b, e = .returned (.agg #[.int .i64 (szOf c ms i), .bool b])) ∧ Below w.heap.size w w' := by
  rw [← szOf_eq c wr, Int.add_comm 1]
  exact (area_any c wr p len cap ms _ w hm (hasReg_in hi)).mono fun e w' ⟨h1, h2⟩ => ⟨⟨_, h1⟩, h2⟩

theorem field23 (n : Int) (b : Bool) (w : World) : (Instr.field 23 (.agg #[.int .i64 n, .bool b]) 0).run Tryd.prog w = .ok (.int .i64 n) w := by kernel_rfl
def szRow (c : Int) (ms : List Ar) (k : Nat) (j : Nat) : Value := .int .i64 (if j < k then szOf c ms j else 0)
theorem rowIs_made1 (w : World) (o : Obj) (z : Value) (n : Nat) (t : TypeId) : ((w.alloc o).alloc (.cells (madeCells #[z] n) t)).rowIs (w.heap.size + 1) t n (fun _ => z) := by
  have h := World.rowIs_made (w.alloc o) z n t
  rw [World.size_alloc] at h
  exact h
set_option maxRecDepth 100000 in
set_option maxHeartbeats 400000 in
theorem sizes_any (c : Int) (cw : Bool) (p : Option Addr) (len cap : Nat) (ms : List Ar) (w : World) (hm : MapsAt w p len ms) (hl : len ≤ 8) :
    Calls Tryd.prog 37 #[.agg #[.int .i64 c, .bool cw, .slice p len cap]] w fun e w' =>
      e = .returned (.slice (some ⟨w.heap.size + 1, 0, none⟩) (len + 2) (len + 2)) ∧ Below w.heap.size w w' ∧ w'.rowIs (w.heap.size + 1) 3 (len + 2) (fun j => .int .i64 (szOf c ms j)) := by
  have HM := Lib.hid hm
  have HMK := Lib.hid (fun (N : Nat) (hN : N ≤ 10) W => run_make_row' (P := Tryd.prog) 69 3 (.int .i64 0) 8 Tryd.underlying69 info3 rfl .i64 .i64 N (by omega) (by omega) W)
  have e1 : (2 + (len : Int)) = ((len + 2 : Nat) : Int) := by omega
  obtain ⟨N, hN⟩ : ∃ N, N = len + 2 := ⟨_, rfl⟩
  have hNl : N ≤ 10 := by omega
  have hNl2 : len + 2 ≤ N := by omega
  have hNl3 : N ≤ len + 2 := by omega
  have hmk := HMK.out N hNl
  rw [← hN]
  have ec : ((N : Nat) : Int) = 2 + (len : Int) := by omega
  rw [ec] at hmk
  have HN := Lib.hid hN
  have EC := Lib.hid ec
  clear hN ec e1 hm
  go_enter Tryd.func37, Tryd.ntmps37
  go_wp2
  go_loopw [12] (fun i wx => ∃ k : Nat, k ≤ N ∧ i = .int .i64 k ∧ Below (w.heap.size + 1) (w.alloc (.cells #[.int .i64 c, .bool cw, .slice p len cap] 26)) wx ∧ wx.rowIs (w.heap.size + 1) 3 N (szRow c ms k)) (fun i _ => N - (intOf i).toNat)
  case atStart =>
    exact ⟨0, Nat.zero_le _, rfl, (Below.refl _ _).alloc (by simp) _, (rowIs_made1 w _ _ _ _).congr (fun i hi => by simp [szRow])⟩
  case round =>
    obtain ⟨k, hk, rfl, hb, hrow⟩ := hrel
    have hbw : Below w.heap.size w wr := ((Below.refl _ _).alloc (Nat.le_refl _) _).trans (hb.mono (by omega))
    by_cases hlt : k < N
    · have c0 := hb.cell (p := ⟨w.heap.size, 0, none⟩) (by show w.heap.size < _; omega)
      have c1 := hb.cell (p := ⟨w.heap.size, 1, none⟩) (by show w.heap.size < _; omega)
      have c2 := hb.cell (p := ⟨w.heap.size, 2, none⟩) (by show w.heap.size < _; omega)
      have HB := Lib.hid hb
      have HR := Lib.hid hrow
      have hkl : k < len + 2 := by omega
      clear hb hrow hmk
      go_wp2_with fail
      refine (area_sz _ _ _ _ (HM.out.below hbw) hkl).mono ?_
      rintro e w2 ⟨⟨b, rfl⟩, hb2⟩
      have hrow2 := rowIs_below HR.out hb2 HR.out.lt
      have d1 := hrow2.cell hlt
      have d2 := hrow2.frozen k
      have HR2 := Lib.hid hrow2
      clear hrow2
      have hfl := field23
      go_wp2
      go_roundw
      case rel => 
        refine ⟨k + 1, by omega, by go_num, (HB.out.trans (hb2.mono (by have := HB.out.size; simp at this; omega))).setCell (p := ⟨w.heap.size + 1, k, none⟩) (Nat.le_refl _) _, (HR2.out.set k _).congr fun i hi => ?_⟩
        simp only [szRow]
        by_cases h1 : i = k
        · subst h1; simp
        · by_cases h2 : i < k
          · rw [if_neg h1, if_pos h2, if_pos (by omega)]
          · rw [if_neg h1, if_neg h2, if_neg (by omega)]
      case measure => simp [intOf]; omega
    · have hkN : N ≤ k := by omega
      have HB := Lib.hid hb
      have HR := Lib.hid hrow
      clear hb hrow hmk
      go_wp2
      go_ret
      exact ⟨rfl, hbw, HR.out.congr fun i hi => by simp only [szRow]; rw [if_pos (by omega)]⟩
end Go.Proofs.YtgchdiocbllppaaDoor
