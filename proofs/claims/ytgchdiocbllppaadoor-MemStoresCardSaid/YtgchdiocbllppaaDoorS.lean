/- What the rows' list of variables gives: the four errors lie in their variables; the world of the witness. -/
import Derived.Test.YtgchdiocbllppaaDoorB2
import Derived.Test.YtgchdiocbllppaaDoorRows
import Derived.ProofKit
import Derived.LaidMore
import Derived.Stop.LaidTwo
namespace Go.Proofs.YtgchdiocbllppaaDoor
open Go.RowKit M

theorem own : ownKnob Tryd.prog.godebug = none := by kernel_rfl
theorem gN3 : Tryd.prog.globalNamed "clevis/mem.errCount" = some 3 := by kernel_rfl
theorem gN0 : Tryd.prog.globalNamed "clevis/mem.errStray" = some 0 := by kernel_rfl
theorem gN1 : Tryd.prog.globalNamed "clevis/mem.errRange" = some 1 := by kernel_rfl
theorem gN2 : Tryd.prog.globalNamed "clevis/mem.errPerm" = some 2 := by kernel_rfl
theorem gT3 : (Tryd.prog.globals[3]?).map (·.type) = some 74 := by kernel_rfl
theorem gT0 : (Tryd.prog.globals[0]?).map (·.type) = some 74 := by kernel_rfl
theorem gT1 : (Tryd.prog.globals[1]?).map (·.type) = some 74 := by kernel_rfl
theorem gT2 : (Tryd.prog.globals[2]?).map (·.type) = some 74 := by kernel_rfl

/-- the list that all rows bear -/
def laid4 : List (String × DataW Unit) := [("clevis/mem.errCount", Rows.laid_clevis_mem_errCount), ("clevis/mem.errStray", Rows.laid_clevis_mem_errStray), ("clevis/mem.errRange", Rows.laid_clevis_mem_errRange), ("clevis/mem.errPerm", Rows.laid_clevis_mem_errPerm)]
theorem cells135 : Tryd.prog.cellsOf 135 = 1 := by kernel_rfl
theorem cells9 : Tryd.prog.cellsOf 9 = 1 := by kernel_rfl
theorem starName : "*" ++ "errors.errorString" = "*errors.errorString" := by decide
theorem row110 (u : TypeId) (h : Tryd.prog.typeName? 3 u = some "*errors.errorString") : u = 110 :=
  typeName_ptr_named (nm := "errors.errorString") (by rw [starName]; kernel_rfl) (by kernel_rfl) (by decide) u (by rw [starName]; exact h)
theorem cell_size {W : World} {b o : Nat} {v : Value} (h : W.cell? ⟨b, o, none⟩ = some v) : b < W.heap.size := by
  by_cases hb : b < W.heap.size
  · exact hb
  · simp [World.cell?, hb] at h
theorem block_size {W : World} {b : Nat} {o : Obj} (h : W.heap[b]? = some o) : b < W.heap.size := (Array.getElem?_eq_some_iff.1 h).1

/-- the four errors, at addresses of their own -/
def addr4 (a0 a1 a2 a3 : Addr) : Nat → Addr
  | 0 => a0
  | 1 => a1
  | 2 => a2
  | _ => a3
set_option maxRecDepth 100000 in
theorem sent_of_laid {W : World} (h0 : laidMetH Tryd.prog laid4 W) : ∃ s, Sent W s := by
  rw [MakeChecks.laidMetH_plain _ _ _ (by kernel_rfl)] at h0
  obtain ⟨ps, ⟨g3, t3, cs3, f3, p3, q3, hg3, ht3, hv3, hd3, ⟨g0, t0, cs0, f0, p0, q0, hg0, ht0, hv0, hd0, ⟨g1, t1, cs1, f1, p1, q1, hg1, ht1, hv1, hd1, ⟨g2, t2, cs2, f2, p2, q2, hg2, ht2, hv2, hd2, _, e2⟩, e1⟩, e0⟩, e3⟩, hnd, hrows⟩ := h0
  obtain rfl := Option.some.inj (gN3.symm.trans hg3)
  obtain rfl := Option.some.inj (gN0.symm.trans hg0)
  obtain rfl := Option.some.inj (gN1.symm.trans hg1)
  obtain rfl := Option.some.inj (gN2.symm.trans hg2)
  obtain rfl := Option.some.inj (gT3.symm.trans ht3)
  obtain rfl := Option.some.inj (gT0.symm.trans ht0)
  obtain rfl := Option.some.inj (gT1.symm.trans ht1)
  obtain rfl := Option.some.inj (gT2.symm.trans ht2)
  subst e2
  subst e1
  subst e0
  subst e3
  obtain ⟨l0⟩ := cs0
  obtain ⟨l1⟩ := cs1
  obtain ⟨l2⟩ := cs2
  obtain ⟨l3⟩ := cs3
  have ok0 : ∀ u v, l0 = [.iface u v] → Value.okWide Tryd.prog W .any 0 u v := fun u v e => by
    subst e
    exact (hrows 0 0 (by simp [MemPlace.row])).2 u v (by simpa using World.var?_cell hg0 hv0 0)
  have ok1 : ∀ u v, l1 = [.iface u v] → Value.okWide Tryd.prog W .any 0 u v := fun u v e => by
    subst e
    exact (hrows 1 0 (by simp [MemPlace.row])).2 u v (by simpa using World.var?_cell hg1 hv1 0)
  have ok2 : ∀ u v, l2 = [.iface u v] → Value.okWide Tryd.prog W .any 0 u v := fun u v e => by
    subst e
    exact (hrows 2 0 (by simp [MemPlace.row])).2 u v (by simpa using World.var?_cell hg2 hv2 0)
  have ok3 : ∀ u v, l3 = [.iface u v] → Value.okWide Tryd.prog W .any 0 u v := fun u v e => by
    subst e
    exact (hrows 3 0 (by simp [MemPlace.row])).2 u v (by simpa using World.var?_cell hg3 hv3 0)
  obtain ⟨a0, s0, rfl, _, _, _, rfl⟩ := errorString_of_trod Tryd.underlying74 row110 Tryd.underlying110 Tryd.underlying135 rfl rfl Tryd.underlying9 cells135 cells9 hd0 ok0
  obtain ⟨a1, s1, rfl, _, _, _, rfl⟩ := errorString_of_trod Tryd.underlying74 row110 Tryd.underlying110 Tryd.underlying135 rfl rfl Tryd.underlying9 cells135 cells9 hd1 ok1
  obtain ⟨a2, s2, rfl, _, _, _, rfl⟩ := errorString_of_trod Tryd.underlying74 row110 Tryd.underlying110 Tryd.underlying135 rfl rfl Tryd.underlying9 cells135 cells9 hd2 ok2
  obtain ⟨a3, s3, rfl, _, _, _, rfl⟩ := errorString_of_trod Tryd.underlying74 row110 Tryd.underlying110 Tryd.underlying135 rfl rfl Tryd.underlying9 cells135 cells9 hd3 ok3
  obtain ⟨c0, t0, hb0⟩ := (hrows a0.block a0.off (by simp [MemPlace.row])).1
  obtain ⟨c1, t1, hb1⟩ := (hrows a1.block a1.off (by simp [MemPlace.row])).1
  obtain ⟨c2, t2, hb2⟩ := (hrows a2.block a2.off (by simp [MemPlace.row])).1
  obtain ⟨c3, t3, hb3⟩ := (hrows a3.block a3.off (by simp [MemPlace.row])).1
  have k0 : W.cell? ⟨0, 0, none⟩ = some (.iface 110 (.pointer (some a0))) := by simpa using World.var?_cell hg0 hv0 0
  have k1 : W.cell? ⟨1, 0, none⟩ = some (.iface 110 (.pointer (some a1))) := by simpa using World.var?_cell hg1 hv1 0
  have k2 : W.cell? ⟨2, 0, none⟩ = some (.iface 110 (.pointer (some a2))) := by simpa using World.var?_cell hg2 hv2 0
  have k3 : W.cell? ⟨3, 0, none⟩ = some (.iface 110 (.pointer (some a3))) := by simpa using World.var?_cell hg3 hv3 0
  have d01 : a0 ≠ a1 := by rintro rfl; simp [MemPlace.row] at hnd
  have d02 : a0 ≠ a2 := by rintro rfl; simp [MemPlace.row] at hnd
  have d03 : a0 ≠ a3 := by rintro rfl; simp [MemPlace.row] at hnd
  have d12 : a1 ≠ a2 := by rintro rfl; simp [MemPlace.row] at hnd
  have d13 : a1 ≠ a3 := by rintro rfl; simp [MemPlace.row] at hnd
  have d23 : a2 ≠ a3 := by rintro rfl; simp [MemPlace.row] at hnd
  refine ⟨addr4 a0 a1 a2 a3, fun g hg => ?_, cell_size k3, fun g hg => ?_, fun g h hg hh hne => ?_⟩
  · match g, hg with
    | 0, _ => exact k0
    | 1, _ => exact k1
    | 2, _ => exact k2
    | 3, _ => exact k3
  · match g, hg with
    | 0, _ => exact ⟨block_size hb0, c0, t0, hb0⟩
    | 1, _ => exact ⟨block_size hb1, c1, t1, hb1⟩
    | 2, _ => exact ⟨block_size hb2, c2, t2, hb2⟩
    | 3, _ => exact ⟨block_size hb3, c3, t3, hb3⟩
  · match g, h, hg, hh, hne with
    | 0, 0, _, _, h => exact absurd rfl h
    | 0, 1, _, _, _ => exact d01
    | 0, 2, _, _, _ => exact d02
    | 0, 3, _, _, _ => exact d03
    | 1, 0, _, _, _ => exact d01.symm
    | 1, 1, _, _, h => exact absurd rfl h
    | 1, 2, _, _, _ => exact d12
    | 1, 3, _, _, _ => exact d13
    | 2, 0, _, _, _ => exact d02.symm
    | 2, 1, _, _, _ => exact d12.symm
    | 2, 2, _, _, h => exact absurd rfl h
    | 2, 3, _, _, _ => exact d23
    | 3, 0, _, _, _ => exact d03.symm
    | 3, 1, _, _, _ => exact d13.symm
    | 3, 2, _, _, _ => exact d23.symm
    | 3, 3, _, _, h => exact absurd rfl h
end Go.Proofs.YtgchdiocbllppaaDoor
