/- What the rows' list of variables gives: the nine errors lie in their variables; the world of the witness. -/
import Derived.Test.YthckkdkijajadaaDoorML
import Derived.Test.YthckkdkijajadaaDoorRows
import Derived.ProofKit
import Derived.LaidMore
import Derived.Stop.LaidTwo
namespace Go.Proofs.YthckkdkijajadaaDoor
open Go.RowKit M

theorem own : ownKnob Tryd.prog.godebug = none := by kernel_rfl
theorem gN0 : Tryd.prog.globalNamed "clevis/mem.errCount" = some 5 := by kernel_rfl
theorem gN1 : Tryd.prog.globalNamed "clevis/mem.errStray" = some 8 := by kernel_rfl
theorem gN2 : Tryd.prog.globalNamed "clevis/mem.errRange" = some 6 := by kernel_rfl
theorem gN3 : Tryd.prog.globalNamed "clevis/mem.errPerm" = some 7 := by kernel_rfl
theorem gN4 : Tryd.prog.globalNamed "clevis/helper.errNone" = some 0 := by kernel_rfl
theorem gN5 : Tryd.prog.globalNamed "clevis/helper.errFew" = some 1 := by kernel_rfl
theorem gN6 : Tryd.prog.globalNamed "clevis/helper.errSize" = some 2 := by kernel_rfl
theorem gN7 : Tryd.prog.globalNamed "clevis/helper.errPlace" = some 3 := by kernel_rfl
theorem gN8 : Tryd.prog.globalNamed "clevis/helper.errStray" = some 4 := by kernel_rfl
theorem gT0 : (Tryd.prog.globals[5]?).map (·.type) = some 76 := by kernel_rfl
theorem gT1 : (Tryd.prog.globals[8]?).map (·.type) = some 76 := by kernel_rfl
theorem gT2 : (Tryd.prog.globals[6]?).map (·.type) = some 76 := by kernel_rfl
theorem gT3 : (Tryd.prog.globals[7]?).map (·.type) = some 76 := by kernel_rfl
theorem gT4 : (Tryd.prog.globals[0]?).map (·.type) = some 76 := by kernel_rfl
theorem gT5 : (Tryd.prog.globals[1]?).map (·.type) = some 76 := by kernel_rfl
theorem gT6 : (Tryd.prog.globals[2]?).map (·.type) = some 76 := by kernel_rfl
theorem gT7 : (Tryd.prog.globals[3]?).map (·.type) = some 76 := by kernel_rfl
theorem gT8 : (Tryd.prog.globals[4]?).map (·.type) = some 76 := by kernel_rfl
/-- the list that all rows bear -/
def laid9 : List (String × DataW Unit) := [("clevis/mem.errCount", Rows.laid_clevis_mem_errCount), ("clevis/mem.errStray", Rows.laid_clevis_mem_errStray), ("clevis/mem.errRange", Rows.laid_clevis_mem_errRange), ("clevis/mem.errPerm", Rows.laid_clevis_mem_errPerm), ("clevis/helper.errNone", Rows.laid_clevis_helper_errNone), ("clevis/helper.errFew", Rows.laid_clevis_helper_errFew), ("clevis/helper.errSize", Rows.laid_clevis_helper_errSize), ("clevis/helper.errPlace", Rows.laid_clevis_helper_errPlace), ("clevis/helper.errStray", Rows.laid_clevis_helper_errStray)]
theorem cells135 : Tryd.prog.cellsOf 171 = 1 := by kernel_rfl
theorem cells9 : Tryd.prog.cellsOf 9 = 1 := by kernel_rfl
theorem starName : "*" ++ "errors.errorString" = "*errors.errorString" := by decide
theorem row110 (u : TypeId) (h : Tryd.prog.typeName? 3 u = some "*errors.errorString") : u = 146 :=
  typeName_ptr_named (nm := "errors.errorString") (by rw [starName]; kernel_rfl) (by kernel_rfl) (by decide) u (by rw [starName]; exact h)
theorem cell_size {W : World} {b o : Nat} {v : Value} (h : W.cell? ⟨b, o, none⟩ = some v) : b < W.heap.size := by
  by_cases hb : b < W.heap.size
  · exact hb
  · simp [World.cell?, hb] at h
theorem block_size {W : World} {b : Nat} {o : Obj} (h : W.heap[b]? = some o) : b < W.heap.size := (Array.getElem?_eq_some_iff.1 h).1
/-- four and five addresses -/
def addr4 (a0 a1 a2 a3 : Addr) : Nat → Addr
  | 0 => a0
  | 1 => a1
  | 2 => a2
  | _ => a3
def addr5 (a0 a1 a2 a3 a4 : Addr) : Nat → Addr
  | 0 => a0
  | 1 => a1
  | 2 => a2
  | 3 => a3
  | _ => a4
set_option maxRecDepth 100000 in
set_option maxHeartbeats 4000000 in
theorem sent_of_laid {W : World} (h0 : laidMetH Tryd.prog laid9 W) : ∃ s s', HSent W s ∧ Sent W s' := by
  rw [MakeChecks.laidMetH_plain _ _ _ (by kernel_rfl)] at h0
  obtain ⟨ps, ⟨g0, t0, cs0, f0, p0, q0, hg0, ht0, hv0, hd0, ⟨g1, t1, cs1, f1, p1, q1, hg1, ht1, hv1, hd1, ⟨g2, t2, cs2, f2, p2, q2, hg2, ht2, hv2, hd2, ⟨g3, t3, cs3, f3, p3, q3, hg3, ht3, hv3, hd3, ⟨g4, t4, cs4, f4, p4, q4, hg4, ht4, hv4, hd4, ⟨g5, t5, cs5, f5, p5, q5, hg5, ht5, hv5, hd5, ⟨g6, t6, cs6, f6, p6, q6, hg6, ht6, hv6, hd6, ⟨g7, t7, cs7, f7, p7, q7, hg7, ht7, hv7, hd7, ⟨g8, t8, cs8, f8, p8, q8, hg8, ht8, hv8, hd8, _, e8⟩, e7⟩, e6⟩, e5⟩, e4⟩, e3⟩, e2⟩, e1⟩, e0⟩, hnd, hrows⟩ := h0
  obtain rfl := Option.some.inj (gN0.symm.trans hg0)
  obtain rfl := Option.some.inj (gN1.symm.trans hg1)
  obtain rfl := Option.some.inj (gN2.symm.trans hg2)
  obtain rfl := Option.some.inj (gN3.symm.trans hg3)
  obtain rfl := Option.some.inj (gN4.symm.trans hg4)
  obtain rfl := Option.some.inj (gN5.symm.trans hg5)
  obtain rfl := Option.some.inj (gN6.symm.trans hg6)
  obtain rfl := Option.some.inj (gN7.symm.trans hg7)
  obtain rfl := Option.some.inj (gN8.symm.trans hg8)
  obtain rfl := Option.some.inj (gT0.symm.trans ht0)
  obtain rfl := Option.some.inj (gT1.symm.trans ht1)
  obtain rfl := Option.some.inj (gT2.symm.trans ht2)
  obtain rfl := Option.some.inj (gT3.symm.trans ht3)
  obtain rfl := Option.some.inj (gT4.symm.trans ht4)
  obtain rfl := Option.some.inj (gT5.symm.trans ht5)
  obtain rfl := Option.some.inj (gT6.symm.trans ht6)
  obtain rfl := Option.some.inj (gT7.symm.trans ht7)
  obtain rfl := Option.some.inj (gT8.symm.trans ht8)
  subst e8
  subst e7
  subst e6
  subst e5
  subst e4
  subst e3
  subst e2
  subst e1
  subst e0
  obtain ⟨l0⟩ := cs0
  obtain ⟨l1⟩ := cs1
  obtain ⟨l2⟩ := cs2
  obtain ⟨l3⟩ := cs3
  obtain ⟨l4⟩ := cs4
  obtain ⟨l5⟩ := cs5
  obtain ⟨l6⟩ := cs6
  obtain ⟨l7⟩ := cs7
  obtain ⟨l8⟩ := cs8
  have ok0 : ∀ u v, l0 = [.iface u v] → Value.okWide Tryd.prog W .any 0 u v := fun u v e => by
    subst e
    exact (hrows 5 0 (by simp [MemPlace.row])).2 u v (by simpa using World.var?_cell hg0 hv0 0)
  have ok1 : ∀ u v, l1 = [.iface u v] → Value.okWide Tryd.prog W .any 0 u v := fun u v e => by
    subst e
    exact (hrows 8 0 (by simp [MemPlace.row])).2 u v (by simpa using World.var?_cell hg1 hv1 0)
  have ok2 : ∀ u v, l2 = [.iface u v] → Value.okWide Tryd.prog W .any 0 u v := fun u v e => by
    subst e
    exact (hrows 6 0 (by simp [MemPlace.row])).2 u v (by simpa using World.var?_cell hg2 hv2 0)
  have ok3 : ∀ u v, l3 = [.iface u v] → Value.okWide Tryd.prog W .any 0 u v := fun u v e => by
    subst e
    exact (hrows 7 0 (by simp [MemPlace.row])).2 u v (by simpa using World.var?_cell hg3 hv3 0)
  have ok4 : ∀ u v, l4 = [.iface u v] → Value.okWide Tryd.prog W .any 0 u v := fun u v e => by
    subst e
    exact (hrows 0 0 (by simp [MemPlace.row])).2 u v (by simpa using World.var?_cell hg4 hv4 0)
  have ok5 : ∀ u v, l5 = [.iface u v] → Value.okWide Tryd.prog W .any 0 u v := fun u v e => by
    subst e
    exact (hrows 1 0 (by simp [MemPlace.row])).2 u v (by simpa using World.var?_cell hg5 hv5 0)
  have ok6 : ∀ u v, l6 = [.iface u v] → Value.okWide Tryd.prog W .any 0 u v := fun u v e => by
    subst e
    exact (hrows 2 0 (by simp [MemPlace.row])).2 u v (by simpa using World.var?_cell hg6 hv6 0)
  have ok7 : ∀ u v, l7 = [.iface u v] → Value.okWide Tryd.prog W .any 0 u v := fun u v e => by
    subst e
    exact (hrows 3 0 (by simp [MemPlace.row])).2 u v (by simpa using World.var?_cell hg7 hv7 0)
  have ok8 : ∀ u v, l8 = [.iface u v] → Value.okWide Tryd.prog W .any 0 u v := fun u v e => by
    subst e
    exact (hrows 4 0 (by simp [MemPlace.row])).2 u v (by simpa using World.var?_cell hg8 hv8 0)
  obtain ⟨a0, s0, rfl, _, _, _, rfl⟩ := errorString_of_trod Tryd.underlying76 row110 Tryd.underlying146 Tryd.underlying171 rfl rfl Tryd.underlying9 cells135 cells9 hd0 ok0
  obtain ⟨a1, s1, rfl, _, _, _, rfl⟩ := errorString_of_trod Tryd.underlying76 row110 Tryd.underlying146 Tryd.underlying171 rfl rfl Tryd.underlying9 cells135 cells9 hd1 ok1
  obtain ⟨a2, s2, rfl, _, _, _, rfl⟩ := errorString_of_trod Tryd.underlying76 row110 Tryd.underlying146 Tryd.underlying171 rfl rfl Tryd.underlying9 cells135 cells9 hd2 ok2
  obtain ⟨a3, s3, rfl, _, _, _, rfl⟩ := errorString_of_trod Tryd.underlying76 row110 Tryd.underlying146 Tryd.underlying171 rfl rfl Tryd.underlying9 cells135 cells9 hd3 ok3
  obtain ⟨a4, s4, rfl, _, _, _, rfl⟩ := errorString_of_trod Tryd.underlying76 row110 Tryd.underlying146 Tryd.underlying171 rfl rfl Tryd.underlying9 cells135 cells9 hd4 ok4
  obtain ⟨a5, s5, rfl, _, _, _, rfl⟩ := errorString_of_trod Tryd.underlying76 row110 Tryd.underlying146 Tryd.underlying171 rfl rfl Tryd.underlying9 cells135 cells9 hd5 ok5
  obtain ⟨a6, s6, rfl, _, _, _, rfl⟩ := errorString_of_trod Tryd.underlying76 row110 Tryd.underlying146 Tryd.underlying171 rfl rfl Tryd.underlying9 cells135 cells9 hd6 ok6
  obtain ⟨a7, s7, rfl, _, _, _, rfl⟩ := errorString_of_trod Tryd.underlying76 row110 Tryd.underlying146 Tryd.underlying171 rfl rfl Tryd.underlying9 cells135 cells9 hd7 ok7
  obtain ⟨a8, s8, rfl, _, _, _, rfl⟩ := errorString_of_trod Tryd.underlying76 row110 Tryd.underlying146 Tryd.underlying171 rfl rfl Tryd.underlying9 cells135 cells9 hd8 ok8
  obtain ⟨c0, t0, hb0⟩ := (hrows a0.block a0.off (by simp [MemPlace.row])).1
  obtain ⟨c1, t1, hb1⟩ := (hrows a1.block a1.off (by simp [MemPlace.row])).1
  obtain ⟨c2, t2, hb2⟩ := (hrows a2.block a2.off (by simp [MemPlace.row])).1
  obtain ⟨c3, t3, hb3⟩ := (hrows a3.block a3.off (by simp [MemPlace.row])).1
  obtain ⟨c4, t4, hb4⟩ := (hrows a4.block a4.off (by simp [MemPlace.row])).1
  obtain ⟨c5, t5, hb5⟩ := (hrows a5.block a5.off (by simp [MemPlace.row])).1
  obtain ⟨c6, t6, hb6⟩ := (hrows a6.block a6.off (by simp [MemPlace.row])).1
  obtain ⟨c7, t7, hb7⟩ := (hrows a7.block a7.off (by simp [MemPlace.row])).1
  obtain ⟨c8, t8, hb8⟩ := (hrows a8.block a8.off (by simp [MemPlace.row])).1
  have k0 : W.cell? ⟨5, 0, none⟩ = some (.iface 146 (.pointer (some a0))) := by simpa using World.var?_cell hg0 hv0 0
  have k1 : W.cell? ⟨8, 0, none⟩ = some (.iface 146 (.pointer (some a1))) := by simpa using World.var?_cell hg1 hv1 0
  have k2 : W.cell? ⟨6, 0, none⟩ = some (.iface 146 (.pointer (some a2))) := by simpa using World.var?_cell hg2 hv2 0
  have k3 : W.cell? ⟨7, 0, none⟩ = some (.iface 146 (.pointer (some a3))) := by simpa using World.var?_cell hg3 hv3 0
  have k4 : W.cell? ⟨0, 0, none⟩ = some (.iface 146 (.pointer (some a4))) := by simpa using World.var?_cell hg4 hv4 0
  have k5 : W.cell? ⟨1, 0, none⟩ = some (.iface 146 (.pointer (some a5))) := by simpa using World.var?_cell hg5 hv5 0
  have k6 : W.cell? ⟨2, 0, none⟩ = some (.iface 146 (.pointer (some a6))) := by simpa using World.var?_cell hg6 hv6 0
  have k7 : W.cell? ⟨3, 0, none⟩ = some (.iface 146 (.pointer (some a7))) := by simpa using World.var?_cell hg7 hv7 0
  have k8 : W.cell? ⟨4, 0, none⟩ = some (.iface 146 (.pointer (some a8))) := by simpa using World.var?_cell hg8 hv8 0
  have d1_2 : a1 ≠ a2 := by rintro rfl; simp [MemPlace.row] at hnd
  have d1_3 : a1 ≠ a3 := by rintro rfl; simp [MemPlace.row] at hnd
  have d0_1 : a0 ≠ a1 := by rintro rfl; simp [MemPlace.row] at hnd
  have d2_3 : a2 ≠ a3 := by rintro rfl; simp [MemPlace.row] at hnd
  have d0_2 : a0 ≠ a2 := by rintro rfl; simp [MemPlace.row] at hnd
  have d0_3 : a0 ≠ a3 := by rintro rfl; simp [MemPlace.row] at hnd
  have d4_5 : a4 ≠ a5 := by rintro rfl; simp [MemPlace.row] at hnd
  have d4_6 : a4 ≠ a6 := by rintro rfl; simp [MemPlace.row] at hnd
  have d4_7 : a4 ≠ a7 := by rintro rfl; simp [MemPlace.row] at hnd
  have d4_8 : a4 ≠ a8 := by rintro rfl; simp [MemPlace.row] at hnd
  have d5_6 : a5 ≠ a6 := by rintro rfl; simp [MemPlace.row] at hnd
  have d5_7 : a5 ≠ a7 := by rintro rfl; simp [MemPlace.row] at hnd
  have d5_8 : a5 ≠ a8 := by rintro rfl; simp [MemPlace.row] at hnd
  have d6_7 : a6 ≠ a7 := by rintro rfl; simp [MemPlace.row] at hnd
  have d6_8 : a6 ≠ a8 := by rintro rfl; simp [MemPlace.row] at hnd
  have d7_8 : a7 ≠ a8 := by rintro rfl; simp [MemPlace.row] at hnd
  refine ⟨addr5 a4 a5 a6 a7 a8, addr4 a1 a2 a3 a0, ⟨fun g hg => ?_, fun g => ?_, fun g hg => ?_, fun g h hg hh hne => ?_⟩, ⟨fun g hg => ?_, fun g => ?_, fun g hg => ?_, fun g h hg hh hne => ?_⟩⟩
  · match g, hg with
    | 0, _ => exact k4
    | 1, _ => exact k5
    | 2, _ => exact k6
    | 3, _ => exact k7
    | 4, _ => exact k8
  · match g with
    | 0 => exact cell_size k4
    | 1 => exact cell_size k5
    | 2 => exact cell_size k6
    | 3 => exact cell_size k7
    | _ + 4 => exact cell_size k8
  · match g, hg with
    | 0, _ => exact ⟨block_size hb4, c4, t4, hb4⟩
    | 1, _ => exact ⟨block_size hb5, c5, t5, hb5⟩
    | 2, _ => exact ⟨block_size hb6, c6, t6, hb6⟩
    | 3, _ => exact ⟨block_size hb7, c7, t7, hb7⟩
    | 4, _ => exact ⟨block_size hb8, c8, t8, hb8⟩
  · match g, h, hg, hh, hne with
    | 0, 0, _, _, h => exact absurd rfl h
    | 0, 1, _, _, _ => exact d4_5
    | 0, 2, _, _, _ => exact d4_6
    | 0, 3, _, _, _ => exact d4_7
    | 0, 4, _, _, _ => exact d4_8
    | 1, 0, _, _, _ => exact d4_5.symm
    | 1, 1, _, _, h => exact absurd rfl h
    | 1, 2, _, _, _ => exact d5_6
    | 1, 3, _, _, _ => exact d5_7
    | 1, 4, _, _, _ => exact d5_8
    | 2, 0, _, _, _ => exact d4_6.symm
    | 2, 1, _, _, _ => exact d5_6.symm
    | 2, 2, _, _, h => exact absurd rfl h
    | 2, 3, _, _, _ => exact d6_7
    | 2, 4, _, _, _ => exact d6_8
    | 3, 0, _, _, _ => exact d4_7.symm
    | 3, 1, _, _, _ => exact d5_7.symm
    | 3, 2, _, _, _ => exact d6_7.symm
    | 3, 3, _, _, h => exact absurd rfl h
    | 3, 4, _, _, _ => exact d7_8
    | 4, 0, _, _, _ => exact d4_8.symm
    | 4, 1, _, _, _ => exact d5_8.symm
    | 4, 2, _, _, _ => exact d6_8.symm
    | 4, 3, _, _, _ => exact d7_8.symm
    | 4, 4, _, _, h => exact absurd rfl h
  · match g, hg with
    | 0, _ => exact k1
    | 1, _ => exact k2
    | 2, _ => exact k3
    | 3, _ => exact k0
  · match g with
    | 0 => exact cell_size k1
    | 1 => exact cell_size k2
    | 2 => exact cell_size k3
    | _ + 3 => exact cell_size k0
  · match g, hg with
    | 0, _ => exact ⟨block_size hb1, c1, t1, hb1⟩
    | 1, _ => exact ⟨block_size hb2, c2, t2, hb2⟩
    | 2, _ => exact ⟨block_size hb3, c3, t3, hb3⟩
    | 3, _ => exact ⟨block_size hb0, c0, t0, hb0⟩
  · match g, h, hg, hh, hne with
    | 0, 0, _, _, h => exact absurd rfl h
    | 0, 1, _, _, _ => exact d1_2
    | 0, 2, _, _, _ => exact d1_3
    | 0, 3, _, _, _ => exact d0_1.symm
    | 1, 0, _, _, _ => exact d1_2.symm
    | 1, 1, _, _, h => exact absurd rfl h
    | 1, 2, _, _, _ => exact d2_3
    | 1, 3, _, _, _ => exact d0_2.symm
    | 2, 0, _, _, _ => exact d1_3.symm
    | 2, 1, _, _, _ => exact d2_3.symm
    | 2, 2, _, _, h => exact absurd rfl h
    | 2, 3, _, _, _ => exact d0_3.symm
    | 3, 0, _, _, _ => exact d0_1
    | 3, 1, _, _, _ => exact d0_2
    | 3, 2, _, _, _ => exact d0_3
    | 3, 3, _, _, h => exact absurd rfl h
end Go.Proofs.YthckkdkijajadaaDoor
