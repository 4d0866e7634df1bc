/- Contracts of errors.As at a fault of package code and of number: an error is told as its number. -/
import Derived.Test.YtlcmaokafklheaaDoorAS
namespace Go.Proofs.YtlcmaokafklheaaDoor
open Go.RowKit Go.Extern.Stop Go.Stop Go.Extern
theorem set67 (ta b : Nat) (c n : Int) (o0 o1 : Value) (W : World) (hb0 : W.cell? ⟨b, 0, none⟩ = some (.int .i64 c)) (hb1 : W.cell? ⟨b, 1, none⟩ = some (.int .i64 n)) (ht0 : W.cell? ⟨ta, 0, none⟩ = some o0) (ht1 : W.cell? ⟨ta, 1, none⟩ = some o1) (hf0 : W.frozen? ⟨ta, 0, none⟩ = false) (hf1 : W.frozen? ⟨ta, 1, none⟩ = false) :
    (ReflectliteValue.set #[.agg #[.pointer (some ⟨6, 67, none⟩), .pointer (some ⟨ta, 0, none⟩), .int .u64 409], .agg #[.pointer (some ⟨6, 67, none⟩), .pointer (some ⟨b, 0, none⟩), .int .u64 153]]).run Tryd.prog W
      = .ok (.tuple #[]) ((W.setCell ⟨ta, 0, none⟩ (.int .i64 c)).setCell ⟨ta, 1, none⟩ (.int .i64 n)) := by
  have hl : (loadCells ⟨b, 0, none⟩ 2).run Tryd.prog W = .ok #[.int .i64 c, .int .i64 n] W :=
    run_loadCells_list W ⟨b, 0, none⟩ [.int .i64 c, .int .i64 n] (fun j v hj => by
      match j, hj with
      | 0, hj => simp at hj; subst hj; exact hb0
      | 1, hj => simp at hj; subst hj; exact hb1)
  delta ReflectliteValue.set ReflectliteValue.set.match_3
  dsimp [Array.getLit]
  simp only [Sem.run_bind, parts67a, parts67, Result.andThen]
  simp [ReflectliteValue.flagAddr, loadVar, Result.andThen, direct67, storeVar, hl, Value.cells, storeCells, Addr.add]
  rw [run_store Tryd.prog W _ _ _ (by rfl)]
  simp [ht0, hf0]
  rw [run_store Tryd.prog _ _ _ _ (by rfl)]
  have h1 : (W.setCell ⟨ta, 0, none⟩ (.int .i64 c)).cell? ⟨ta, 1, none⟩ = some o1 := (World.cell?_setCell_other W ⟨ta, 0, none⟩ ⟨ta, 1, none⟩ _ (by simp)).trans ht1
  simp [h1, hf1]
set_option maxHeartbeats 4000000 in
theorem as_hit (c n : Int) (t : Nat) (o0 o1 : Value) (w : World) (hg : w.cell? ⟨0, 0, none⟩ = some (.iface 113 (.agg #[.pointer (some ⟨6, 44, none⟩)]))) (ht0 : w.cell? ⟨t, 0, none⟩ = some o0) (ht1 : w.cell? ⟨t, 1, none⟩ = some o1) (hf0 : w.frozen? ⟨t, 0, none⟩ = false) (hf1 : w.frozen? ⟨t, 1, none⟩ = false) (htl : t < w.heap.size) :
    Calls Tryd.prog 33 #[.iface 67 (.agg #[.int .i64 c, .int .i64 n]), .iface 69 (.pointer (some ⟨t, 0, none⟩))] w fun ev w' => ev = .returned (.bool true) ∧ w'.cell? ⟨t, 0, none⟩ = some (.int .i64 c) ∧ Below t w w' := by
  have h6 := @run_callFunc_extern Tryd.prog 47 _ (fun args => ReflectliteValue.unpack (args.getD 0 (.tuple #[]))) Tryd.func47 (by kernel_rfl) (by kernel_rfl) (by kernel_rfl) (by kernel_rfl)
  have h7 := @run_callFunc_extern Tryd.prog 48 _ (ReflectliteValue.methodAny (ReflectliteValue.valueError "reflectlite.Value.Type" 0) (fun t _ _ _ => ReflectliteType.toType t)) Tryd.func48 (by kernel_rfl) (by kernel_rfl) (by kernel_rfl) (by kernel_rfl)
  have h8 := @run_callFunc_extern Tryd.prog 49 _ (ReflectliteValue.method (ReflectliteValue.valueError "reflectlite.Value.IsNil" 0) ReflectliteValue.isNil) Tryd.func49 (by kernel_rfl) (by kernel_rfl) (by kernel_rfl) (by kernel_rfl)
  have h27 := @run_callFunc_extern Tryd.prog 94 _ (ReflectliteType.abiMethod fun t => do pure (.int .u8 (← Rtype.kind t))) Tryd.func94 (by kernel_rfl) (by kernel_rfl) (by kernel_rfl) (by kernel_rfl)
  have h37 := @run_callFunc_extern Tryd.prog 105 _ (ReflectliteType.method ReflectliteType.elem) Tryd.func105 (by kernel_rfl) (by kernel_rfl) (by kernel_rfl) (by kernel_rfl)
  have h38 := @run_callFunc_extern Tryd.prog 106 _ (ReflectliteType.relation "Implements" ReflectliteType.implements_) Tryd.func106 (by kernel_rfl) (by kernel_rfl) (by kernel_rfl) (by kernel_rfl)
  have h10 := @run_callFunc_extern Tryd.prog 67 _ ReflectliteType.typeOf Tryd.func67 (by kernel_rfl) (by kernel_rfl) (by kernel_rfl) (by kernel_rfl)
  have h35 := @run_callFunc_extern Tryd.prog 103 _ (ReflectliteType.relation "AssignableTo" ReflectliteType.assignableTo) Tryd.func103 (by kernel_rfl) (by kernel_rfl) (by kernel_rfl) (by kernel_rfl)
  have h11 := @run_callFunc_extern Tryd.prog 68 _ (ReflectliteValue.method (ReflectliteValue.valueError "reflectlite.Value.Elem" 0) ReflectliteValue.elem) Tryd.func68 (by kernel_rfl) (by kernel_rfl) (by kernel_rfl) (by kernel_rfl)
  have h12 := @run_callFunc_extern Tryd.prog 69 _ ReflectliteValue.set Tryd.func69 (by kernel_rfl) (by kernel_rfl) (by kernel_rfl) (by kernel_rfl)
  have tO := typeOf67
  have mA := methodAssignableTo
  have a67 := assignable67
  have v67 := valueOf67
  have f6 := valueOf69
  have f7 := type69
  have mK := methodKind
  have mE := methodElem
  have mI := methodImplements
  have k69 := kind69
  have k67 := kind67
  have e69 := elem69
  have i67 := implements67
  have hlt : 0 < w.heap.size := by omega
  have n8 := isNil69 ⟨w.heap.size, 0, none⟩ ⟨t, 0, none⟩ ((w.alloc (.cells #[.pointer (some ⟨t, 0, none⟩)] 69)).alloc (.cells #[.pointer (some ⟨6, 69, none⟩), .pointer (some ⟨w.heap.size, 0, none⟩), .int .u64 150] 89)) (by simp)
  have hg2 : ((w.alloc (.cells #[.pointer (some ⟨t, 0, none⟩)] 69)).alloc (.cells #[.pointer (some ⟨6, 69, none⟩), .pointer (some ⟨w.heap.size, 0, none⟩), .int .u64 150] 89)).cell? ⟨0, 0, none⟩ = some (.iface 113 (.agg #[.pointer (some ⟨6, 44, none⟩)])) := by
    rw [World.cell?_alloc_lt _ _ ⟨0, 0, none⟩ (by simp), World.cell?_alloc_lt _ _ ⟨0, 0, none⟩ hlt]; exact hg
  have hal : ∀ i v, w.cell? ⟨t, i, none⟩ = some v → ∀ o1 o2 o3 o4, ((((w.alloc o1).alloc o2).alloc o3).alloc o4).cell? ⟨t, i, none⟩ = some v := fun i v h o1 o2 o3 o4 => by
    rw [World.cell?_alloc_lt _ _ ⟨t, i, none⟩ (by simp; omega), World.cell?_alloc_lt _ _ ⟨t, i, none⟩ (by simp; omega), World.cell?_alloc_lt _ _ ⟨t, i, none⟩ (by simp; omega), World.cell?_alloc_lt _ _ ⟨t, i, none⟩ htl]; exact h
  have hfr : ∀ i, w.frozen? ⟨t, i, none⟩ = false → ∀ o1 o2 o3 o4, ((((w.alloc o1).alloc o2).alloc o3).alloc o4).frozen? ⟨t, i, none⟩ = false := fun i h o1 o2 o3 o4 => by
    rw [World.frozen?_alloc_old _ _ ⟨t, i, none⟩ (by simp; omega), World.frozen?_alloc_old _ _ ⟨t, i, none⟩ (by simp; omega), World.frozen?_alloc_old _ _ ⟨t, i, none⟩ (by simp; omega), World.frozen?_alloc_old _ _ ⟨t, i, none⟩ (Nat.ne_of_lt htl)]; exact h
  have el := elemV69 ⟨w.heap.size, 0, none⟩ ⟨t, 0, none⟩ (((w.alloc (.cells #[.pointer (some ⟨t, 0, none⟩)] 69)).alloc (.cells #[.pointer (some ⟨6, 69, none⟩), .pointer (some ⟨w.heap.size, 0, none⟩), .int .u64 150] 89)).alloc (.cells #[.pointer (some ⟨6, 69, none⟩), .pointer (some ⟨w.heap.size, 0, none⟩), .int .u64 150] 89)) (by rw [World.cell?_alloc_lt _ _ ⟨w.heap.size, 0, none⟩ (by simp; omega)]; simp)
  have st := set67 t (w.heap.size + 1 + 1 + 1) c n o0 o1 ((((w.alloc (.cells #[.pointer (some ⟨t, 0, none⟩)] 69)).alloc (.cells #[.pointer (some ⟨6, 69, none⟩), .pointer (some ⟨w.heap.size, 0, none⟩), .int .u64 150] 89)).alloc (.cells #[.pointer (some ⟨6, 69, none⟩), .pointer (some ⟨w.heap.size, 0, none⟩), .int .u64 150] 89)).alloc (.cells #[.int .i64 c, .int .i64 n] 67))
    (by rw [World.cell?_alloc_at _ _ _ _ (by simp)]; rfl) (by rw [World.cell?_alloc_at _ _ _ _ (by simp)]; rfl)
    (hal 0 _ ht0 _ _ _ _) (hal 1 _ ht1 _ _ _ _) (hfr 0 hf0 _ _ _ _) (hfr 1 hf1 _ _ _ _)
  have HAL := Lib.hid hal
  clear hal hfr ht1 hf0 hf1
  have HT := Lib.hid ht0
  clear ht0
  go_enter Tryd.func33, Tryd.ntmps33
  go_wp2
  refine wp_loop_rounds 1 ?_
  rw [rounds_succ]
  go_wp2
  go_ret
  refine ⟨rfl, ?_, ?_⟩
  · rw [World.cell?_setCell_other _ _ _ _ (by simp)]
    exact World.cell?_setCell_same _ _ _ (HAL.out 0 _ HT.out _ _ _ _)
  · exact (((((((Below.refl t w).alloc (by omega) _).alloc (by simp; omega) _).alloc (by simp; omega) _).alloc (by simp; omega) _).setCell (p := ⟨t, 0, none⟩) (Nat.le_refl _) _).setCell (p := ⟨t, 1, none⟩) (Nat.le_refl _) _)
theorem number_nil (w : World) : Calls Tryd.prog 21 #[.nilIface] w fun e w' => e = .returned (.int .i64 0) ∧ Below w.heap.size w w' := by
  go_enter Tryd.func21, Tryd.ntmps21
  go_wp2_with (go_at_call 33; refine (as_nil _ _).mono ?_; rintro e w1 ⟨rfl, rfl⟩)
  go_ret
  exact ⟨rfl, (Below.refl _ _).alloc (Nat.le_refl _) _⟩
/-- errors.errorType is laid -/
def ErrT (w : World) : Prop := 0 < w.heap.size ∧ w.cell? ⟨0, 0, none⟩ = some (.iface 113 (.agg #[.pointer (some ⟨6, 44, none⟩)]))
theorem ErrT.below {w w' : World} (h : ErrT w) (hb : Below w.heap.size w w') : ErrT w' := ⟨Nat.lt_of_lt_of_le h.1 hb.size, (hb.cell (p := ⟨0, 0, none⟩) h.1).trans h.2⟩
theorem ErrT.alloc {w : World} (h : ErrT w) (o : Obj) : ErrT (w.alloc o) := h.below ((Below.refl _ _).alloc (Nat.le_refl _) o)
set_option maxHeartbeats 1000000 in
theorem number_is (c n : Int) (w : World) (hg : ErrT w) : Calls Tryd.prog 21 #[.iface 67 (.agg #[.int .i64 c, .int .i64 n])] w fun e w' => e = .returned (.int .i64 c) ∧ Below w.heap.size w w' := by
  have HG := Lib.hid (hg.alloc (.cells #[.int .i64 0, .int .i64 0] 67))
  clear hg
  go_enter Tryd.func21, Tryd.ntmps21
  go_wp2_with (go_at_call 33; refine (as_hit c n w.heap.size (.int .i64 0) (.int .i64 0) _ HG.out.2 (cell_new _ rfl) (cell_new _ rfl) (by simp) (by simp) (by simp)).mono ?_; rintro e w1 ⟨rfl, hc, hb⟩; have HB := Lib.hid hb; clear hb)
  go_ret
  exact ⟨rfl, ((Below.refl _ _).alloc (Nat.le_refl _) _).trans HB.out⟩
end Go.Proofs.YtlcmaokafklheaaDoor
