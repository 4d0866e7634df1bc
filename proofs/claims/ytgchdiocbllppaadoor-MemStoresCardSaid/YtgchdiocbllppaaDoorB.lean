/- Contracts of errors.Is, number and find: an access's faults, told as numbers. -/
import Derived.Test.YtgchdiocbllppaaDoorA2
import Derived.LaidEql
import Derived.Stop.Asserts
import Derived.RowKitTokens
namespace Go.Proofs.YtgchdiocbllppaaDoor
open Go.RowKit M Go.Extern.Stop Go.Stop Go.Extern

def comparableRow : Array Value → Sem Value := Extern.ReflectliteType.method fun t => do Go.Extern.Rtype.noPackHeld "Comparable" t; pure (.bool (← typeInfo t).comparable)
theorem isTypeOf (v : Value) (w : World) : (Extern.ReflectliteType.typeOf #[.iface 110 v]).run Tryd.prog w = .ok (.iface 100 (.agg #[.pointer (some ⟨4, 110, none⟩)])) w := by kernel_rfl
theorem isComparable (w : World) : (comparableRow #[.agg #[.pointer (some ⟨4, 110, none⟩)]]).run Tryd.prog w = .ok (.bool true) w := by kernel_rfl
theorem isMethodComparable (v : Value) (w : World) : (Go.method 247 100 v "Comparable").run Tryd.prog w = .ok (74, v) w := by kernel_rfl
theorem isComp : (Tryd.prog.info? 110).map (·.comparable) = some true := by kernel_rfl
theorem isSz : (Tryd.prog.info? 135).map (·.size) = some 1 := by kernel_rfl
theorem noIsE (v : Value) (xT : TypeId) (w : World) : (Instr.typeAssert (.iface 110 v) xT 102 true).run Tryd.prog w = .ok (.tuple #[.nilIface, .bool false]) w := run_typeAssert_lacksB Tryd.underlying102 (by kernel_rfl) (by kernel_rfl) v xT w
theorem noUnwrapE (v : Value) (xT : TypeId) (w : World) : (Instr.typeAssert (.iface 110 v) xT 105 true).run Tryd.prog w = .ok (.tuple #[.nilIface, .bool false]) w := run_typeAssert_lacksB Tryd.underlying105 (by kernel_rfl) (by kernel_rfl) v xT w
theorem noUnwrapsE (v : Value) (xT : TypeId) (w : World) : (Instr.typeAssert (.iface 110 v) xT 107 true).run Tryd.prog w = .ok (.tuple #[.nilIface, .bool false]) w := run_typeAssert_lacksB Tryd.underlying107 (by kernel_rfl) (by kernel_rfl) v xT w
theorem noIsW (v : Value) (xT : TypeId) (w : World) : (Instr.typeAssert (.iface 92 v) xT 102 true).run Tryd.prog w = .ok (.tuple #[.nilIface, .bool false]) w := run_typeAssert_lacksB Tryd.underlying102 (by kernel_rfl) (by kernel_rfl) v xT w
theorem hasUnwrapW (v : Value) (xT : TypeId) (w : World) : (Instr.typeAssert (.iface 92 v) xT 105 true).run Tryd.prog w = .ok (.tuple #[.iface 92 v, .bool true]) w := run_typeAssert_hasB Tryd.underlying105 (by kernel_rfl) v xT w
theorem methodUnwrap (v : Value) (w : World) : (Go.method 247 92 v "Unwrap").run Tryd.prog w = .ok (70, v) w := by kernel_rfl

set_option maxHeartbeats 400000 in
theorem unwrap_any (a n : Int) (y : Value) (w : World) (hy : ∃ t v, y = .iface t v) :
    Calls Tryd.prog 70 #[.agg #[.int .u64 a, .int .i64 n, y]] w fun e w' => e = .returned y ∧ Below w.heap.size w w' := by
  obtain ⟨t, v, rfl⟩ := hy
  go_enter Tryd.func70, Tryd.ntmps70
  go_wp2
  go_ret
  exact ⟨rfl, (Below.refl _ _).alloc (Nat.le_refl _) _⟩

set_option maxRecDepth 100000 in
set_option maxHeartbeats 1000000 in
theorem is53_same (a n : Int) (b : Addr) (w : World) :
    Calls Tryd.prog 53 #[.iface 92 (.agg #[.int .u64 a, .int .i64 n, .iface 110 (.pointer (some b))]), .iface 110 (.pointer (some b)), .bool true] w fun e w' => e = .returned (.bool true) ∧ Below w.heap.size w w' := by
  obtain ⟨i, hi, hcmp⟩ := Option.map_eq_some_iff.1 isComp
  obtain ⟨j, hj, hjs⟩ := Option.map_eq_some_iff.1 isSz
  have nE := noIsE
  have uE := noUnwrapE
  have vE := noUnwrapsE
  have nW := noIsW
  have uW := hasUnwrapW
  have mU := methodUnwrap
  have hty := fun w' => run_eql_iface_types (P := Tryd.prog) 92 110 (.agg #[.int .u64 a, .int .i64 n, .iface 110 (.pointer (some b))]) (.pointer (some b)) Tryd.underlying74 (by decide) w'
  have heq := fun w' => run_eql_iface_ptr_same (P := Tryd.prog) w' b Tryd.underlying74 Tryd.underlying110 hi hcmp hj
  clear hi hcmp hj hjs
  go_enter Tryd.func53, Tryd.ntmps53
  go_wp2
  refine wp_loop_rounds 2 ?_
  rw [rounds_succ]
  go_wp2_with (go_at_call 70; refine (unwrap_any _ _ _ _ ⟨_, _, rfl⟩).mono ?_; rintro e w1 ⟨rfl, hb⟩)
  rw [rounds_succ]
  go_wp2
  go_ret
  exact ⟨rfl, hb⟩
set_option maxRecDepth 100000 in
set_option maxHeartbeats 1000000 in
theorem is53_other (a n : Int) (b c : Addr) (cc cb : Array Value) (tc tb : TypeId) (w : World) (hne : c ≠ b) (hc : w.heap[c.block]? = some (.cells cc tc (0, 0))) (hb : w.heap[b.block]? = some (.cells cb tb (0, 0))) (hcl : c.block < w.heap.size) (hbl : b.block < w.heap.size) :
    Calls Tryd.prog 53 #[.iface 92 (.agg #[.int .u64 a, .int .i64 n, .iface 110 (.pointer (some c))]), .iface 110 (.pointer (some b)), .bool true] w fun e w' => e = .returned (.bool false) ∧ Below w.heap.size w w' := by
  obtain ⟨i, hi, hcmp⟩ := Option.map_eq_some_iff.1 isComp
  obtain ⟨j, hj, hjs⟩ := Option.map_eq_some_iff.1 isSz
  have nE := noIsE
  have uE := noUnwrapE
  have vE := noUnwrapsE
  have nW := noIsW
  have uW := hasUnwrapW
  have mU := methodUnwrap
  have hty := fun w' => run_eql_iface_types (P := Tryd.prog) 92 110 (.agg #[.int .u64 a, .int .i64 n, .iface 110 (.pointer (some c))]) (.pointer (some b)) Tryd.underlying74 (by decide) w'
  have heq := fun w' (hc : w'.heap[c.block]? = some (.cells cc tc (0, 0))) (hb : w'.heap[b.block]? = some (.cells cb tb (0, 0))) => run_eql_iface_ptr_other (P := Tryd.prog) w' Tryd.underlying74 Tryd.underlying110 hi hcmp hj (by rw [hjs]; decide) hne hc hb
  have HE := Lib.hid heq
  clear heq
  clear hi hcmp hj hjs
  go_enter Tryd.func53, Tryd.ntmps53
  go_wp2
  refine wp_loop_rounds 2 ?_
  rw [rounds_succ]
  go_wp2_with (go_at_call 70; refine (unwrap_any _ _ _ _ ⟨_, _, rfl⟩).mono ?_; rintro e w1 ⟨rfl, hb'⟩; have heq := HE.out w1 ((hb'.block _ hcl).trans hc) ((hb'.block _ hbl).trans hb))
  rw [rounds_succ]
  go_wp2
  go_ret
  exact ⟨rfl, hb'⟩

/-- errors.Is(nil, x). -/
theorem is_nil (b : Addr) (w : World) :
    Calls Tryd.prog 51 #[.nilIface, .iface 110 (.pointer (some b))] w fun e w' => e = .returned (.bool false) ∧ w = w' := by
  have hn := run_eql_iface_nil_left (P := Tryd.prog) w 110 (.pointer (some b)) Tryd.underlying74
  go_enter Tryd.func51, Tryd.ntmps51
  go_wp2
  go_ret
  exact ⟨rfl, rfl⟩

set_option maxRecDepth 100000 in
set_option maxHeartbeats 1000000 in
theorem is_fault (v : Bool) (a n : Int) (b c : Addr) (w : World) (h : Hid (Calls Tryd.prog 53 #[.iface 92 (.agg #[.int .u64 a, .int .i64 n, .iface 110 (.pointer (some c))]), .iface 110 (.pointer (some b)), .bool true] w fun e w' => e = .returned (.bool v) ∧ Below w.heap.size w w')) :
    Calls Tryd.prog 51 #[.iface 92 (.agg #[.int .u64 a, .int .i64 n, .iface 110 (.pointer (some c))]), .iface 110 (.pointer (some b))] w fun e w' => e = .returned (.bool v) ∧ Below w.heap.size w w' := by
  have h8 := @run_callFunc_extern Tryd.prog 52 _ Extern.ReflectliteType.typeOf Tryd.func52 (by kernel_rfl) (by kernel_rfl) (by kernel_rfl) (by kernel_rfl)
  have h32 := @run_callFunc_extern Tryd.prog 74 _ comparableRow Tryd.func74 (by kernel_rfl) (by kernel_rfl) (by kernel_rfl) (by kernel_rfl)
  have tT := isTypeOf
  have cT := isComparable
  have mR := isMethodComparable
  go_enter Tryd.func51, Tryd.ntmps51
  go_wp2_with (go_at_call 53; refine h.out.mono ?_; rintro e w1 ⟨rfl, hb⟩)
  go_ret
  exact ⟨rfl, hb⟩
end Go.Proofs.YtgchdiocbllppaaDoor
