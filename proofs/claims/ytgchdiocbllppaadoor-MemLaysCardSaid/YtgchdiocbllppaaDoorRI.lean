/- Two areas compared with '==': they are the same. -/
import Derived.Test.YtgchdiocbllppaaDoorRH
import Derived.Laws.StructEq
namespace Go.Proofs.YtgchdiocbllppaaDoor
open Go.RowKit M

theorem guardT23 : Tryd.prog.eqGuardType Tryd.prog.depth 23 = false := by kernel_rfl
theorem stood23 : Tryd.prog.stoodInHeld 23 = false := by kernel_rfl
theorem und23 : Tryd.prog.underlying 23 = some (.struct (Tryd.prog.fieldsOf 23)) := by kernel_rfl
def fld (P : Program) (i : Nat) : Field := (P.fieldsOf 23).toList.getD i default
theorem fields23 : (Tryd.prog.fieldsOf 23).toList = [fld Tryd.prog 0, fld Tryd.prog 1] := by kernel_rfl
theorem name0 : (fld Tryd.prog 0).name = "Size" := by kernel_rfl
theorem name1 : (fld Tryd.prog 1).name = "Write" := by kernel_rfl
theorem type0 : (fld Tryd.prog 0).type = 3 := by kernel_rfl
theorem type1 : (fld Tryd.prog 1).type = 4 := by kernel_rfl
theorem off0 : (fld Tryd.prog 0).offset = 0 := by kernel_rfl
theorem off1 : (fld Tryd.prog 1).offset = 1 := by kernel_rfl
theorem eqg23 (x y : Operand) (u v : Array Value) (w : World) : (eqGuard .eql 23 x y (.agg u) (.agg v)).run Tryd.prog w = .ok () w :=
  run_eqGuard_agg w .eql 23 x y u v guardT23
theorem eql23 (n : Int) (b : Bool) (w : World) : (binOp .eql 23 (.agg #[.int .i64 n, .bool b]) (.agg #[.int .i64 n, .bool b])).run Tryd.prog w = .ok (.bool true) w := by
  have h : ∀ d : Nat, (Op.equalIn (d + 2) 23 (.agg #[.int .i64 n, .bool b]) (.agg #[.int .i64 n, .bool b])).run Tryd.prog w = .ok true w := fun d => by
    rw [show d + 2 = (d + 1) + 1 from rfl, run_equalIn_struct w (d + 1) 23 _ _ und23 stood23, fields23]
    have p3 : (part 3 #[.int .i64 n, .bool b] 0).run Tryd.prog w = .ok (.int .i64 n) w := by kernel_rfl
    have p4 : (part 4 #[.int .i64 n, .bool b] 1).run Tryd.prog w = .ok (.bool b) w := by kernel_rfl
    have e3 := run_equalIn_int w d 3 .i64 .i64 n n Tryd.underlying3
    have e4 := run_equalIn_bool' w d 4 b b Tryd.underlying4
    simp [Op.eqFields, name0, name1, type0, type1, off0, off1, p3, p4, e3, e4]
  rw [run_eql_struct, show (10000 : Nat) = 9998 + 2 from rfl, h 9998]
  rfl
end Go.Proofs.YtgchdiocbllppaaDoor
