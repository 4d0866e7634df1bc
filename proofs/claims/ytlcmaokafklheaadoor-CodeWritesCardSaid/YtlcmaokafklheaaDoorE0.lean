/- Equality of fields and of instructions. -/
import Derived.Test.YtlcmaokafklheaaDoorC
import Derived.Laws.StructEq
namespace Go.Proofs.YtlcmaokafklheaaDoor
open Go.RowKit M Go

def iV (x : In) : Value := .agg #[.int .i64 x.op, .int .i64 x.dst, .int .i64 x.src, .int .i64 x.off, .int .i64 x.imm, .int .u64 x.wide]
theorem eq38 (x y : In) (w : World) : (binOp .eql 38 (iV x) (iV y)).run Tryd.prog w = .ok (.bool (eqB x y)) w := by
  unfold iV eqB
  simp [go_sem]
  repeat' split
  all_goals simp_all
theorem neq38 (x y : In) (w : World) : (binOp .neq 38 (iV x) (iV y)).run Tryd.prog w = .ok (.bool (!eqB x y)) w := by
  unfold iV eqB
  simp [go_sem]
  repeat' split
  all_goals simp_all
theorem eq56a (d : Nat) (x y : In) (w : World) : (Op.equalIn (d + 1 + 1) 56 (fV x) (fV y)).run Tryd.prog w = .ok (decide (x.op = y.op ∧ x.dst = y.dst ∧ x.src = y.src ∧ x.off = y.off ∧ x.imm = y.imm)) w := by
  unfold fV
  have hu : Tryd.prog.underlying 56 = some (.array 5 3) := Tryd.underlying56
  have hs : (sizeOf 3).run Tryd.prog w = .ok 1 w := by kernel_rfl
  have h3 := Tryd.underlying3
  have hi : ∀ a b : Int, (Op.equalIn (d + 1) 3 (.int .i64 a) (.int .i64 b)).run Tryd.prog w = .ok (a == b) w := fun a b => run_equalIn_int w d 3 .i64 .i64 a b h3
  generalize hD : d + 1 = D at *
  rw [Op.equalIn]
  simp only [Sem.run_bind, run_underlying hu, Result.andThen_ok, hs]
  rw [Std.Legacy.Range.forIn_eq_forIn_range']
  have hp : ∀ (v0 v1 v2 v3 v4 : Value) (k : Nat) v, #[v0, v1, v2, v3, v4][k]? = some v → (part 3 #[v0, v1, v2, v3, v4] (k * 1)).run Tryd.prog w = .ok v w := by
    intro v0 v1 v2 v3 v4 k v hk
    rw [Nat.mul_one]
    have ha : (isAgg 3).run Tryd.prog w = .ok false w := by kernel_rfl
    simp only [part, Sem.run_bind, ha, Result.andThen_ok, hk]
    rfl
  simp only [Std.Legacy.Range.size, Nat.sub_zero, Nat.div_one, List.range', List.forIn_cons, List.forIn_nil, Sem.run_bind, Nat.reduceAdd]
  have px0 : (part 3 #[.int .i64 x.op, .int .i64 x.dst, .int .i64 x.src, .int .i64 x.off, .int .i64 x.imm] (0 * 1)).run Tryd.prog w = .ok (.int .i64 x.op) w := hp _ _ _ _ _ 0 _ rfl
  have px1 : (part 3 #[.int .i64 x.op, .int .i64 x.dst, .int .i64 x.src, .int .i64 x.off, .int .i64 x.imm] (1 * 1)).run Tryd.prog w = .ok (.int .i64 x.dst) w := hp _ _ _ _ _ 1 _ rfl
  have px2 : (part 3 #[.int .i64 x.op, .int .i64 x.dst, .int .i64 x.src, .int .i64 x.off, .int .i64 x.imm] (2 * 1)).run Tryd.prog w = .ok (.int .i64 x.src) w := hp _ _ _ _ _ 2 _ rfl
  have px3 : (part 3 #[.int .i64 x.op, .int .i64 x.dst, .int .i64 x.src, .int .i64 x.off, .int .i64 x.imm] (3 * 1)).run Tryd.prog w = .ok (.int .i64 x.off) w := hp _ _ _ _ _ 3 _ rfl
  have px4 : (part 3 #[.int .i64 x.op, .int .i64 x.dst, .int .i64 x.src, .int .i64 x.off, .int .i64 x.imm] (4 * 1)).run Tryd.prog w = .ok (.int .i64 x.imm) w := hp _ _ _ _ _ 4 _ rfl
  have py0 : (part 3 #[.int .i64 y.op, .int .i64 y.dst, .int .i64 y.src, .int .i64 y.off, .int .i64 y.imm] (0 * 1)).run Tryd.prog w = .ok (.int .i64 y.op) w := hp _ _ _ _ _ 0 _ rfl
  have py1 : (part 3 #[.int .i64 y.op, .int .i64 y.dst, .int .i64 y.src, .int .i64 y.off, .int .i64 y.imm] (1 * 1)).run Tryd.prog w = .ok (.int .i64 y.dst) w := hp _ _ _ _ _ 1 _ rfl
  have py2 : (part 3 #[.int .i64 y.op, .int .i64 y.dst, .int .i64 y.src, .int .i64 y.off, .int .i64 y.imm] (2 * 1)).run Tryd.prog w = .ok (.int .i64 y.src) w := hp _ _ _ _ _ 2 _ rfl
  have py3 : (part 3 #[.int .i64 y.op, .int .i64 y.dst, .int .i64 y.src, .int .i64 y.off, .int .i64 y.imm] (3 * 1)).run Tryd.prog w = .ok (.int .i64 y.off) w := hp _ _ _ _ _ 3 _ rfl
  have py4 : (part 3 #[.int .i64 y.op, .int .i64 y.dst, .int .i64 y.src, .int .i64 y.off, .int .i64 y.imm] (4 * 1)).run Tryd.prog w = .ok (.int .i64 y.imm) w := hp _ _ _ _ _ 4 _ rfl
  clear hp hs hu h3
  simp only [px0, py0, hi, Result.andThen_ok]
  cases h0 : x.op == y.op
  case false =>
    have : ¬ x.op = y.op := by simpa using h0
    rw [decide_eq_false (fun h => this (by omega))]
    rfl
  have g0 : x.op = y.op := by simpa using h0
  simp only [Bool.not_true, Bool.false_eq_true, if_false, Sem.run_pure, Result.andThen_ok]
  simp only [Sem.run_bind, px1, py1, hi, Result.andThen_ok]
  cases h1 : x.dst == y.dst
  case false =>
    have : ¬ x.dst = y.dst := by simpa using h1
    rw [decide_eq_false (fun h => this (by omega))]
    rfl
  have g1 : x.dst = y.dst := by simpa using h1
  simp only [Bool.not_true, Bool.false_eq_true, if_false, Sem.run_pure, Result.andThen_ok]
  simp only [Sem.run_bind, px2, py2, hi, Result.andThen_ok]
  cases h2 : x.src == y.src
  case false =>
    have : ¬ x.src = y.src := by simpa using h2
    rw [decide_eq_false (fun h => this (by omega))]
    rfl
  have g2 : x.src = y.src := by simpa using h2
  simp only [Bool.not_true, Bool.false_eq_true, if_false, Sem.run_pure, Result.andThen_ok]
  simp only [Sem.run_bind, px3, py3, hi, Result.andThen_ok]
  cases h3 : x.off == y.off
  case false =>
    have : ¬ x.off = y.off := by simpa using h3
    rw [decide_eq_false (fun h => this (by omega))]
    rfl
  have g3 : x.off = y.off := by simpa using h3
  simp only [Bool.not_true, Bool.false_eq_true, if_false, Sem.run_pure, Result.andThen_ok]
  simp only [Sem.run_bind, px4, py4, hi, Result.andThen_ok]
  cases h4 : x.imm == y.imm
  case false =>
    have : ¬ x.imm = y.imm := by simpa using h4
    rw [decide_eq_false (fun h => this (by omega))]
    rfl
  have g4 : x.imm = y.imm := by simpa using h4
  simp only [Bool.not_true, Bool.false_eq_true, if_false, Sem.run_pure, Result.andThen_ok]
  rw [decide_eq_true ⟨g0, g1, g2, g3, g4⟩]
theorem eq56 (x y : In) (w : World) : (binOp .eql 56 (fV x) (fV y)).run Tryd.prog w = .ok (.bool (decide (x.op = y.op ∧ x.dst = y.dst ∧ x.src = y.src ∧ x.off = y.off ∧ x.imm = y.imm))) w := by
  unfold fV
  rw [run_eql_struct, show (10000 : Nat) = 9998 + 1 + 1 from rfl]
  have h := eq56a 9998 x y w
  unfold fV at h
  rw [h]
  rfl
end Go.Proofs.YtlcmaokafklheaaDoor
