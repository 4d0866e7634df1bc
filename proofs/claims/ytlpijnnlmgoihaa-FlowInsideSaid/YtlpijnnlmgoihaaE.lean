/- Contracts of legal's own parts of Ins. -/
import Derived.Test.YtlpijnnlmgoihaaE0
namespace Go.Proofs.Ytlpijnnlmgoihaa
open Go.RowKit M

def fitsB (x : In) : Bool := inB x.dst 0 10 && (inB x.src 0 10 && (inB x.off (-32768) 32767 && inB x.imm (-2147483648) 2147483647))
set_option maxHeartbeats 1000000 in
theorem fits_any (x : In) (w : World) : Calls Try.prog 56 #[.agg #[.int .i64 x.op, .int .i64 x.dst, .int .i64 x.src, .int .i64 x.off, .int .i64 x.imm, .int .u64 x.wide]] w fun e w' => e = .returned (.bool (fitsB x)) ∧ Below w.heap.size w w' := by
  unfold fitsB
  cases v1 : inB x.dst 0 10
  case' true => cases v2 : inB x.src 0 10
  case' true.true => cases v3 : inB x.off (-32768) 32767
  all_goals
    simp only [Bool.false_and, Bool.true_and]
    go_enter Try.func56, Try.ntmps56
    go_wp2_with (go_at_call 67; refine (within_any _ _ _ _).mono ?_; rintro e w1 ⟨rfl, rfl⟩)
    go_ret
    exact ⟨rfl, b1⟩
def operB (x : In) : Bool := if rg x.op = true then x.imm == 0 else x.src == 0
set_option maxHeartbeats 1000000 in
theorem oper_any (x : In) (w : World) : Calls Try.prog 71 #[.agg #[.int .i64 x.op, .int .i64 x.dst, .int .i64 x.src, .int .i64 x.off, .int .i64 x.imm, .int .u64 x.wide]] w fun e w' => e = .returned (.bool (operB x)) ∧ Below w.heap.size w w' := by
  unfold operB
  have H1 := Lib.hid (fun W => byReg_any x.op W)
  generalize rg x.op = r at *
  cases r
  all_goals
    simp only [Bool.false_eq_true, if_false, if_true]
    go_enter Try.func71, Try.ntmps71
    go_wp2_with (first
      | (go_at_call 88; refine (H1.out _).mono ?_; rintro e w1 ⟨rfl, rfl⟩)
      | (go_at_call 68; refine (n1 _ _ _).mono ?_; rintro e w1 ⟨rfl, rfl⟩))
    go_ret
    exact ⟨rfl, b2⟩
def shiftB (n : Int) (wide : Bool) : Bool := if wide = true then inB n 0 63 else inB n 0 31
theorem shift_any (n : Int) (wide : Bool) (w : World) : Calls Try.prog 87 #[.int .i64 n, .bool wide] w fun e w' => e = .returned (.bool (shiftB n wide)) ∧ w = w' := by
  unfold shiftB
  cases wide
  all_goals
    go_enter Try.func87, Try.ntmps87
    go_wp2_with (go_at_call 67; refine (within_any _ _ _ _).mono ?_; rintro e w1 ⟨rfl, rfl⟩)
    go_ret
    exact ⟨rfl, rfl⟩
end Go.Proofs.Ytlpijnnlmgoihaa
