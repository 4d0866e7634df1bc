/- Contracts of the document's own parts of Ins. -/
import Derived.Test.YtlpijnnlmgoihaaME
import Derived.Test.YtlpijnnlmgoihaaC
namespace Go.Proofs.Ytlpijnnlmgoihaa
open Go.RowKit M

theorem and_low (x : Int) (h0 : 0 ≤ x) (h1 : x < 18446744073709551616) : bits .and .u64 x 4294967295 = x % 4294967296 := by
  rw [u64_and x _ h0 h1 (by omega) (by omega)]
  rw [show (4294967295 : Int).toNat = 2 ^ 32 - 1 from rfl, Nat.and_two_pow_sub_one_eq_mod]
  omega
theorem rimm_no (n : Int) (w : World) (_h0 : -9223372036854775808 ≤ n) (_h1 : n ≤ 9223372036854775807) :
    Calls Try.prog 66 #[.int .i64 n, .bool false] w fun e w' => e = .returned (.int .u64 (n % 4294967296)) ∧ w = w' := by
  go_enter Try.func66, Try.ntmps66
  go_wp2
  go_ret
  refine ⟨ret_int ?_, rfl⟩
  rw [and_low _ (by simp only [IntKind.wrap_u64]; omega) (by simp only [IntKind.wrap_u64]; omega), IntKind.wrap_u64]
  omega
def boundsB (x : In) (d : Int) : Bool := inB x.dst 0 d && (inB x.src 0 10 && (inB x.off (-32768) 32767 && inB x.imm (-2147483648) 2147483647))
def zerosB (x : In) (s o i : Bool) : Bool := (s || (x.src == 0)) && ((o || (x.off == 0)) && ((i || (x.imm == 0)) && (x.wide == 0)))
def fieldsB (x : In) (d : Int) (s o i : Bool) : Bool := boundsB x d && zerosB x s o i
set_option maxRecDepth 100000 in
set_option maxHeartbeats 4000000 in
theorem fields_any (x : In) (d : Int) (s o i : Bool) (w : World) : Calls Try.prog 52 #[.agg #[.int .i64 x.op, .int .i64 x.dst, .int .i64 x.src, .int .i64 x.off, .int .i64 x.imm, .int .u64 x.wide], .int .i64 d, .bool s, .bool o, .bool i] w fun e w' => e = .returned (.bool (fieldsB x d s o i)) ∧ Below w.heap.size w w' := by
  unfold fieldsB
  cases hb : boundsB x d
  case false =>
    simp only [Bool.false_and]
    unfold boundsB at hb
    cases v1 : inB x.dst 0 d
    case false =>
      clear hb
      go_enter Try.func52, Try.ntmps52
      go_wp2_with (go_at_call 53; refine (rwithin_any _ _ _ _).mono ?_; rintro e w1 ⟨rfl, rfl⟩)
      go_ret
      exact ⟨rfl, b1⟩
    rw [v1] at hb
    cases v2 : inB x.src 0 10
    case false =>
      clear hb
      go_enter Try.func52, Try.ntmps52
      go_wp2_with (go_at_call 53; refine (rwithin_any _ _ _ _).mono ?_; rintro e w1 ⟨rfl, rfl⟩)
      go_ret
      exact ⟨rfl, b1⟩
    rw [v2] at hb
    cases v3 : inB x.off (-32768) 32767
    case false =>
      clear hb
      go_enter Try.func52, Try.ntmps52
      go_wp2_with (go_at_call 53; refine (rwithin_any _ _ _ _).mono ?_; rintro e w1 ⟨rfl, rfl⟩)
      go_ret
      exact ⟨rfl, b1⟩
    rw [v3] at hb
    have v4 : inB x.imm (-2147483648) 2147483647 = false := by simpa using hb
    clear hb
    go_enter Try.func52, Try.ntmps52
    go_wp2_with (go_at_call 53; refine (rwithin_any _ _ _ _).mono ?_; rintro e w1 ⟨rfl, rfl⟩)
    go_ret
    exact ⟨rfl, b1⟩
  simp only [Bool.true_and]
  unfold boundsB at hb
  simp only [Bool.and_eq_true] at hb
  obtain ⟨v1, v2, v3, v4⟩ := hb
  unfold zerosB
  cases z1 : x.src == 0
  all_goals
    cases z2 : x.off == 0
    all_goals
      cases z3 : x.imm == 0
      all_goals
        cases s
        all_goals
          cases o
          all_goals
            cases i
            all_goals
              simp only [Bool.false_and, Bool.true_and, Bool.or_true, Bool.or_false, Bool.and_false]
              go_enter Try.func52, Try.ntmps52
              go_wp2_with (go_at_call 53; refine (rwithin_any _ _ _ _).mono ?_; rintro e w1 ⟨rfl, rfl⟩)
              go_ret
              exact ⟨rfl, b1⟩
end Go.Proofs.Ytlpijnnlmgoihaa
