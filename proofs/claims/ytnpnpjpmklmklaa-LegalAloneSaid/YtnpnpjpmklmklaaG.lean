/- Contracts of mayWide, mayOne and Ins. -/
import Derived.Test.YtnpnpjpmklmklaaF
namespace Go.Proofs.Ytnpnpjpmklmklaa
open Go.RowKit M

def sg32 (x : Int) : Int := (x + 2147483648) % 4294967296 - 2147483648
def wideB (x : In) : Bool := !(x.dst == 10) && ((x.off == 0) && (if x.src = 0 then x.imm == sg32 x.wide else if x.src = 1 then inB x.imm 0 7 && (x.wide == x.imm) else false))
theorem sg_conv (x : Int) : IntKind.i32.wrap x = sg32 x := by
  unfold sg32; simp [IntKind.wrap, IntKind.bits, IntKind.signed]; omega
set_option maxRecDepth 100000 in
set_option maxHeartbeats 2000000 in
theorem wide_any (x : In) (hx : Bd x) (w : World) : Calls Try.prog 30 #[.agg #[.int .i64 x.op, .int .i64 x.dst, .int .i64 x.src, .int .i64 x.off, .int .i64 x.imm, .int .u64 x.wide]] w fun e w' => e = .returned (.bool (wideB x)) ∧ Below w.heap.size w w' := by
  unfold wideB
  obtain ⟨hw0, hw1⟩ := hx.wide
  obtain ⟨hi0, hi1⟩ := hx.imm
  clear hx
  cases k1 : x.dst == 10
  case true =>
    simp only [Bool.not_true, Bool.false_and]
    go_enter Try.func30, Try.ntmps30
    go_wp2
    go_ret
    exact ⟨rfl, b1⟩
  cases k2 : x.off == 0
  case false =>
    simp only [Bool.not_false, Bool.false_and, Bool.true_and]
    go_enter Try.func30, Try.ntmps30
    go_wp2_with (go_at_call 41; refine (n1 _ _ _).mono ?_; rintro e w1 ⟨rfl, rfl⟩)
    go_ret
    exact ⟨rfl, b2⟩
  simp only [Bool.not_false, Bool.true_and]
  obtain ⟨S, hS⟩ : ∃ S, x.src = S := ⟨_, rfl⟩
  rw [hS]
  clear hS
  by_cases h0 : S = 0
  · rw [if_pos h0]
    subst h0
    have hc := sg_conv x.wide
    go_enter Try.func30, Try.ntmps30
    go_wp2_with (go_at_call 41; refine (n1 _ _ _).mono ?_; rintro e w1 ⟨rfl, rfl⟩)
    go_ret
    exact ⟨ret_bool (by rw [show wrap64 (sg32 x.wide) = sg32 x.wide by unfold wrap64 sg32; omega]), b2⟩
  rw [if_neg h0]
  have g0 : (S == 0) = false := by simpa using h0
  by_cases h1 : S = 1
  · rw [if_pos h1]
    subst h1
    clear h0 g0
    cases v : inB x.imm 0 7
    case false =>
      simp only [Bool.false_and]
      go_enter Try.func30, Try.ntmps30
      go_wp2_with (first
        | (go_at_call 41; refine (n1 _ _ _).mono ?_; rintro e w1 ⟨rfl, rfl⟩)
        | (go_at_call 40; refine (within_any _ _ _ _).mono ?_; rintro e w1 ⟨rfl, rfl⟩))
      go_ret
      exact ⟨rfl, b2⟩
    case true =>
      simp only [Bool.true_and]
      have hb := inB_true.1 v
      obtain ⟨m0, m7⟩ := hb
      go_enter Try.func30, Try.ntmps30
      go_wp2_with (first
        | (go_at_call 41; refine (n1 _ _ _).mono ?_; rintro e w1 ⟨rfl, rfl⟩)
        | (go_at_call 40; refine (within_any _ _ _ _).mono ?_; rintro e w1 ⟨rfl, rfl⟩))
      go_ret
      exact ⟨ret_bool (by simp), b2⟩
  · rw [if_neg h1]
    have g1 : (S == 1) = false := by simpa using h1
    clear h0 h1
    go_enter Try.func30, Try.ntmps30
    go_wp2_with (go_at_call 41; refine (n1 _ _ _).mono ?_; rintro e w1 ⟨rfl, rfl⟩)
    go_ret
    exact ⟨rfl, b2⟩
end Go.Proofs.Ytnpnpjpmklmklaa
