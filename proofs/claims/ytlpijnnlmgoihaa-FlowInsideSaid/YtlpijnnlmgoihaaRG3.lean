/- Contract of the document's own wide. -/
import Derived.Test.YtlpijnnlmgoihaaRG
namespace Go.Proofs.Ytlpijnnlmgoihaa
open Go.RowKit M

def rwideB (x : In) : Bool := (inB x.dst 0 9 && ((x.off == 0) && inB x.imm (-2147483648) 2147483647)) && (if x.src = 1 then inB x.imm 0 7 && (x.wide == x.imm) else (x.src == 0) && (x.imm % 4294967296 == x.wide % 4294967296))
theorem belowN {w : World} {o : Obj} (n : Nat) : Below w.heap.size w ((w.alloc o).drewN n) := below_drewN b1 n
set_option maxRecDepth 100000 in
set_option maxHeartbeats 4000000 in
theorem rwide_any (x : In) (hx : Bd x) (w : World) : Calls Try.prog 54 #[.agg #[.int .i64 x.op, .int .i64 x.dst, .int .i64 x.src, .int .i64 x.off, .int .i64 x.imm, .int .u64 x.wide]] w fun e w' => e = .returned (.bool (rwideB x)) ∧ Below w.heap.size w w' := by
  unfold rwideB
  obtain ⟨hw0, hw1⟩ := hx.wide
  obtain ⟨hi0, hi1⟩ := hx.imm
  clear hx
  cases v1 : inB x.dst 0 9
  case false =>
    simp only [Bool.false_and]
    go_enter Try.func54, Try.ntmps54
    go_wp2_with (go_at_call 53; refine (rwithin_any _ _ _ _).mono ?_; rintro e w1 ⟨rfl, rfl⟩)
    go_ret
    exact ⟨rfl, b1⟩
  cases v2 : x.off == 0
  case false =>
    have v2' : (x.off != 0) = true := by simp at v2 ⊢; exact v2
    simp only [Bool.false_and, Bool.and_false]
    go_enter Try.func54, Try.ntmps54
    go_wp2_with (go_at_call 53; refine (rwithin_any _ _ _ _).mono ?_; rintro e w1 ⟨rfl, rfl⟩)
    go_ret
    exact ⟨rfl, b1⟩
  have v2' : (x.off != 0) = false := by simp at v2 ⊢; exact v2
  cases v3 : inB x.imm (-2147483648) 2147483647
  case false =>
    simp only [Bool.false_and, Bool.and_false]
    go_enter Try.func54, Try.ntmps54
    go_wp2_with (go_at_call 53; refine (rwithin_any _ _ _ _).mono ?_; rintro e w1 ⟨rfl, rfl⟩)
    go_ret
    exact ⟨rfl, b1⟩
  simp only [Bool.true_and]
  obtain ⟨S, hS⟩ : ∃ S, x.src = S := ⟨_, rfl⟩
  rw [hS]
  clear hS
  by_cases h1 : S = 1
  · rw [if_pos h1]
    subst h1
    cases v : inB x.imm 0 7
    case false =>
      simp only [Bool.false_and]
      go_enter Try.func54, Try.ntmps54
      go_wp2_with (go_at_call 53; refine (rwithin_any _ _ _ _).mono ?_; rintro e w1 ⟨rfl, rfl⟩)
      go_ret
      exact ⟨rfl, b1⟩
    case true =>
      simp only [Bool.true_and]
      obtain ⟨m0, m7⟩ := inB_true.1 v
      go_enter Try.func54, Try.ntmps54
      go_wp2_with (go_at_call 53; refine (rwithin_any _ _ _ _).mono ?_; rintro e w1 ⟨rfl, rfl⟩)
      go_ret
      exact ⟨ret_bool (by simp), b1⟩
  rw [if_neg h1]
  have g1 : (S == 1) = false := by simpa using h1
  have HI := Lib.hid (fun W => rimm_no x.imm W hi0 hi1)
  clear h1
  by_cases h0 : S = 0
  · subst h0
    clear g1
    simp only [BEq.rfl, Bool.true_and]
    go_enter Try.func54, Try.ntmps54
    go_wp2_with (go_at_call 53; refine (rwithin_any _ _ _ _).mono ?_; rintro e w1 ⟨rfl, rfl⟩)
    go_quiet ((go_at_call 66; exact Calls.quiet_of_same ((HI.out _).mono fun _ _ ⟨h1, h2⟩ => ⟨h1, h2.symm⟩)))
    go_wp2
    go_ret
    exact ⟨rfl, belowN _⟩
  · have g0 : (S == 0) = false := by simpa using h0
    clear h0
    rw [g0]
    simp only [Bool.false_and]
    go_enter Try.func54, Try.ntmps54
    go_wp2_with (go_at_call 53; refine (rwithin_any _ _ _ _).mono ?_; rintro e w1 ⟨rfl, rfl⟩)
    go_quiet ((go_at_call 66; exact Calls.quiet_of_same ((HI.out _).mono fun _ _ ⟨h1, h2⟩ => ⟨h1, h2.symm⟩)))
    go_wp2
    go_ret
    exact ⟨rfl, belowN _⟩
end Go.Proofs.Ytlpijnnlmgoihaa
