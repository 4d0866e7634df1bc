/- Contracts of mayAlu, mayAccess, mayWide. -/
import Derived.Test.YtnpnpjpmklmklaaE
namespace Go.Proofs.Ytnpnpjpmklmklaa
open Go.RowKit M

def shop (o : Int) : Bool := decide (o = 96 ∨ o = 112 ∨ o = 192)
def mayAluB (x : In) (o : Int) (wide : Bool) : Bool := !(x.dst == 10) && ((x.off == 0) && (operB x && (if o = 128 then x.imm == 0 else if o = 96 ∨ o = 112 ∨ o = 192 then shiftB x.imm wide else true)))
theorem b3 {w : World} {o1 o2 o3 : Obj} : Below w.heap.size w (((w.alloc o1).alloc o2).alloc o3) := b2.alloc (by simp; omega) _
set_option maxRecDepth 100000 in
set_option maxHeartbeats 2000000 in
theorem mayAlu_any (x : In) (o : Int) (wide : Bool) (w : World) : Calls Try.prog 42 #[.agg #[.int .i64 x.op, .int .i64 x.dst, .int .i64 x.src, .int .i64 x.off, .int .i64 x.imm, .int .u64 x.wide], .int .i64 o, .bool wide] w fun e w' => e = .returned (.bool (mayAluB x o wide)) ∧ Below w.heap.size w w' := by
  unfold mayAluB
  cases k1 : x.dst == 10
  case true =>
    simp only [Bool.not_true, Bool.false_and]
    go_enter Try.func42, Try.ntmps42
    go_wp2
    go_ret
    exact ⟨rfl, b1⟩
  cases k2 : x.off == 0
  case false =>
    simp only [Bool.not_false, Bool.false_and, Bool.true_and]
    go_enter Try.func42, Try.ntmps42
    go_wp2_with (go_at_call 41; refine (n1 _ _ _).mono ?_; rintro e w1 ⟨rfl, rfl⟩)
    go_ret
    exact ⟨rfl, b2⟩
  have HO := Lib.hid (fun W => oper_any x W)
  generalize operB x = v at *
  cases v
  case false =>
    simp only [Bool.not_false, Bool.false_and, Bool.true_and]
    go_enter Try.func42, Try.ntmps42
    go_wp2_with (first
      | (go_at_call 41; refine (n1 _ _ _).mono ?_; rintro e w1 ⟨rfl, rfl⟩)
      | (go_at_call 43; refine (HO.out _).mono ?_; rintro e w2 ⟨rfl, hb2⟩; have B2 := Lib.hid (below2 hb2); clear hb2))
    go_ret
    exact ⟨rfl, B2.out⟩
  by_cases h1 : o = 128
  · subst h1
    simp only [Bool.not_false, Bool.true_and, if_true]
    go_enter Try.func42, Try.ntmps42
    have tok : True := trivial
    go_wp2_with (first
      | (go_at_call 41; have _t := tok; refine (n1 _ _ _).mono ?_; rintro e w1 ⟨rfl, rfl⟩; clear tok)
      | (go_at_call 43; refine (HO.out _).mono ?_; rintro e w2 ⟨rfl, hb2⟩; have B2 := Lib.hid (below2 hb2); obtain ⟨hc, hf⟩ := bcell hb2; clear hb2)
      | (go_at_call 41; refine (nought1 _ _).mono ?_; rintro e w1 ⟨rfl, rfl⟩))
    go_ret
    exact ⟨rfl, B2.out.alloc B2.out.size _⟩
  rw [if_neg h1]
  by_cases h2 : o = 96 ∨ o = 112 ∨ o = 192
  · rw [if_pos h2]
    simp only [Bool.not_false, Bool.true_and]
    clear h1
    rcases h2 with rfl | rfl | rfl
    all_goals
      go_enter Try.func42, Try.ntmps42
      go_wp2_with (first
        | (go_at_call 41; refine (n1 _ _ _).mono ?_; rintro e w1 ⟨rfl, rfl⟩)
        | (go_at_call 43; refine (HO.out _).mono ?_; rintro e w2 ⟨rfl, hb2⟩; have B2 := Lib.hid (below2 hb2); obtain ⟨hc, hf⟩ := bcell hb2; clear hb2)
        | (go_at_call 46; refine (shift_any _ _ _).mono ?_; rintro e w3 ⟨rfl, rfl⟩))
      go_ret
      exact ⟨rfl, B2.out⟩
  · rw [if_neg h2]
    simp only [Bool.not_false, Bool.true_and]
    have g1 : (o == 128) = false := by simpa using h1
    have g2 : (o == 96) = false := by simp; omega
    have g3 : (o == 112) = false := by simp; omega
    have g4 : (o == 192) = false := by simp; omega
    clear h1 h2
    go_enter Try.func42, Try.ntmps42
    go_wp2_with (first
      | (go_at_call 41; refine (n1 _ _ _).mono ?_; rintro e w1 ⟨rfl, rfl⟩)
      | (go_at_call 43; refine (HO.out _).mono ?_; rintro e w2 ⟨rfl, hb2⟩; have B2 := Lib.hid (below2 hb2); clear hb2))
    go_ret
    exact ⟨rfl, B2.out⟩
def accB (x : In) : Bool := if x.op % 8 = 1 then !(x.dst == 10) && (x.imm == 0) else if x.op % 8 = 3 then x.imm == 0 else x.src == 0
set_option maxHeartbeats 2000000 in
theorem access_any (x : In) (w : World) : Calls Try.prog 44 #[.agg #[.int .i64 x.op, .int .i64 x.dst, .int .i64 x.src, .int .i64 x.off, .int .i64 x.imm, .int .u64 x.wide]] w fun e w' => e = .returned (.bool (accB x)) ∧ Below w.heap.size w w' := by
  unfold accB
  have HC := Lib.hid (fun W => class_any x.op W)
  generalize x.op % 8 = c at *
  by_cases h1 : c = 1
  · subst h1
    simp only [if_true]
    cases k1 : x.dst == 10
    all_goals
      simp only [Bool.not_false, Bool.not_true, Bool.false_and, Bool.true_and]
      go_enter Try.func44, Try.ntmps44
      go_wp2_with (first
        | (go_at_call 23; refine (HC.out _).mono ?_; rintro e w1 ⟨rfl, rfl⟩)
        | (go_at_call 41; refine (n1 _ _ _).mono ?_; rintro e w1 ⟨rfl, rfl⟩))
      go_ret
      first | exact ⟨rfl, b2⟩ | exact ⟨rfl, b1⟩
  · rw [if_neg h1]
    have g1 : (c == 1) = false := by simpa using h1
    by_cases h2 : c = 3
    · subst h2
      simp only [if_true]
      clear g1 h1
      go_enter Try.func44, Try.ntmps44
      go_wp2_with (first
        | (go_at_call 23; refine (HC.out _).mono ?_; rintro e w1 ⟨rfl, rfl⟩)
        | (go_at_call 41; refine (n1 _ _ _).mono ?_; rintro e w1 ⟨rfl, rfl⟩))
      go_ret
      exact ⟨rfl, b2⟩
    · rw [if_neg h2]
      have g2 : (c == 3) = false := by simpa using h2
      clear h1 h2
      go_enter Try.func44, Try.ntmps44
      go_wp2_with (first
        | (go_at_call 23; refine (HC.out _).mono ?_; rintro e w1 ⟨rfl, rfl⟩)
        | (go_at_call 41; refine (n1 _ _ _).mono ?_; rintro e w1 ⟨rfl, rfl⟩))
      go_ret
      exact ⟨rfl, b2⟩
end Go.Proofs.Ytnpnpjpmklmklaa
