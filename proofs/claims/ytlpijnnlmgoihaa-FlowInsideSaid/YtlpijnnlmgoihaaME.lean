/- Contracts of mayAlu, mayAccess, mayWide. -/
import Derived.Test.YtlpijnnlmgoihaaE
import Derived.Test.YtlpijnnlmgoihaaC

/- Contracts of mayAlu, mayAccess, mayWide. -/
namespace Go.Proofs.Ytlpijnnlmgoihaa
open Go.RowKit M

def shop (o : Int) : Bool := decide (o = 96 ∨ o = 112 ∨ o = 192)
def mayAluB (x : In) (o : Int) (wide : Bool) : Bool := !(x.dst == 10) && ((x.off == 0) && (operB x && (if o = 128 then x.imm == 0 else if o = 96 ∨ o = 112 ∨ o = 192 then shiftB x.imm wide else true)))
theorem b3 {w : World} {o1 o2 o3 : Obj} : Below w.heap.size w (((w.alloc o1).alloc o2).alloc o3) := b2.alloc (by simp; omega) _
set_option maxRecDepth 100000 in
set_option maxHeartbeats 2000000 in
theorem mayAlu_any (x : In) (o : Int) (wide : Bool) (w : World) : Calls Try.prog 70 #[.agg #[.int .i64 x.op, .int .i64 x.dst, .int .i64 x.src, .int .i64 x.off, .int .i64 x.imm, .int .u64 x.wide], .int .i64 o, .bool wide] w fun e w' => e = .returned (.bool (mayAluB x o wide)) ∧ Below w.heap.size w w' := by
  unfold mayAluB
  cases k1 : x.dst == 10
  case true =>
    simp only [Bool.not_true, Bool.false_and]
    go_enter Try.func70, Try.ntmps70
    go_wp2
    go_ret
    exact ⟨rfl, b1⟩
  cases k2 : x.off == 0
  case false =>
    simp only [Bool.not_false, Bool.false_and, Bool.true_and]
    go_enter Try.func70, Try.ntmps70
    go_wp2_with (go_at_call 68; refine (n1 _ _ _).mono ?_; rintro e w1 ⟨rfl, rfl⟩)
    go_ret
    exact ⟨rfl, b2⟩
  have HO := Lib.hid (fun W => oper_any x W)
  generalize operB x = v at *
  cases v
  case false =>
    simp only [Bool.not_false, Bool.false_and, Bool.true_and]
    go_enter Try.func70, Try.ntmps70
    go_wp2_with (first
      | (go_at_call 68; refine (n1 _ _ _).mono ?_; rintro e w1 ⟨rfl, rfl⟩)
      | (go_at_call 71; refine (HO.out _).mono ?_; rintro e w2 ⟨rfl, hb2⟩; have B2 := Lib.hid (below2 hb2); clear hb2))
    go_ret
    exact ⟨rfl, B2.out⟩
  by_cases h1 : o = 128
  · subst h1
    simp only [Bool.not_false, Bool.true_and, if_true]
    go_enter Try.func70, Try.ntmps70
    have tok : True := trivial
    go_wp2_with (first
      | (go_at_call 68; have _t := tok; refine (n1 _ _ _).mono ?_; rintro e w1 ⟨rfl, rfl⟩; clear tok)
      | (go_at_call 71; refine (HO.out _).mono ?_; rintro e w2 ⟨rfl, hb2⟩; have B2 := Lib.hid (below2 hb2); obtain ⟨hc, hf⟩ := bcell hb2; clear hb2)
      | (go_at_call 68; refine (nought1 _ _).mono ?_; rintro e w1 ⟨rfl, rfl⟩))
    go_ret
    exact ⟨rfl, B2.out.alloc B2.out.size _⟩
  rw [if_neg h1]
  by_cases h2 : o = 96 ∨ o = 112 ∨ o = 192
  · rw [if_pos h2]
    simp only [Bool.not_false, Bool.true_and]
    clear h1
    rcases h2 with rfl | rfl | rfl
    all_goals
      go_enter Try.func70, Try.ntmps70
      go_wp2_with (first
        | (go_at_call 68; refine (n1 _ _ _).mono ?_; rintro e w1 ⟨rfl, rfl⟩)
        | (go_at_call 71; refine (HO.out _).mono ?_; rintro e w2 ⟨rfl, hb2⟩; have B2 := Lib.hid (below2 hb2); obtain ⟨hc, hf⟩ := bcell hb2; clear hb2)
        | (go_at_call 87; refine (shift_any _ _ _).mono ?_; rintro e w3 ⟨rfl, rfl⟩))
      go_ret
      exact ⟨rfl, B2.out⟩
  · rw [if_neg h2]
    simp only [Bool.not_false, Bool.true_and]
    have g1 : (o == 128) = false := by simpa using h1
    have g2 : (o == 96) = false := by simp; omega
    have g3 : (o == 112) = false := by simp; omega
    have g4 : (o == 192) = false := by simp; omega
    clear h1 h2
    go_enter Try.func70, Try.ntmps70
    go_wp2_with (first
      | (go_at_call 68; refine (n1 _ _ _).mono ?_; rintro e w1 ⟨rfl, rfl⟩)
      | (go_at_call 71; refine (HO.out _).mono ?_; rintro e w2 ⟨rfl, hb2⟩; have B2 := Lib.hid (below2 hb2); clear hb2))
    go_ret
    exact ⟨rfl, B2.out⟩
def accB (x : In) : Bool := if x.op % 8 = 1 then !(x.dst == 10) && (x.imm == 0) else if x.op % 8 = 3 then x.imm == 0 else x.src == 0
set_option maxHeartbeats 2000000 in
theorem access_any (x : In) (w : World) : Calls Try.prog 73 #[.agg #[.int .i64 x.op, .int .i64 x.dst, .int .i64 x.src, .int .i64 x.off, .int .i64 x.imm, .int .u64 x.wide]] w fun e w' => e = .returned (.bool (accB x)) ∧ Below w.heap.size w w' := by
  unfold accB
  have HC := Lib.hid (fun W => class_any x.op W)
  generalize x.op % 8 = c at *
  by_cases h1 : c = 1
  · subst h1
    simp only [if_true]
    cases k1 : x.dst == 10
    all_goals
      simp only [Bool.not_false, Bool.not_true, Bool.false_and, Bool.true_and]
      go_enter Try.func73, Try.ntmps73
      go_wp2_with (first
        | (go_at_call 60; refine (HC.out _).mono ?_; rintro e w1 ⟨rfl, rfl⟩)
        | (go_at_call 68; refine (n1 _ _ _).mono ?_; rintro e w1 ⟨rfl, rfl⟩))
      go_ret
      first | exact ⟨rfl, b2⟩ | exact ⟨rfl, b1⟩
  · rw [if_neg h1]
    have g1 : (c == 1) = false := by simpa using h1
    by_cases h2 : c = 3
    · subst h2
      simp only [if_true]
      clear g1 h1
      go_enter Try.func73, Try.ntmps73
      go_wp2_with (first
        | (go_at_call 60; refine (HC.out _).mono ?_; rintro e w1 ⟨rfl, rfl⟩)
        | (go_at_call 68; refine (n1 _ _ _).mono ?_; rintro e w1 ⟨rfl, rfl⟩))
      go_ret
      exact ⟨rfl, b2⟩
    · rw [if_neg h2]
      have g2 : (c == 3) = false := by simpa using h2
      clear h1 h2
      go_enter Try.func73, Try.ntmps73
      go_wp2_with (first
        | (go_at_call 60; refine (HC.out _).mono ?_; rintro e w1 ⟨rfl, rfl⟩)
        | (go_at_call 68; refine (n1 _ _ _).mono ?_; rintro e w1 ⟨rfl, rfl⟩))
      go_ret
      exact ⟨rfl, b2⟩
end Go.Proofs.Ytlpijnnlmgoihaa

/- Contracts of mayWide, mayOne and Ins. -/
namespace Go.Proofs.Ytlpijnnlmgoihaa
open Go.RowKit M

def sg32 (x : Int) : Int := (x + 2147483648) % 4294967296 - 2147483648
def wideB (x : In) : Bool := !(x.dst == 10) && ((x.off == 0) && (if x.src = 0 then x.imm == sg32 x.wide else if x.src = 1 then inB x.imm 0 7 && (x.wide == x.imm) else false))
theorem sg_conv (x : Int) : IntKind.i32.wrap x = sg32 x := by
  unfold sg32; simp [IntKind.wrap, IntKind.bits, IntKind.signed]; omega
set_option maxRecDepth 100000 in
set_option maxHeartbeats 2000000 in
theorem wide_any (x : In) (hx : Bd x) (w : World) : Calls Try.prog 57 #[.agg #[.int .i64 x.op, .int .i64 x.dst, .int .i64 x.src, .int .i64 x.off, .int .i64 x.imm, .int .u64 x.wide]] w fun e w' => e = .returned (.bool (wideB x)) ∧ Below w.heap.size w w' := by
  unfold wideB
  obtain ⟨hw0, hw1⟩ := hx.wide
  obtain ⟨hi0, hi1⟩ := hx.imm
  clear hx
  cases k1 : x.dst == 10
  case true =>
    simp only [Bool.not_true, Bool.false_and]
    go_enter Try.func57, Try.ntmps57
    go_wp2
    go_ret
    exact ⟨rfl, b1⟩
  cases k2 : x.off == 0
  case false =>
    simp only [Bool.not_false, Bool.false_and, Bool.true_and]
    go_enter Try.func57, Try.ntmps57
    go_wp2_with (go_at_call 68; refine (n1 _ _ _).mono ?_; rintro e w1 ⟨rfl, rfl⟩)
    go_ret
    exact ⟨rfl, b2⟩
  simp only [Bool.not_false, Bool.true_and]
  obtain ⟨S, hS⟩ : ∃ S, x.src = S := ⟨_, rfl⟩
  rw [hS]
  clear hS
  by_cases h0 : S = 0
  · rw [if_pos h0]
    subst h0
    have hc := sg_conv x.wide
    go_enter Try.func57, Try.ntmps57
    go_wp2_with (go_at_call 68; refine (n1 _ _ _).mono ?_; rintro e w1 ⟨rfl, rfl⟩)
    go_ret
    exact ⟨ret_bool (by rw [show wrap64 (sg32 x.wide) = sg32 x.wide by unfold wrap64 sg32; omega]), b2⟩
  rw [if_neg h0]
  have g0 : (S == 0) = false := by simpa using h0
  by_cases h1 : S = 1
  · rw [if_pos h1]
    subst h1
    clear h0 g0
    cases v : inB x.imm 0 7
    case false =>
      simp only [Bool.false_and]
      go_enter Try.func57, Try.ntmps57
      go_wp2_with (first
        | (go_at_call 68; refine (n1 _ _ _).mono ?_; rintro e w1 ⟨rfl, rfl⟩)
        | (go_at_call 67; refine (within_any _ _ _ _).mono ?_; rintro e w1 ⟨rfl, rfl⟩))
      go_ret
      exact ⟨rfl, b2⟩
    case true =>
      simp only [Bool.true_and]
      have hb := inB_true.1 v
      obtain ⟨m0, m7⟩ := hb
      go_enter Try.func57, Try.ntmps57
      go_wp2_with (first
        | (go_at_call 68; refine (n1 _ _ _).mono ?_; rintro e w1 ⟨rfl, rfl⟩)
        | (go_at_call 67; refine (within_any _ _ _ _).mono ?_; rintro e w1 ⟨rfl, rfl⟩))
      go_ret
      exact ⟨ret_bool (by simp), b2⟩
  · rw [if_neg h1]
    have g1 : (S == 1) = false := by simpa using h1
    clear h0 h1
    go_enter Try.func57, Try.ntmps57
    go_wp2_with (go_at_call 68; refine (n1 _ _ _).mono ?_; rintro e w1 ⟨rfl, rfl⟩)
    go_ret
    exact ⟨rfl, b2⟩
end Go.Proofs.Ytlpijnnlmgoihaa

/- Contracts of mayOne and Ins. -/
namespace Go.Proofs.Ytlpijnnlmgoihaa
open Go.RowKit M

theorem alu_yes (op : Int) (w : World) (h0 : -9223372036854775808 ≤ op) (h1 : op ≤ 9223372036854775807) (h : aluB op = true) : Calls Try.prog 69 #[.int .i64 op] w fun e w' => e = .returned (.tuple #[.int .i64 (op - op % 16), .bool (decide (op % 8 = 7)), .bool true]) ∧ w = w' := by
  have := alu_any op w h0 h1
  unfold AluP at this
  rw [h] at this
  exact this
theorem alu_no (op : Int) (w : World) (h0 : -9223372036854775808 ≤ op) (h1 : op ≤ 9223372036854775807) (h : aluB op = false) : Calls Try.prog 69 #[.int .i64 op] w fun e w' => e = .returned (.tuple #[.int .i64 0, .bool false, .bool false]) ∧ w = w' := by
  have := alu_any op w h0 h1
  unfold AluP at this
  rw [h] at this
  exact this
theorem jump_yes (op : Int) (w : World) (h0 : -9223372036854775808 ≤ op) (h1 : op ≤ 9223372036854775807) (h : jmpB op = true) : Calls Try.prog 45 #[.int .i64 op] w fun e w' => e = .returned (.tuple #[.int .i64 (op - op % 16), .bool (decide (op % 8 = 5)), .bool true]) ∧ w = w' := by
  have := jump_any op w h0 h1
  unfold JmpP at this
  rw [h] at this
  exact this
theorem jump_no (op : Int) (w : World) (h0 : -9223372036854775808 ≤ op) (h1 : op ≤ 9223372036854775807) (h : jmpB op = false) : Calls Try.prog 45 #[.int .i64 op] w fun e w' => e = .returned (.tuple #[.int .i64 0, .bool false, .bool false]) ∧ w = w' := by
  have := jump_any op w h0 h1
  unfold JmpP at this
  rw [h] at this
  exact this
def oneB (x : In) : Bool :=
  if x.op = 5 then (x.dst == 0) && ((x.src == 0) && (x.imm == 0))
  else if x.op = 133 then ((x.dst == 0) && ((x.src == 0) && (x.off == 0))) && inB x.imm 1 5
  else if x.op = 149 then (x.dst == 0) && ((x.src == 0) && ((x.off == 0) && (x.imm == 0)))
  else if aluB x.op = true then mayAluB x (x.op - x.op % 16) (decide (x.op % 8 = 7))
  else if jmpB x.op = true then operB x
  else !(sizeI x.op == 0) && accB x
set_option maxRecDepth 100000 in
set_option maxHeartbeats 4000000 in
theorem one_any (x : In) (hx : Bd x) (w : World) : Calls Try.prog 59 #[.agg #[.int .i64 x.op, .int .i64 x.dst, .int .i64 x.src, .int .i64 x.off, .int .i64 x.imm, .int .u64 x.wide]] w fun e w' => e = .returned (.bool (oneB x)) ∧ Below w.heap.size w w' := by
  unfold oneB
  obtain ⟨h0, h1⟩ := hx.op
  clear hx
  by_cases e5 : x.op = 5
  · rw [if_pos e5]
    have g5 : (x.op == 5) = true := by simpa using e5
    clear h0 h1 e5
    go_enter Try.func59, Try.ntmps59
    go_wp2_with (go_at_call 68; refine (n3 _ _ _ _ _).mono ?_; rintro e w1 ⟨rfl, rfl⟩)
    go_ret
    exact ⟨rfl, b2⟩
  rw [if_neg e5]
  have g5 : (x.op == 5) = false := by simpa using e5
  by_cases e133 : x.op = 133
  · rw [if_pos e133]
    have g133 : (x.op == 133) = true := by simpa using e133
    clear h0 h1 e5 e133
    cases v : ((x.dst == 0) && ((x.src == 0) && (x.off == 0)))
    all_goals
      have HN := Lib.hid (fun W o => n3 x.dst x.src x.off W o)
      rw [v] at HN
      clear v
      simp only [Bool.false_and, Bool.true_and]
      go_enter Try.func59, Try.ntmps59
      go_wp2_with (first
        | (go_at_call 68; refine (HN.out _ _).mono ?_; rintro e w1 ⟨rfl, rfl⟩)
        | (go_at_call 67; refine (within_any _ _ _ _).mono ?_; rintro e w1 ⟨rfl, rfl⟩))
      go_ret
      exact ⟨rfl, b2⟩
  rw [if_neg e133]
  have g133 : (x.op == 133) = false := by simpa using e133
  by_cases e149 : x.op = 149
  · rw [if_pos e149]
    have g149 : (x.op == 149) = true := by simpa using e149
    clear h0 h1 e5 e133 e149
    go_enter Try.func59, Try.ntmps59
    go_wp2_with (go_at_call 68; refine (n4 _ _ _ _ _ _).mono ?_; rintro e w1 ⟨rfl, rfl⟩)
    go_ret
    exact ⟨rfl, b2⟩
  rw [if_neg e149]
  have g149 : (x.op == 149) = false := by simpa using e149
  clear e5 e133 e149
  cases ha : aluB x.op
  case true =>
    rw [if_pos rfl]
    have HA := Lib.hid (fun W => alu_yes x.op W h0 h1 ha)
    have HM := Lib.hid (fun W => mayAlu_any x (x.op - x.op % 16) (decide (x.op % 8 = 7)) W)
    generalize decide (x.op % 8 = 7) = wd at *
    generalize x.op - x.op % 16 = H at *
    generalize mayAluB x H wd = v at *
    clear ha h0 h1
    go_enter Try.func59, Try.ntmps59
    go_wp2_with (first
      | (go_at_call 69; refine (HA.out _).mono ?_; rintro e w1 ⟨rfl, rfl⟩)
      | (go_at_call 70; refine (HM.out _).mono ?_; rintro e w1 ⟨rfl, hb⟩; have B := Lib.hid (below1 hb); clear hb))
    go_ret
    exact ⟨rfl, B.out⟩
  rw [if_neg (by simp)]
  have HA := Lib.hid (fun W => alu_no x.op W h0 h1 ha)
  clear ha
  cases hj : jmpB x.op
  case true =>
    rw [if_pos rfl]
    have HJ := Lib.hid (fun W => jump_yes x.op W h0 h1 hj)
    have HM := Lib.hid (fun W => oper_any x W)
    generalize decide (x.op % 8 = 5) = wd at *
    generalize x.op - x.op % 16 = H at *
    generalize operB x = v at *
    clear hj h0 h1
    go_enter Try.func59, Try.ntmps59
    go_wp2_with (first
      | (go_at_call 69; refine (HA.out _).mono ?_; rintro e w1 ⟨rfl, rfl⟩)
      | (go_at_call 45; refine (HJ.out _).mono ?_; rintro e w1 ⟨rfl, rfl⟩)
      | (go_at_call 71; refine (HM.out _).mono ?_; rintro e w1 ⟨rfl, hb⟩; have B := Lib.hid (below1 hb); clear hb))
    go_ret
    exact ⟨rfl, B.out⟩
  rw [if_neg (by simp)]
  have HJ := Lib.hid (fun W => jump_no x.op W h0 h1 hj)
  have HS := Lib.hid (fun W => size_any x.op W)
  have HM := Lib.hid (fun W => access_any x W)
  generalize sizeI x.op = s at *
  generalize accB x = v at *
  clear hj h0 h1
  cases hs : s == 0
  case true =>
    have hs' : (s != 0) = false := by simp at hs ⊢; exact hs
    simp only [Bool.not_true, Bool.false_and]
    go_enter Try.func59, Try.ntmps59
    go_wp2_with (first
      | (go_at_call 69; refine (HA.out _).mono ?_; rintro e w1 ⟨rfl, rfl⟩)
      | (go_at_call 45; refine (HJ.out _).mono ?_; rintro e w1 ⟨rfl, rfl⟩)
      | (go_at_call 72; refine (HS.out _).mono ?_; rintro e w1 ⟨rfl, rfl⟩))
    go_ret
    exact ⟨rfl, b1⟩
  case false =>
    have hs' : (s != 0) = true := by simp at hs ⊢; exact hs
    simp only [Bool.not_false, Bool.true_and]
    go_enter Try.func59, Try.ntmps59
    go_wp2_with (first
      | (go_at_call 69; refine (HA.out _).mono ?_; rintro e w1 ⟨rfl, rfl⟩)
      | (go_at_call 45; refine (HJ.out _).mono ?_; rintro e w1 ⟨rfl, rfl⟩)
      | (go_at_call 72; refine (HS.out _).mono ?_; rintro e w1 ⟨rfl, rfl⟩)
      | (go_at_call 73; refine (HM.out _).mono ?_; rintro e w1 ⟨rfl, hb⟩; have B := Lib.hid (below1 hb); clear hb))
    go_ret
    exact ⟨rfl, B.out⟩
def insB (x : In) : Bool := fitsB x && (if x.op = 24 then wideB x else (x.wide == 0) && oneB x)
set_option maxRecDepth 100000 in
set_option maxHeartbeats 4000000 in
theorem ins_any (x : In) (hx : Bd x) (w : World) : Calls Try.prog 42 #[.agg #[.int .i64 x.op, .int .i64 x.dst, .int .i64 x.src, .int .i64 x.off, .int .i64 x.imm, .int .u64 x.wide]] w fun e w' => e = .returned (.bool (insB x)) ∧ Below w.heap.size w w' := by
  unfold insB
  have HF := Lib.hid (fun W => fits_any x W)
  have HW := Lib.hid (fun W => wide_any x hx W)
  have HO := Lib.hid (fun W => one_any x hx W)
  generalize fitsB x = vf at *
  generalize wideB x = vw at *
  generalize oneB x = vo at *
  clear hx
  cases vf
  case false =>
    simp only [Bool.false_and]
    go_enter Try.func42, Try.ntmps42
    go_wp2_with (go_at_call 56; refine (HF.out _).mono ?_; rintro e w1 ⟨rfl, hb⟩; have B := Lib.hid (below1 hb); clear hb)
    go_ret
    exact ⟨rfl, B.out⟩
  simp only [Bool.true_and]
  by_cases e24 : x.op = 24
  · rw [if_pos e24]
    have g : (x.op == 24) = true := by simpa using e24
    clear e24
    go_enter Try.func42, Try.ntmps42
    go_wp2_with (first
      | (go_at_call 56; refine (HF.out _).mono ?_; rintro e w1 ⟨rfl, hb⟩; have B := Lib.hid (below1 hb); obtain ⟨hc, hf⟩ := bcell hb; clear hb)
      | (go_at_call 57; refine (HW.out _).mono ?_; rintro e w2 ⟨rfl, hb⟩; have B2 := Lib.hid (below_next B.out hb); clear hb))
    go_ret
    exact ⟨rfl, B2.out⟩
  · rw [if_neg e24]
    have g : (x.op == 24) = false := by simpa using e24
    clear e24
    cases v : x.wide == 0
    case false =>
      simp only [Bool.false_and]
      go_enter Try.func42, Try.ntmps42
      go_wp2_with (first
        | (go_at_call 56; refine (HF.out _).mono ?_; rintro e w1 ⟨rfl, hb⟩; have B := Lib.hid (below1 hb); obtain ⟨hc, hf⟩ := bcell hb; clear hb)
        | (go_at_call 58; refine (noughtu1 _ _).mono ?_; rintro e w2 ⟨rfl, rfl⟩))
      go_ret
      exact ⟨rfl, B.out.alloc B.out.size _⟩
    case true =>
      simp only [Bool.true_and]
      go_enter Try.func42, Try.ntmps42
      go_wp2_with (first
        | (go_at_call 56; refine (HF.out _).mono ?_; rintro e w1 ⟨rfl, hb⟩; have B := Lib.hid (below1 hb); have hz := one_in hb; obtain ⟨hc, hf⟩ := bcell hb; clear hb)
        | (go_at_call 58; refine (noughtu1 _ _).mono ?_; rintro e w2 ⟨rfl, rfl⟩)
        | (go_at_call 59; refine (HO.out _).mono ?_; rintro e w3 ⟨rfl, hb⟩; have B2 := Lib.hid (below_next (B.out.alloc B.out.size _) hb); clear hb))
      go_ret
      exact ⟨rfl, B2.out⟩
end Go.Proofs.Ytlpijnnlmgoihaa
