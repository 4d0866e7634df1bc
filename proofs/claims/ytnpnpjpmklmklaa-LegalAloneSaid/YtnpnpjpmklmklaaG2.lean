/- Contracts of mayOne and Ins. -/
import Derived.Test.YtnpnpjpmklmklaaG
import Derived.Test.YtnpnpjpmklmklaaC
namespace Go.Proofs.Ytnpnpjpmklmklaa
open Go.RowKit M

theorem alu_yes (op : Int) (w : World) (h0 : -9223372036854775808 ≤ op) (h1 : op ≤ 9223372036854775807) (h : aluB op = true) : Calls Try.prog 8 #[.int .i64 op] w fun e w' => e = .returned (.tuple #[.int .i64 (op - op % 16), .bool (decide (op % 8 = 7)), .bool true]) ∧ w = w' := by
  have := alu_any op w h0 h1
  unfold AluP at this
  rw [h] at this
  exact this
theorem alu_no (op : Int) (w : World) (h0 : -9223372036854775808 ≤ op) (h1 : op ≤ 9223372036854775807) (h : aluB op = false) : Calls Try.prog 8 #[.int .i64 op] w fun e w' => e = .returned (.tuple #[.int .i64 0, .bool false, .bool false]) ∧ w = w' := by
  have := alu_any op w h0 h1
  unfold AluP at this
  rw [h] at this
  exact this
theorem jump_yes (op : Int) (w : World) (h0 : -9223372036854775808 ≤ op) (h1 : op ≤ 9223372036854775807) (h : jmpB op = true) : Calls Try.prog 10 #[.int .i64 op] w fun e w' => e = .returned (.tuple #[.int .i64 (op - op % 16), .bool (decide (op % 8 = 5)), .bool true]) ∧ w = w' := by
  have := jump_any op w h0 h1
  unfold JmpP at this
  rw [h] at this
  exact this
theorem jump_no (op : Int) (w : World) (h0 : -9223372036854775808 ≤ op) (h1 : op ≤ 9223372036854775807) (h : jmpB op = false) : Calls Try.prog 10 #[.int .i64 op] w fun e w' => e = .returned (.tuple #[.int .i64 0, .bool false, .bool false]) ∧ w = w' := by
  have := jump_any op w h0 h1
  unfold JmpP at this
  rw [h] at this
  exact this
def oneB (x : In) : Bool :=
  if x.op = 5 then (x.dst == 0) && ((x.src == 0) && (x.imm == 0))
  else if x.op = 133 then ((x.dst == 0) && ((x.src == 0) && (x.off == 0))) && inB x.imm 1 5
  else if x.op = 149 then (x.dst == 0) && ((x.src == 0) && ((x.off == 0) && (x.imm == 0)))
  else if aluB x.op = true then mayAluB x (x.op - x.op % 16) (decide (x.op % 8 = 7))
  else if jmpB x.op = true then operB x
  else !(sizeI x.op == 0) && accB x
set_option maxRecDepth 100000 in
set_option maxHeartbeats 4000000 in
theorem one_any (x : In) (hx : Bd x) (w : World) : Calls Try.prog 32 #[.agg #[.int .i64 x.op, .int .i64 x.dst, .int .i64 x.src, .int .i64 x.off, .int .i64 x.imm, .int .u64 x.wide]] w fun e w' => e = .returned (.bool (oneB x)) ∧ Below w.heap.size w w' := by
  unfold oneB
  obtain ⟨h0, h1⟩ := hx.op
  clear hx
  by_cases e5 : x.op = 5
  · rw [if_pos e5]
    have g5 : (x.op == 5) = true := by simpa using e5
    clear h0 h1 e5
    go_enter Try.func32, Try.ntmps32
    go_wp2_with (go_at_call 41; refine (n3 _ _ _ _ _).mono ?_; rintro e w1 ⟨rfl, rfl⟩)
    go_ret
    exact ⟨rfl, b2⟩
  rw [if_neg e5]
  have g5 : (x.op == 5) = false := by simpa using e5
  by_cases e133 : x.op = 133
  · rw [if_pos e133]
    have g133 : (x.op == 133) = true := by simpa using e133
    clear h0 h1 e5 e133
    cases v : ((x.dst == 0) && ((x.src == 0) && (x.off == 0)))
    all_goals
      have HN := Lib.hid (fun W o => n3 x.dst x.src x.off W o)
      rw [v] at HN
      clear v
      simp only [Bool.false_and, Bool.true_and]
      go_enter Try.func32, Try.ntmps32
      go_wp2_with (first
        | (go_at_call 41; refine (HN.out _ _).mono ?_; rintro e w1 ⟨rfl, rfl⟩)
        | (go_at_call 40; refine (within_any _ _ _ _).mono ?_; rintro e w1 ⟨rfl, rfl⟩))
      go_ret
      exact ⟨rfl, b2⟩
  rw [if_neg e133]
  have g133 : (x.op == 133) = false := by simpa using e133
  by_cases e149 : x.op = 149
  · rw [if_pos e149]
    have g149 : (x.op == 149) = true := by simpa using e149
    clear h0 h1 e5 e133 e149
    go_enter Try.func32, Try.ntmps32
    go_wp2_with (go_at_call 41; refine (n4 _ _ _ _ _ _).mono ?_; rintro e w1 ⟨rfl, rfl⟩)
    go_ret
    exact ⟨rfl, b2⟩
  rw [if_neg e149]
  have g149 : (x.op == 149) = false := by simpa using e149
  clear e5 e133 e149
  cases ha : aluB x.op
  case true =>
    rw [if_pos rfl]
    have HA := Lib.hid (fun W => alu_yes x.op W h0 h1 ha)
    have HM := Lib.hid (fun W => mayAlu_any x (x.op - x.op % 16) (decide (x.op % 8 = 7)) W)
    generalize decide (x.op % 8 = 7) = wd at *
    generalize x.op - x.op % 16 = H at *
    generalize mayAluB x H wd = v at *
    clear ha h0 h1
    go_enter Try.func32, Try.ntmps32
    go_wp2_with (first
      | (go_at_call 8; refine (HA.out _).mono ?_; rintro e w1 ⟨rfl, rfl⟩)
      | (go_at_call 42; refine (HM.out _).mono ?_; rintro e w1 ⟨rfl, hb⟩; have B := Lib.hid (below1 hb); clear hb))
    go_ret
    exact ⟨rfl, B.out⟩
  rw [if_neg (by simp)]
  have HA := Lib.hid (fun W => alu_no x.op W h0 h1 ha)
  clear ha
  cases hj : jmpB x.op
  case true =>
    rw [if_pos rfl]
    have HJ := Lib.hid (fun W => jump_yes x.op W h0 h1 hj)
    have HM := Lib.hid (fun W => oper_any x W)
    generalize decide (x.op % 8 = 5) = wd at *
    generalize x.op - x.op % 16 = H at *
    generalize operB x = v at *
    clear hj h0 h1
    go_enter Try.func32, Try.ntmps32
    go_wp2_with (first
      | (go_at_call 8; refine (HA.out _).mono ?_; rintro e w1 ⟨rfl, rfl⟩)
      | (go_at_call 10; refine (HJ.out _).mono ?_; rintro e w1 ⟨rfl, rfl⟩)
      | (go_at_call 43; refine (HM.out _).mono ?_; rintro e w1 ⟨rfl, hb⟩; have B := Lib.hid (below1 hb); clear hb))
    go_ret
    exact ⟨rfl, B.out⟩
  rw [if_neg (by simp)]
  have HJ := Lib.hid (fun W => jump_no x.op W h0 h1 hj)
  have HS := Lib.hid (fun W => size_any x.op W)
  have HM := Lib.hid (fun W => access_any x W)
  generalize sizeI x.op = s at *
  generalize accB x = v at *
  clear hj h0 h1
  cases hs : s == 0
  case true =>
    have hs' : (s != 0) = false := by simp at hs ⊢; exact hs
    simp only [Bool.not_true, Bool.false_and]
    go_enter Try.func32, Try.ntmps32
    go_wp2_with (first
      | (go_at_call 8; refine (HA.out _).mono ?_; rintro e w1 ⟨rfl, rfl⟩)
      | (go_at_call 10; refine (HJ.out _).mono ?_; rintro e w1 ⟨rfl, rfl⟩)
      | (go_at_call 12; refine (HS.out _).mono ?_; rintro e w1 ⟨rfl, rfl⟩))
    go_ret
    exact ⟨rfl, b1⟩
  case false =>
    have hs' : (s != 0) = true := by simp at hs ⊢; exact hs
    simp only [Bool.not_false, Bool.true_and]
    go_enter Try.func32, Try.ntmps32
    go_wp2_with (first
      | (go_at_call 8; refine (HA.out _).mono ?_; rintro e w1 ⟨rfl, rfl⟩)
      | (go_at_call 10; refine (HJ.out _).mono ?_; rintro e w1 ⟨rfl, rfl⟩)
      | (go_at_call 12; refine (HS.out _).mono ?_; rintro e w1 ⟨rfl, rfl⟩)
      | (go_at_call 44; refine (HM.out _).mono ?_; rintro e w1 ⟨rfl, hb⟩; have B := Lib.hid (below1 hb); clear hb))
    go_ret
    exact ⟨rfl, B.out⟩
def insB (x : In) : Bool := fitsB x && (if x.op = 24 then wideB x else (x.wide == 0) && oneB x)
set_option maxRecDepth 100000 in
set_option maxHeartbeats 4000000 in
theorem ins_any (x : In) (hx : Bd x) (w : World) : Calls Try.prog 17 #[.agg #[.int .i64 x.op, .int .i64 x.dst, .int .i64 x.src, .int .i64 x.off, .int .i64 x.imm, .int .u64 x.wide]] w fun e w' => e = .returned (.bool (insB x)) ∧ Below w.heap.size w w' := by
  unfold insB
  have HF := Lib.hid (fun W => fits_any x W)
  have HW := Lib.hid (fun W => wide_any x hx W)
  have HO := Lib.hid (fun W => one_any x hx W)
  generalize fitsB x = vf at *
  generalize wideB x = vw at *
  generalize oneB x = vo at *
  clear hx
  cases vf
  case false =>
    simp only [Bool.false_and]
    go_enter Try.func17, Try.ntmps17
    go_wp2_with (go_at_call 29; refine (HF.out _).mono ?_; rintro e w1 ⟨rfl, hb⟩; have B := Lib.hid (below1 hb); clear hb)
    go_ret
    exact ⟨rfl, B.out⟩
  simp only [Bool.true_and]
  by_cases e24 : x.op = 24
  · rw [if_pos e24]
    have g : (x.op == 24) = true := by simpa using e24
    clear e24
    go_enter Try.func17, Try.ntmps17
    go_wp2_with (first
      | (go_at_call 29; refine (HF.out _).mono ?_; rintro e w1 ⟨rfl, hb⟩; have B := Lib.hid (below1 hb); obtain ⟨hc, hf⟩ := bcell hb; clear hb)
      | (go_at_call 30; refine (HW.out _).mono ?_; rintro e w2 ⟨rfl, hb⟩; have B2 := Lib.hid (below_next B.out hb); clear hb))
    go_ret
    exact ⟨rfl, B2.out⟩
  · rw [if_neg e24]
    have g : (x.op == 24) = false := by simpa using e24
    clear e24
    cases v : x.wide == 0
    case false =>
      simp only [Bool.false_and]
      go_enter Try.func17, Try.ntmps17
      go_wp2_with (first
        | (go_at_call 29; refine (HF.out _).mono ?_; rintro e w1 ⟨rfl, hb⟩; have B := Lib.hid (below1 hb); obtain ⟨hc, hf⟩ := bcell hb; clear hb)
        | (go_at_call 31; refine (noughtu1 _ _).mono ?_; rintro e w2 ⟨rfl, rfl⟩))
      go_ret
      exact ⟨rfl, B.out.alloc B.out.size _⟩
    case true =>
      simp only [Bool.true_and]
      go_enter Try.func17, Try.ntmps17
      go_wp2_with (first
        | (go_at_call 29; refine (HF.out _).mono ?_; rintro e w1 ⟨rfl, hb⟩; have B := Lib.hid (below1 hb); have hz := one_in hb; obtain ⟨hc, hf⟩ := bcell hb; clear hb)
        | (go_at_call 31; refine (noughtu1 _ _).mono ?_; rintro e w2 ⟨rfl, rfl⟩)
        | (go_at_call 32; refine (HO.out _).mono ?_; rintro e w3 ⟨rfl, hb⟩; have B2 := Lib.hid (below_next (B.out.alloc B.out.size _) hb); clear hb))
      go_ret
      exact ⟨rfl, B2.out⟩
end Go.Proofs.Ytnpnpjpmklmklaa
