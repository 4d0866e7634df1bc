/- Contract of the document's own Ins. -/
import Derived.Test.YtlpijnnlmgoihaaRG2
import Derived.Test.YtlpijnnlmgoihaaRG3
namespace Go.Proofs.Ytlpijnnlmgoihaa
open Go.RowKit M

theorem ralu_yes (op : Int) (w : World) (h0 : -9223372036854775808 ≤ op) (h1 : op ≤ 9223372036854775807) (h : aluB op = true) : Calls Try.prog 50 #[.int .i64 op] w fun e w' => e = .returned (.tuple #[.int .i64 (op - op % 16), .bool (decide (op % 8 = 7)), .bool true]) ∧ w = w' := by
  have := ralu_any op w h0 h1
  unfold AluP at this
  rw [h] at this
  exact this
theorem ralu_no (op : Int) (w : World) (h0 : -9223372036854775808 ≤ op) (h1 : op ≤ 9223372036854775807) (h : aluB op = false) : Calls Try.prog 50 #[.int .i64 op] w fun e w' => e = .returned (.tuple #[.int .i64 0, .bool false, .bool false]) ∧ w = w' := by
  have := ralu_any op w h0 h1
  unfold AluP at this
  rw [h] at this
  exact this
theorem rjump_yes (op : Int) (w : World) (h0 : -9223372036854775808 ≤ op) (h1 : op ≤ 9223372036854775807) (h : jmpB op = true) : Calls Try.prog 31 #[.int .i64 op] w fun e w' => e = .returned (.tuple #[.int .i64 (op - op % 16), .bool (decide (op % 8 = 5)), .bool true]) ∧ w = w' := by
  have := rjump_any op w h0 h1
  unfold JmpP at this
  rw [h] at this
  exact this
theorem rjump_no (op : Int) (w : World) (h0 : -9223372036854775808 ≤ op) (h1 : op ≤ 9223372036854775807) (h : jmpB op = false) : Calls Try.prog 31 #[.int .i64 op] w fun e w' => e = .returned (.tuple #[.int .i64 0, .bool false, .bool false]) ∧ w = w' := by
  have := rjump_any op w h0 h1
  unfold JmpP at this
  rw [h] at this
  exact this
def rinsB (x : In) : Bool :=
  if aluB x.op = true then raluB x (x.op - x.op % 16) (decide (x.op % 8 = 7))
  else if jmpB x.op = true then fieldsB x 10 (rg x.op) true (!rg x.op)
  else if x.op = 5 then fieldsB x 0 false true false
  else if x.op = 133 then fieldsB x 0 false false true && inB x.imm 1 5
  else if x.op = 149 then fieldsB x 0 false false false
  else if x.op = 24 then rwideB x
  else if sizeI x.op = 0 then false
  else if x.op % 8 = 1 then fieldsB x 9 true true false
  else if x.op % 8 = 2 then fieldsB x 10 false true true
  else fieldsB x 10 true true false
set_option maxRecDepth 100000 in
set_option maxHeartbeats 8000000 in
theorem rins_any (x : In) (hx : Bd x) (w : World) : Calls Try.prog 41 #[.agg #[.int .i64 x.op, .int .i64 x.dst, .int .i64 x.src, .int .i64 x.off, .int .i64 x.imm, .int .u64 x.wide]] w fun e w' => e = .returned (.bool (rinsB x)) ∧ Below w.heap.size w w' := by
  unfold rinsB
  obtain ⟨h0, h1⟩ := hx.op
  have HW := Lib.hid (fun W => rwide_any x hx W)
  clear hx
  have HF := Lib.hid (fun d s o i W => fields_any x d s o i W)
  cases ha : aluB x.op
  case true =>
    rw [if_pos rfl]
    have hj : jmpB x.op = false := by rw [jmpB_false]; have := aluB_true.1 ha; omega
    have HA := Lib.hid (fun W => ralu_yes x.op W h0 h1 ha)
    have HJ := Lib.hid (fun W => rjump_no x.op W h0 h1 hj)
    have HM := Lib.hid (fun W => ralu_go x (x.op - x.op % 16) (decide (x.op % 8 = 7)) W)
    generalize decide (x.op % 8 = 7) = wd at *
    generalize x.op - x.op % 16 = H at *
    generalize raluB x H wd = v at *
    clear ha hj h0 h1
    go_enter Try.func41, Try.ntmps41
    go_wp2_with (first
      | (go_at_call 50; refine (HA.out _).mono ?_; rintro e w1 ⟨rfl, rfl⟩)
      | (go_at_call 31; refine (HJ.out _).mono ?_; rintro e w1 ⟨rfl, rfl⟩)
      | (go_at_call 51; refine (HM.out _).mono ?_; rintro e w1 ⟨rfl, hb⟩; have B := Lib.hid (below1 hb); clear hb))
    go_ret
    exact ⟨rfl, B.out⟩
  rw [if_neg (by simp)]
  have HA := Lib.hid (fun W => ralu_no x.op W h0 h1 ha)
  clear ha
  cases hj : jmpB x.op
  case true =>
    rw [if_pos rfl]
    have HJ := Lib.hid (fun W => rjump_yes x.op W h0 h1 hj)
    generalize decide (x.op % 8 = 5) = wd at *
    clear hj h0 h1
    cases hr : rg x.op
    all_goals
      have hand := andb hr
      simp only [if_true, Bool.false_eq_true, if_false] at hand
      generalize x.op - x.op % 16 = H at *
      clear hr
      go_enter Try.func41, Try.ntmps41
      go_wp2_with (first
        | (go_at_call 50; refine (HA.out _).mono ?_; rintro e w1 ⟨rfl, rfl⟩)
        | (go_at_call 31; refine (HJ.out _).mono ?_; rintro e w1 ⟨rfl, rfl⟩)
        | (go_at_call 52; refine (HF.out _ _ _ _ _).mono ?_; rintro e w1 ⟨rfl, hb⟩; have B := Lib.hid (below1 hb); clear hb))
      go_ret
      exact ⟨rfl, B.out⟩
  rw [if_neg (by simp)]
  have HJ := Lib.hid (fun W => rjump_no x.op W h0 h1 hj)
  clear hj h0 h1
  by_cases e5 : x.op = 5
  · rw [if_pos e5]
    have g5 : (x.op == 5) = true := by simpa using e5
    clear e5
    go_enter Try.func41, Try.ntmps41
    go_wp2_with (first
      | (go_at_call 50; refine (HA.out _).mono ?_; rintro e w1 ⟨rfl, rfl⟩)
      | (go_at_call 31; refine (HJ.out _).mono ?_; rintro e w1 ⟨rfl, rfl⟩)
      | (go_at_call 52; refine (HF.out _ _ _ _ _).mono ?_; rintro e w1 ⟨rfl, hb⟩; have B := Lib.hid (below1 hb); clear hb))
    go_ret
    exact ⟨rfl, B.out⟩
  rw [if_neg e5]
  have g5 : (x.op == 5) = false := by simpa using e5
  clear e5
  by_cases e133 : x.op = 133
  · rw [if_pos e133]
    have g133 : (x.op == 133) = true := by simpa using e133
    clear e133
    have HG := Lib.hid (fun W => fields_any x 0 false false true W)
    generalize fieldsB x 0 false false true = v at *
    cases v
    all_goals
      simp only [Bool.false_and, Bool.true_and]
      go_enter Try.func41, Try.ntmps41
      go_wp2_with (first
        | (go_at_call 50; refine (HA.out _).mono ?_; rintro e w1 ⟨rfl, rfl⟩)
        | (go_at_call 31; refine (HJ.out _).mono ?_; rintro e w1 ⟨rfl, rfl⟩)
        | (go_at_call 53; refine (rwithin_any _ _ _ _).mono ?_; rintro e w1 ⟨rfl, rfl⟩)
        | (go_at_call 52; refine (HG.out _).mono ?_; rintro e w1 ⟨rfl, hb⟩; have B := Lib.hid (below1 hb); obtain ⟨hc, hf⟩ := bcell hb; clear hb))
      go_ret
      exact ⟨rfl, B.out⟩
  rw [if_neg e133]
  have g133 : (x.op == 133) = false := by simpa using e133
  clear e133
  by_cases e149 : x.op = 149
  · rw [if_pos e149]
    have g149 : (x.op == 149) = true := by simpa using e149
    clear e149
    go_enter Try.func41, Try.ntmps41
    go_wp2_with (first
      | (go_at_call 50; refine (HA.out _).mono ?_; rintro e w1 ⟨rfl, rfl⟩)
      | (go_at_call 31; refine (HJ.out _).mono ?_; rintro e w1 ⟨rfl, rfl⟩)
      | (go_at_call 52; refine (HF.out _ _ _ _ _).mono ?_; rintro e w1 ⟨rfl, hb⟩; have B := Lib.hid (below1 hb); clear hb))
    go_ret
    exact ⟨rfl, B.out⟩
  rw [if_neg e149]
  have g149 : (x.op == 149) = false := by simpa using e149
  clear e149
  by_cases e24 : x.op = 24
  · rw [if_pos e24]
    have g24 : (x.op == 24) = true := by simpa using e24
    clear e24
    go_enter Try.func41, Try.ntmps41
    go_wp2_with (first
      | (go_at_call 50; refine (HA.out _).mono ?_; rintro e w1 ⟨rfl, rfl⟩)
      | (go_at_call 31; refine (HJ.out _).mono ?_; rintro e w1 ⟨rfl, rfl⟩)
      | (go_at_call 54; refine (HW.out _).mono ?_; rintro e w1 ⟨rfl, hb⟩; have B := Lib.hid (below1 hb); clear hb))
    go_ret
    exact ⟨rfl, B.out⟩
  rw [if_neg e24]
  have g24 : (x.op == 24) = false := by simpa using e24
  clear e24
  have HS := Lib.hid (fun W => rsize_any x.op W)
  generalize sizeI x.op = s at *
  by_cases hs : s = 0
  · rw [if_pos hs]
    subst hs
    go_enter Try.func41, Try.ntmps41
    go_wp2_with (first
      | (go_at_call 50; refine (HA.out _).mono ?_; rintro e w1 ⟨rfl, rfl⟩)
      | (go_at_call 31; refine (HJ.out _).mono ?_; rintro e w1 ⟨rfl, rfl⟩)
      | (go_at_call 55; refine (HS.out _).mono ?_; rintro e w1 ⟨rfl, rfl⟩))
    go_ret
    exact ⟨rfl, b1⟩
  rw [if_neg hs]
  have gs : (s == 0) = false := by simpa using hs
  have e7 := i64_and7 x.op
  generalize x.op % 8 = c at *
  clear hs
  by_cases c1 : c = 1
  · rw [if_pos c1]
    subst c1
    go_enter Try.func41, Try.ntmps41
    go_wp2_with (first
      | (go_at_call 50; refine (HA.out _).mono ?_; rintro e w1 ⟨rfl, rfl⟩)
      | (go_at_call 31; refine (HJ.out _).mono ?_; rintro e w1 ⟨rfl, rfl⟩)
      | (go_at_call 55; refine (HS.out _).mono ?_; rintro e w1 ⟨rfl, rfl⟩)
      | (go_at_call 52; refine (HF.out _ _ _ _ _).mono ?_; rintro e w1 ⟨rfl, hb⟩; have B := Lib.hid (below1 hb); clear hb))
    go_ret
    exact ⟨rfl, B.out⟩
  rw [if_neg c1]
  have k1 : (c == 1) = false := by simpa using c1
  clear c1
  by_cases c2 : c = 2
  · rw [if_pos c2]
    subst c2
    clear k1
    go_enter Try.func41, Try.ntmps41
    go_wp2_with (first
      | (go_at_call 50; refine (HA.out _).mono ?_; rintro e w1 ⟨rfl, rfl⟩)
      | (go_at_call 31; refine (HJ.out _).mono ?_; rintro e w1 ⟨rfl, rfl⟩)
      | (go_at_call 55; refine (HS.out _).mono ?_; rintro e w1 ⟨rfl, rfl⟩)
      | (go_at_call 52; refine (HF.out _ _ _ _ _).mono ?_; rintro e w1 ⟨rfl, hb⟩; have B := Lib.hid (below1 hb); clear hb))
    go_ret
    exact ⟨rfl, B.out⟩
  rw [if_neg c2]
  have k2 : (c == 2) = false := by simpa using c2
  clear c2
  go_enter Try.func41, Try.ntmps41
  go_wp2_with (first
    | (go_at_call 50; refine (HA.out _).mono ?_; rintro e w1 ⟨rfl, rfl⟩)
    | (go_at_call 31; refine (HJ.out _).mono ?_; rintro e w1 ⟨rfl, rfl⟩)
    | (go_at_call 55; refine (HS.out _).mono ?_; rintro e w1 ⟨rfl, rfl⟩)
    | (go_at_call 52; refine (HF.out _ _ _ _ _).mono ?_; rintro e w1 ⟨rfl, hb⟩; have B := Lib.hid (below1 hb); clear hb))
  go_ret
  exact ⟨rfl, B.out⟩
end Go.Proofs.Ytlpijnnlmgoihaa
