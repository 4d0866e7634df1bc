/- Contracts of the document's own alu, wide and Ins. -/
import Derived.Test.YtlpijnnlmgoihaaRG
namespace Go.Proofs.Ytlpijnnlmgoihaa
open Go.RowKit M

theorem andb {op : Int} {r : Bool} (h : rg op = r) : bits .and .i64 op 8 = if r = true then 8 else 0 := by
  rw [i64_and8, ← h]
  unfold rg
  simp
def raluB (x : In) (o : Int) (wide : Bool) : Bool := fieldsB x 9 (rg x.op) false (!rg x.op && !(o == 128)) && (rg x.op || (!(o == 96 || (o == 112 || o == 192)) || inB x.imm 0 (if wide = true then 63 else 31)))
set_option maxRecDepth 100000 in
set_option maxHeartbeats 4000000 in
theorem ralu_go (x : In) (o : Int) (wide : Bool) (w : World) : Calls Try.prog 51 #[.agg #[.int .i64 x.op, .int .i64 x.dst, .int .i64 x.src, .int .i64 x.off, .int .i64 x.imm, .int .u64 x.wide], .int .i64 o, .bool wide] w fun e w' => e = .returned (.bool (raluB x o wide)) ∧ Below w.heap.size w w' := by
  unfold raluB
  cases hr : rg x.op
  case true =>
    have hand := andb hr
    rw [if_pos rfl] at hand
    have HF := Lib.hid (fun W => fields_any x 9 true false false W)
    simp only [Bool.not_true, Bool.false_and, Bool.true_or, Bool.and_true]
    generalize fieldsB x 9 true false false = v at *
    clear hr
    cases v
    all_goals
      cases wide
      all_goals
        go_enter Try.func51, Try.ntmps51
        go_wp2_with (go_at_call 52; refine (HF.out _).mono ?_; rintro e w1 ⟨rfl, hb⟩; have B := Lib.hid (below1 hb); clear hb)
        go_ret
        exact ⟨rfl, B.out⟩
  have hand := andb hr
  rw [if_neg (by simp)] at hand
  clear hr
  simp only [Bool.not_false, Bool.true_and, Bool.false_or]
  by_cases h128 : o = 128
  · subst h128
    have HF := Lib.hid (fun W => fields_any x 9 false false false W)
    have e : (!((128 : Int) == 128)) = false := rfl
    have e2 : (!((128 : Int) == 96 || ((128 : Int) == 112 || (128 : Int) == 192))) = true := rfl
    rw [e, e2]
    simp only [Bool.true_or, Bool.and_true]
    generalize fieldsB x 9 false false false = v at *
    clear e e2
    cases v
    all_goals
      cases wide
      all_goals
        go_enter Try.func51, Try.ntmps51
        go_wp2_with (go_at_call 52; refine (HF.out _).mono ?_; rintro e w1 ⟨rfl, hb⟩; have B := Lib.hid (below1 hb); clear hb)
        go_ret
        exact ⟨rfl, B.out⟩
  have HF := Lib.hid (fun W => fields_any x 9 false false true W)
  have e : (!(o == 128)) = true := by simpa using h128
  have e' : (o != 128) = true := by simpa using h128
  rw [e]
  generalize fieldsB x 9 false false true = v at *
  clear e h128
  cases v
  case false =>
    simp only [Bool.false_and]
    go_enter Try.func51, Try.ntmps51
    go_wp2_with (go_at_call 52; refine (HF.out _).mono ?_; rintro e w1 ⟨rfl, hb⟩; have B := Lib.hid (below1 hb); clear hb)
    go_ret
    exact ⟨rfl, B.out⟩
  simp only [Bool.true_and]
  by_cases hs : o = 96 ∨ o = 112 ∨ o = 192
  · have HW := Lib.hid (fun m W => rwithin_any x.imm 0 m W)
    rcases hs with rfl | rfl | rfl
    all_goals
      clear e'
      cases wide
      all_goals
        simp only [BEq.rfl, Bool.true_or, Bool.or_true, Bool.not_true, Bool.false_or, if_true, Bool.false_eq_true, if_false]
        go_enter Try.func51, Try.ntmps51
        go_wp2_with (first
          | (go_at_call 52; refine (HF.out _).mono ?_; rintro e w1 ⟨rfl, hb⟩; have B := Lib.hid (below1 hb); obtain ⟨hc, hf⟩ := bcell hb; clear hb)
          | (go_at_call 53; refine (HW.out _ _).mono ?_; rintro e w2 ⟨rfl, rfl⟩))
        go_ret
        exact ⟨rfl, B.out⟩
  · have g2 : (o != 96) = true := by simp; omega
    have g3 : (o != 112) = true := by simp; omega
    have g4 : (o != 192) = true := by simp; omega
    have e2 : (!(o == 96 || (o == 112 || o == 192))) = true := by simp; omega
    rw [e2]
    simp only [Bool.true_or]
    clear hs e2
    cases wide
    all_goals
      go_enter Try.func51, Try.ntmps51
      go_wp2_with (go_at_call 52; refine (HF.out _).mono ?_; rintro e w1 ⟨rfl, hb⟩; have B := Lib.hid (below1 hb); clear hb)
      go_ret
      exact ⟨rfl, B.out⟩
end Go.Proofs.Ytlpijnnlmgoihaa
