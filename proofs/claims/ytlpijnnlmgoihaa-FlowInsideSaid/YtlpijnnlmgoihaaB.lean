/- Contracts of Alu and Jump, on both sides. -/
import Derived.Test.YtlpijnnlmgoihaaMA
namespace Go.Proofs.Ytlpijnnlmgoihaa
open Go.RowKit M

def opnB (op : Int) : Bool := if op - op % 16 = 128 then !rg op else inB (op - op % 16) 0 192
def condB (c : Int) : Bool := if c = 0 ∨ c = 128 ∨ c = 144 then false else inB c 16 208
set_option maxHeartbeats 400000 in
theorem isOp_any (op : Int) (w : World) (h0 : -9223372036854775808 ≤ op) (h1 : op ≤ 9223372036854775807) : Calls Try.prog 86 #[.int .i64 op] w fun e w' => e = .returned (.bool (opnB op)) ∧ w = w' := by
  have HH := Lib.hid (fun W => high_any op W h0 h1)
  unfold opnB
  obtain ⟨c, hc⟩ : ∃ c, op - op % 16 = c := ⟨_, rfl⟩
  rw [hc] at HH ⊢
  clear hc h0 h1
  by_cases h : c = 128
  · subst h
    have HR := Lib.hid (fun W => byReg_any op W)
    generalize rg op = r at *
    go_enter Try.func86, Try.ntmps86
    go_wp2_with (first
      | (go_at_call 62; refine (HH.out _).mono ?_; rintro e w1 ⟨rfl, rfl⟩)
      | (go_at_call 88; refine (HR.out _).mono ?_; rintro e w1 ⟨rfl, rfl⟩))
    go_ret
    exact ⟨ret_bool (by simp), rfl⟩
  · have he : (c == 128) = false := by simpa using h
    by_cases hz : 0 ≤ c
    · have hi : inB c 0 192 = decide (c ≤ 192) := by unfold inB; simp [hz]
      rw [if_neg h, hi]
      clear h hi
      go_enter Try.func86, Try.ntmps86
      go_wp2_with (go_at_call 62; refine (HH.out _).mono ?_; rintro e w1 ⟨rfl, rfl⟩)
      go_ret
      exact ⟨rfl, rfl⟩
    · have hi : inB c 0 192 = false := by rw [inB_false]; omega
      rw [if_neg h, hi]
      clear h hi
      go_enter Try.func86, Try.ntmps86
      go_wp2_with (go_at_call 62; refine (HH.out _).mono ?_; rintro e w1 ⟨rfl, rfl⟩)
      go_ret
      exact ⟨rfl, rfl⟩
theorem isOp_is {v : Bool} (op : Int) (w : World) (h0 : -9223372036854775808 ≤ op) (h1 : op ≤ 9223372036854775807) (h : opnB op = v) : Calls Try.prog 86 #[.int .i64 op] w fun e w' => e = .returned (.bool v) ∧ w = w' := by
  rw [← h]; exact isOp_any op w h0 h1
set_option maxHeartbeats 400000 in
theorem isCond_any (c : Int) (w : World) : Calls Try.prog 61 #[.int .i64 c] w fun e w' => e = .returned (.bool (condB c)) ∧ w = w' := by
  unfold condB
  by_cases h : c = 0 ∨ c = 128 ∨ c = 144
  · rw [if_pos h]
    rcases h with rfl | rfl | rfl
    all_goals
      go_enter Try.func61, Try.ntmps61
      go_wp2
      go_ret
      exact ⟨rfl, rfl⟩
  · rw [if_neg h]
    have e0 : (c == 0) = false := by simp; omega
    have e1 : (c == 128) = false := by simp; omega
    have e2 : (c == 144) = false := by simp; omega
    by_cases hz : 16 ≤ c
    · have hi : inB c 16 208 = decide (c ≤ 208) := by unfold inB; simp [hz]
      rw [hi]
      clear h hi
      go_enter Try.func61, Try.ntmps61
      go_wp2
      go_ret
      exact ⟨rfl, rfl⟩
    · have hi : inB c 16 208 = false := by rw [inB_false]; omega
      rw [hi]
      clear h hi
      go_enter Try.func61, Try.ntmps61
      go_wp2
      go_ret
      exact ⟨rfl, rfl⟩
theorem isCond_is {v : Bool} (c : Int) (w : World) (h : condB c = v) : Calls Try.prog 61 #[.int .i64 c] w fun e w' => e = .returned (.bool v) ∧ w = w' := by
  rw [← h]; exact isCond_any c w
def three (a : Int) (b c : Bool) : Value := .tuple #[.int .i64 a, .bool b, .bool c]
def AluP (op : Int) (w : World) (e : Ending) (w' : World) : Prop := e = .returned (.tuple #[.int .i64 (if aluB op = true then op - op % 16 else 0), .bool (aluB op && decide (op % 8 = 7)), .bool (aluB op)]) ∧ w = w'
def JmpP (op : Int) (w : World) (e : Ending) (w' : World) : Prop := e = .returned (.tuple #[.int .i64 (if jmpB op = true then op - op % 16 else 0), .bool (jmpB op && decide (op % 8 = 5)), .bool (jmpB op)]) ∧ w = w'
theorem aluB_split (op : Int) : aluB op = ((op % 8 == 4 || op % 8 == 7) && opnB op) := by
  unfold aluB opnB rg inB
  rw [Bool.eq_iff_iff]
  by_cases h : op - op % 16 = 128
  · rw [if_pos h]; simp; omega
  · rw [if_neg h]; simp; omega
theorem jmpB_split (op : Int) : jmpB op = ((op % 8 == 5 || op % 8 == 6) && condB (op - op % 16)) := by
  unfold jmpB condB inB
  rw [Bool.eq_iff_iff]
  by_cases h : op - op % 16 = 0 ∨ op - op % 16 = 128 ∨ op - op % 16 = 144
  · rw [if_pos h]; simp; omega
  · rw [if_neg h]; simp; omega

set_option maxHeartbeats 1000000 in
theorem alu_any (op : Int) (w : World) (h0 : -9223372036854775808 ≤ op) (h1 : op ≤ 9223372036854775807) : Calls Try.prog 69 #[.int .i64 op] w (AluP op w) := by
  have HC := Lib.hid (fun W => class_any op W)
  have HH := Lib.hid (fun W => high_any op W h0 h1)
  have HO := Lib.hid (fun W => isOp_any op W h0 h1)
  unfold AluP
  rw [aluB_split]
  obtain ⟨c, hc⟩ : ∃ c, op % 8 = c := ⟨_, rfl⟩
  obtain ⟨H, hH⟩ : ∃ H, op - op % 16 = H := ⟨_, rfl⟩
  rw [hc] at HC ⊢
  rw [hH] at HH ⊢
  generalize opnB op = b at *
  clear hc hH h0 h1
  by_cases h7 : c = 7
  · subst h7
    cases b
    all_goals
      go_enter Try.func69, Try.ntmps69
      go_wp2_with (first 
        | (go_at_call 60; refine (HC.out _).mono ?_; rintro e w1 ⟨rfl, rfl⟩)
        | (go_at_call 86; refine (HO.out _).mono ?_; rintro e w1 ⟨rfl, rfl⟩)
        | (go_at_call 62; refine (HH.out _).mono ?_; rintro e w1 ⟨rfl, rfl⟩))
      exact bodyPost_ret (by simp [results, Try.results69, go_sem]) rfl ⟨rfl, rfl⟩
  · have e7 : (c == 7) = false := by simpa using h7
    by_cases h4 : c = 4
    · subst h4
      clear e7 h7
      cases b
      all_goals
        go_enter Try.func69, Try.ntmps69
        go_wp2_with (first 
        | (go_at_call 60; refine (HC.out _).mono ?_; rintro e w1 ⟨rfl, rfl⟩)
        | (go_at_call 86; refine (HO.out _).mono ?_; rintro e w1 ⟨rfl, rfl⟩)
        | (go_at_call 62; refine (HH.out _).mono ?_; rintro e w1 ⟨rfl, rfl⟩))
        exact bodyPost_ret (by simp [results, Try.results69, go_sem]) rfl ⟨rfl, rfl⟩
    · have e4 : (c == 4) = false := by simpa using h4
      have hb : ((c == 4 || c == 7) && b) = false := by rw [e4, e7]; rfl
      rw [hb]
      clear hb h4 h7
      go_enter Try.func69, Try.ntmps69
      go_wp2_with (first 
        | (go_at_call 60; refine (HC.out _).mono ?_; rintro e w1 ⟨rfl, rfl⟩)
        | (go_at_call 86; refine (HO.out _).mono ?_; rintro e w1 ⟨rfl, rfl⟩)
        | (go_at_call 62; refine (HH.out _).mono ?_; rintro e w1 ⟨rfl, rfl⟩))
      exact bodyPost_ret (by simp [results, Try.results69, go_sem]) rfl ⟨rfl, rfl⟩

set_option maxHeartbeats 1000000 in
theorem jump_any (op : Int) (w : World) (h0 : -9223372036854775808 ≤ op) (h1 : op ≤ 9223372036854775807) : Calls Try.prog 45 #[.int .i64 op] w (JmpP op w) := by
  have HC := Lib.hid (fun W => class_any op W)
  have HH := Lib.hid (fun W => high_any op W h0 h1)
  have HO := Lib.hid (fun W => isCond_any (op - op % 16) W)
  unfold JmpP
  rw [jmpB_split]
  obtain ⟨c, hc⟩ : ∃ c, op % 8 = c := ⟨_, rfl⟩
  obtain ⟨H, hH⟩ : ∃ H, op - op % 16 = H := ⟨_, rfl⟩
  rw [hc] at HC ⊢
  rw [hH] at HH ⊢ HO
  generalize condB H = b at *
  clear hc hH h0 h1
  by_cases h7 : c = 5
  · subst h7
    cases b
    all_goals
      go_enter Try.func45, Try.ntmps45
      go_wp2_with (first 
        | (go_at_call 60; refine (HC.out _).mono ?_; rintro e w1 ⟨rfl, rfl⟩)
        | (go_at_call 61; refine (HO.out _).mono ?_; rintro e w1 ⟨rfl, rfl⟩)
        | (go_at_call 62; refine (HH.out _).mono ?_; rintro e w1 ⟨rfl, rfl⟩))
      exact bodyPost_ret (by simp [results, Try.results45, go_sem]) rfl ⟨rfl, rfl⟩
  · have e7 : (c == 5) = false := by simpa using h7
    by_cases h4 : c = 6
    · subst h4
      clear e7 h7
      cases b
      all_goals
        go_enter Try.func45, Try.ntmps45
        go_wp2_with (first 
        | (go_at_call 60; refine (HC.out _).mono ?_; rintro e w1 ⟨rfl, rfl⟩)
        | (go_at_call 61; refine (HO.out _).mono ?_; rintro e w1 ⟨rfl, rfl⟩)
        | (go_at_call 62; refine (HH.out _).mono ?_; rintro e w1 ⟨rfl, rfl⟩))
        exact bodyPost_ret (by simp [results, Try.results45, go_sem]) rfl ⟨rfl, rfl⟩
    · have e4 : (c == 6) = false := by simpa using h4
      have hb : ((c == 5 || c == 6) && b) = false := by rw [e7, e4]; rfl
      rw [hb]
      clear hb h4 h7
      go_enter Try.func45, Try.ntmps45
      go_wp2_with (first 
        | (go_at_call 60; refine (HC.out _).mono ?_; rintro e w1 ⟨rfl, rfl⟩)
        | (go_at_call 61; refine (HO.out _).mono ?_; rintro e w1 ⟨rfl, rfl⟩)
        | (go_at_call 62; refine (HH.out _).mono ?_; rintro e w1 ⟨rfl, rfl⟩))
      exact bodyPost_ret (by simp [results, Try.results45, go_sem]) rfl ⟨rfl, rfl⟩
end Go.Proofs.Ytlpijnnlmgoihaa
