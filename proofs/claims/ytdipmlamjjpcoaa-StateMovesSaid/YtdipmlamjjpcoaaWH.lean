/- Bounds: the document's own questions: Check, In, Within. -/
import Derived.Test.YtdipmlamjjpcoaaWG
namespace Go.Proofs.Ytdipmlamjjpcoaa
open Go.RowKit
attribute [local go_sem] b_and b_or b_xor b_andNot b_low b_top b_most b_signed b_unsigned b_zero b_eq s_eq b_nzero b_neq s_neq b_max b_min s_max s_min
attribute [local go_sem ↓] Go.wp_at_zero Go.wp_at_succ

theorem bcheck_no {b : Bd} (h : ¬ (U b.ul ≤ U b.uh ∧ S b.sl ≤ S b.sh)) : bcheck b = false := by
  cases hc : bcheck b with
  | false => rfl
  | true => exact absurd (bcheck_iff.1 hc).1 (fun ⟨h1, h2⟩ => h ⟨by unfold U; omega, h2⟩)
theorem bcheck_yes {b : Bd} (h : U b.ul ≤ U b.uh ∧ S b.sl ≤ S b.sh) : bcheck b = tcheck b.t := by
  unfold U S at h
  unfold bcheck
  rw [decide_eq_true (by omega), decide_eq_true h.2]; rfl
theorem bin_no {b : Bd} {x : B} (h : ¬ (U b.ul ≤ U x ∧ U x ≤ U b.uh ∧ S b.sl ≤ S x ∧ S x ≤ S b.sh)) : bin b x = false := by
  cases hc : bin b x with
  | false => rfl
  | true =>
    have := (bin_iff.1 hc).1
    unfold U S at h
    exact absurd this (by omega)
theorem bin_yes {b : Bd} {x : B} (h : U b.ul ≤ U x ∧ U x ≤ U b.uh ∧ S b.sl ≤ S x ∧ S x ≤ S b.sh) : bin b x = tin b.t x := by
  unfold U S at h
  unfold bin uinB sinB
  rw [decide_eq_true (by omega), decide_eq_true (by omega), decide_eq_true (by omega), decide_eq_true (by omega)]; rfl
theorem bwithin_no {a b : Bd} (h : ¬ ((U a.ul ≤ U b.ul ∧ U b.ul ≤ U a.uh) ∧ (U a.ul ≤ U b.uh ∧ U b.uh ≤ U a.uh) ∧ (S a.sl ≤ S b.sl ∧ S b.sl ≤ S a.sh) ∧ S a.sl ≤ S b.sh ∧ S b.sh ≤ S a.sh)) : bwithin a b = false := by
  cases hc : bwithin a b with
  | false => rfl
  | true =>
    unfold bwithin uinB sinB at hc
    simp only [Bool.and_eq_true, decide_eq_true_eq] at hc
    unfold U S at h
    exact absurd hc (by omega)
theorem bwithin_yes {a b : Bd} (h : (U a.ul ≤ U b.ul ∧ U b.ul ≤ U a.uh) ∧ (U a.ul ≤ U b.uh ∧ U b.uh ≤ U a.uh) ∧ (S a.sl ≤ S b.sl ∧ S b.sl ≤ S a.sh) ∧ S a.sl ≤ S b.sh ∧ S b.sh ≤ S a.sh) : bwithin a b = twithin a.t b.t := by
  unfold U S at h
  unfold bwithin uinB sinB
  rw [decide_eq_true (by omega), decide_eq_true (by omega), decide_eq_true (by omega), decide_eq_true (by omega), decide_eq_true (by omega), decide_eq_true (by omega), decide_eq_true (by omega), decide_eq_true (by omega)]; rfl
theorem ret_bool {a b : Bool} (h : b = a) : Ending.returned (.bool a) = .returned (.bool b) := by rw [h]
theorem rbcheck_any (b : Bd) (w : World) : Calls Try.prog 29 #[.agg #[.int .u64 (U b.ul), .int .u64 (U b.uh), .int .i64 (S b.sl), .int .i64 (S b.sh), .int .u64 (U b.t.v), .int .u64 (U b.t.m)]] w fun e w' => e = .returned (.bool (bcheck b)) ∧ Below w.heap.size w w' := by
  have H := Lib.hid (fun W => rtcheck_any b.t W)
  generalize hv : tcheck b.t = v at *
  have HV := Lib.hid hv
  clear hv
  go_enter Try.func29, Try.ntmps29
  go_wp2_with (go_at_call 52; refine (H.out _).mono ?_; rintro e w1 ⟨rfl, hb⟩; have B1 := Lib.hid (bl1 hb).1; clear hb)
  all_goals go_ret
  all_goals first
    | exact ⟨ret_bool (bcheck_no (by omega)), b1⟩
    | exact ⟨ret_bool ((bcheck_yes (by omega)).trans HV.out), B1.out⟩
end Go.Proofs.Ytdipmlamjjpcoaa
