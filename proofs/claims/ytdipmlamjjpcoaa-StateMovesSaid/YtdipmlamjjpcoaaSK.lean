/- States: the document's own copy of a state, walked. -/
import Derived.Test.YtdipmlamjjpcoaaSJ
namespace Go.Proofs.Ytdipmlamjjpcoaa
open Go.RowKit
attribute [local go_sem] b_and b_or b_xor b_andNot b_low b_top b_most b_signed b_unsigned b_zero b_eq s_eq b_nzero b_neq s_neq b_max b_min s_max s_min
attribute [local go_sem ↓] Go.wp_at_zero Go.wp_at_succ

abbrev frS (c0 : Value) (n : Nat) (c4 c8 c12 : Value) (A : AbA) (s : Ab) (v1 u1 v2 u2 v3 u3 c15 : Value) : Act :=
  frC c0 n c4 (.slice A.p1 s.regs.length A.c1) c8 (.slice A.p2 s.set.length A.c2) c12 (.slice A.p3 s.saved.length A.c3) v1 u1 v2 u2 v3 u3 c15
theorem up_of {p q r : Nat} (hp : p ≤ 2) (hq : q ≤ 2) (hr : r ≤ 2) (h : p + q + r < 6) : Region.ready .any opsC (lsC p q r) ≠ [] ∧ ∀ i ∈ Region.ready .any opsC (lsC p q r), upC p q r i = true := by
  have hx := List.all_eq_true.1 upC_all (p * 9 + q * 3 + r) (List.mem_range.2 (by omega))
  rw [show (p * 9 + q * 3 + r) / 9 = p by omega, show (p * 9 + q * 3 + r) / 3 % 3 = q by omega, show (p * 9 + q * 3 + r) % 3 = r by omega] at hx
  have hx := (Bool.or_eq_true _ _).mp hx
  rcases hx with hx | hx
  · have := of_decide_eq_true hx
    omega
  obtain ⟨h1, h2⟩ := (Bool.and_eq_true _ _).mp hx
  exact ⟨fun e => (by rw [e] at h1; cases h1), fun i hi => List.all_eq_true.1 h2 i hi⟩
theorem up_six {p q r i : Nat} (h : upC p q r i = true) : (i = 0 ∧ p = 0) ∨ (i = 3 ∧ p = 1) ∨ (i = 4 ∧ q = 0) ∨ (i = 7 ∧ q = 1) ∨ (i = 8 ∧ r = 0) ∨ (i = 11 ∧ r = 1) := by
  simp only [upC, Bool.or_eq_true, Bool.and_eq_true, decide_eq_true_eq] at h
  omega
set_option maxRecDepth 100000 in
theorem cp_wp (W0 : World) (A : AbA) (s : Ab) (n : Nat) (h0 : AbAt W0 A s) (hz : n + 1 < W0.heap.size) (cs zs : List Value) (c0 c4 c8 c12 : Value) (Q : Exit → Act → World → Prop)
    (HF : ∀ v1 u1 v2 u2 v3 u3 c15 o1 o2 o3 W, Cp W0 W A s n 2 2 2 cs zs v1 u1 v2 u2 v3 u3 o1 o2 o3 → wpAnyH Try.prog .any opsC Q (fun W => Box W n cs) 2 (lsC 2 2 2) (frS c0 n c4 c8 c12 A s v1 u1 v2 u2 v3 u3 c15) W) :
    ∀ (m p q r : Nat) (v1 u1 v2 u2 v3 u3 c15 : Value) (o1 o2 o3 : Option Nat) (W : World), p + q + r + m = 6 → p ≤ 2 → q ≤ 2 → r ≤ 2 → Cp W0 W A s n p q r cs zs v1 u1 v2 u2 v3 u3 o1 o2 o3 →
      wpAnyH Try.prog .any opsC Q (fun W => Box W n cs) (m + 2) (lsC p q r) (frS c0 n c4 c8 c12 A s v1 u1 v2 u2 v3 u3 c15) W := by
  intro m
  induction m with
  | zero =>
    intro p q r v1 u1 v2 u2 v3 u3 c15 o1 o2 o3 W he hp hq hr h
    obtain ⟨rfl, rfl, rfl⟩ : p = 2 ∧ q = 2 ∧ r = 2 := by omega
    exact HF _ _ _ _ _ _ _ _ _ _ _ h
  | succ m ih =>
    intro p q r v1 u1 v2 u2 v3 u3 c15 o1 o2 o3 W he hp hq hr h
    obtain ⟨hne, hup⟩ := up_of hp hq hr (by omega)
    refine ⟨fun e => absurd e hne, fun i hi => ?_⟩
    rcases up_six (hup i hi) with ⟨rfl, rfl⟩ | ⟨rfl, rfl⟩ | ⟨rfl, rfl⟩ | ⟨rfl, rfl⟩ | ⟨rfl, rfl⟩ | ⟨rfl, rfl⟩
    · have h' := h.build1 h0 hz
      refine wpOp_of (o := _) rfl rfl (wp_value (build_kn _ _ _ rfl) ⟨h'.box, ?_⟩)
      exact ih 1 q r _ u1 v2 u2 v3 u3 c15 _ _ _ _ (by omega) (by omega) (by omega) (by omega) h'
    · obtain ⟨x, W', o', hr', h'⟩ := h.app1 h0 hz
      refine wpOp_of (o := _) rfl rfl (wp_value (ex_append (.tmp 3) (.tmp 5) 22 rfl rfl hr') ⟨h'.box, ?_⟩)
      exact ih 2 q r v1 x v2 u2 v3 u3 c15 _ _ _ _ (by omega) (by omega) (by omega) (by omega) h'
    · have h' := h.build2 h0 hz
      refine wpOp_of (o := _) rfl rfl (wp_value (build_bl _ _ _ rfl) ⟨h'.box, ?_⟩)
      exact ih p 1 r v1 u1 _ u2 v3 u3 c15 _ _ _ _ (by omega) (by omega) (by omega) (by omega) h'
    · obtain ⟨x, W', o', hr', h'⟩ := h.app2 h0 hz
      refine wpOp_of (o := _) rfl rfl (wp_value (ex_append (.tmp 7) (.tmp 9) 23 rfl rfl hr') ⟨h'.box, ?_⟩)
      exact ih p 2 r v1 u1 v2 x v3 u3 c15 _ _ _ _ (by omega) (by omega) (by omega) (by omega) h'
    · have h' := h.build3 h0 hz
      refine wpOp_of (o := _) rfl rfl (wp_value (build_kn _ _ _ rfl) ⟨h'.box, ?_⟩)
      exact ih p q 1 v1 u1 v2 u2 _ u3 c15 _ _ _ _ (by omega) (by omega) (by omega) (by omega) h'
    · obtain ⟨x, W', o', hr', h'⟩ := h.app3 h0 hz
      refine wpOp_of (o := _) rfl rfl (wp_value (ex_append (.tmp 11) (.tmp 13) 22 rfl rfl hr') ⟨h'.box, ?_⟩)
      exact ih p q 2 v1 u1 v2 u2 v3 x c15 _ _ _ _ (by omega) (by omega) (by omega) (by omega) h'
end Go.Proofs.Ytdipmlamjjpcoaa
