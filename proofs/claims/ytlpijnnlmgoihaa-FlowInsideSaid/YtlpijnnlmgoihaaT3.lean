/- Contract of the document's own Check. -/
import Derived.Test.YtlpijnnlmgoihaaT2
namespace Go.Proofs.Ytlpijnnlmgoihaa
open Go.RowKit M

theorem rins_v (x : In) (hx : Bd x) (w : World) : Calls Try.prog 41 #[.agg #[.int .i64 x.op, .int .i64 x.dst, .int .i64 x.src, .int .i64 x.off, .int .i64 x.imm, .int .u64 x.wide]] w fun e w' => e = .returned (.bool (insB x)) ∧ Below w.heap.size w w' := by
  rw [ins_same x hx]; exact rins_any x hx w
theorem place_no {l : List In} {N : Nat} (hN : l.length = N) {Y : Int} (h : placeB l Y = false) : Y < 0 ∨ (N : Int) ≤ Y ∨ ((0 ≤ Y ∧ Y < (N : Int)) ∧ holeB l Y = true) := by
  unfold placeB at h
  rw [hN] at h
  by_cases h0 : 0 ≤ Y
  · by_cases h1 : Y < (N : Int)
    · rw [decide_eq_true ⟨h0, h1⟩] at h
      exact .inr (.inr ⟨⟨h0, h1⟩, by simpa using h⟩)
    · exact .inr (.inl (by omega))
  · exact .inl (by omega)
theorem place_yes {l : List In} {N : Nat} (hN : l.length = N) {Y : Int} (h : placeB l Y = true) : 0 ≤ Y ∧ Y < (N : Int) ∧ holeB l Y = false := by
  obtain ⟨⟨a, b⟩, c⟩ := placeB_true.1 h
  exact ⟨a, by omega, c⟩
/-- why an instruction may not stand there -/
def whyB (l : List In) (k : Nat) : Prop := insB (l.getD k z) = false ∨ ((l.getD k z).op == 24) = true ∧ (l.length ≤ k + 1 ∨ (k + 1 < l.length ∧ eqB (l.getD (k + 1) z) z = false))
theorem wide_no {l : List In} {k : Nat} (h : wideOk l k = false) : ((l.getD k z).op == 24) = true ∧ (l.length ≤ k + 1 ∨ (k + 1 < l.length ∧ eqB (l.getD (k + 1) z) z = false)) := by
  unfold wideOk blankB at h
  rw [Bool.or_eq_false_iff] at h
  refine ⟨by simpa using h.1, ?_⟩
  by_cases hk : k + 1 < l.length
  · refine .inr ⟨hk, ?_⟩
    have h2 := h.2
    rw [decide_eq_true (show (k : Int) + 1 < (l.length : Int) by omega), Bool.true_and, show ((k : Int) + 1).toNat = k + 1 by omega] at h2
    exact h2
  · exact .inl (by omega)
theorem wide_yes {l : List In} {k : Nat} (h : wideOk l k = true) : ((l.getD k z).op == 24) = false ∨ (((l.getD k z).op == 24) = true ∧ k + 1 < l.length ∧ eqB (l.getD (k + 1) z) z = true) := by
  unfold wideOk blankB at h
  cases hq : (l.getD k z).op == 24
  · exact .inl rfl
  · rw [hq] at h
    simp only [Bool.not_true, Bool.false_or, Bool.and_eq_true, decide_eq_true_eq] at h
    refine .inr ⟨rfl, by omega, ?_⟩
    have h2 := h.2
    rw [show ((k : Int) + 1).toNat = k + 1 by omega] at h2
    exact h2
theorem bad_ins {l : List In} {k : Nat} (hh : holeB l k = false) (h : insB (l.getD k z) = false) : badI l k = true := by
  rw [badI_may hh]; unfold mayB; rw [h]; rfl
theorem bad_wide {l : List In} {k : Nat} (hh : holeB l k = false) (h : wideOk l k = false) : badI l k = true := by
  rw [badI_may hh]; unfold mayB; rw [h]; simp
theorem bad_succ {l : List In} {k : Nat} (hh : holeB l k = false) {m : Nat} (hm : m < (succL l k).length) (h : placeB l ((succL l k).getD m 0) = false) : badI l k = true := by
  rw [badI_may hh]; unfold mayB; rw [all_no hm h]; simp
theorem bad_none {l : List In} {k : Nat} (hh : holeB l k = false) (h1 : insB (l.getD k z) = true) (h2 : wideOk l k = true) (h3 : ∀ m, m < (succL l k).length → placeB l ((succL l k).getD m 0) = true) : badI l k = false := by
  rw [badI_may hh]; unfold mayB; rw [h1, h2, all_yes h3]; rfl
end Go.Proofs.Ytlpijnnlmgoihaa
