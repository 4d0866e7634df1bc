/- States: the document's own copy of a state: its contract. -/
import Derived.Test.YtdipmlamjjpcoaaSK
namespace Go.Proofs.Ytdipmlamjjpcoaa
open Go.RowKit
attribute [local go_sem] b_and b_or b_xor b_andNot b_low b_top b_most b_signed b_unsigned b_zero b_eq s_eq b_nzero b_neq s_neq b_max b_min s_max s_min
attribute [local go_sem ↓] Go.wp_at_zero Go.wp_at_succ

theorem own_form {w : World} {base e size : Nat} {v : Value} {n : Nat} {xs : List Value} (h : w.ownsRow base e size v n xs) : ∃ q c, v = .slice q n c := by
  rcases h.2 with ⟨rfl, rfl⟩ | ⟨g, cap, cur, rfl, _⟩
  · exact ⟨none, 0, rfl⟩
  · exact ⟨_, _, rfl⟩
theorem wp_skip {P : Program} {Q : Exit → Act → World → Prop} {K : Act → World → Prop} {a : Act} {w w' : World} {o : Oper} (hr : (execOp a.eval o).run P w = .ok .skip w') (h : K (a.put o.dst undef) w') : o.wp P a w K Q := by
  unfold Oper.wp
  rw [hr]
  exact h
theorem upC_13 : Region.ready .any opsC ((lsC 2 2 2).setIfInBounds 12 true) = [13] := by kernel_rfl
theorem upC_14 : Region.ready .any opsC (((lsC 2 2 2).setIfInBounds 12 true).setIfInBounds 13 true) = [] := by kernel_rfl
set_option maxRecDepth 100000 in
theorem cp_end (W0 : World) (A : AbA) (s : Ab) (n : Nat) (cs : List Value) (c0 c4 c8 c12 : Value) (Q : Exit → Act → World → Prop) (z0 z1 z2 v1 u1 v2 u2 v3 u3 c15 : Value) (o1 o2 o3 : Option Nat) (W : World)
    (h : Cp W0 W A s n 2 2 2 cs [z0, z1, z2] v1 u1 v2 u2 v3 u3 o1 o2 o3)
    (HQ : Q .normal (frS c0 n c4 c8 c12 A s v1 u1 v2 u2 v3 u3 (.agg #[u1, u2, u3])) (((W.setCell ⟨n + 1, 0, none⟩ u1).setCell ⟨n + 1, 1, none⟩ u2).setCell ⟨n + 1, 2, none⟩ u3)) :
    wpAnyH Try.prog .any opsC Q (fun W => Box W n cs) 2 (lsC 2 2 2) (frS c0 n c4 c8 c12 A s v1 u1 v2 u2 v3 u3 c15) W := by
  obtain ⟨q1, k1, rfl⟩ := own_form h.c1.at2.1
  obtain ⟨q2, k2, rfl⟩ := own_form h.c2.at2.1
  obtain ⟨q3, k3, rfl⟩ := own_form h.c3.at2.1
  refine ⟨fun e => absurd (upC_end.symm.trans e) (by simp), fun i hi => ?_⟩
  rw [upC_end] at hi
  obtain rfl := List.mem_singleton.1 hi
  have e0 := h.res.cell 0 _ rfl
  have e1 := h.res.cell 1 _ rfl
  have e2 := h.res.cell 2 _ rfl
  have fz := h.res.frozen
  refine wpOp_of (o := _) rfl rfl (wp_value (v := .agg #[.slice q1 s.regs.length k1, .slice q2 s.set.length k2, .slice q3 s.saved.length k3]) (w' := W) ?_ ⟨h.box, ?_⟩)
  · generalize s.regs.length = N1
    generalize s.set.length = N2
    generalize s.saved.length = N3
    show (execOp _ { dst := some 15, op := Op.build 25 #[(0, .tmp 6), (1, .tmp 10), (2, .tmp 14)], type := 25, pos := "ref.go:102", after := _, guard := none }).run _ _ = _
    simp [go_sem, execOp, frC, Act.eval]
  · refine ⟨fun e => absurd (upC_13.symm.trans e) (by simp), fun i hi => ?_⟩
    rw [upC_13] at hi
    obtain rfl := List.mem_singleton.1 hi
    refine wpOp_of (o := _) rfl rfl ?_
    have hS : Box (((W.setCell ⟨n + 1, 0, none⟩ (.slice q1 s.regs.length k1)).setCell ⟨n + 1, 1, none⟩ (.slice q2 s.set.length k2)).setCell ⟨n + 1, 2, none⟩ (.slice q3 s.saved.length k3)) n cs :=
      ((h.box.setOther (a := ⟨n + 1, 0, none⟩) (by show n + 1 ≠ n; omega) _).setOther (a := ⟨n + 1, 1, none⟩) (by show n + 1 ≠ n; omega) _).setOther (a := ⟨n + 1, 2, none⟩) (by show n + 1 ≠ n; omega) _
    have hK := And.intro hS (show wpAnyH Try.prog .any opsC Q (fun W => Box W n cs) 0 (((lsC 2 2 2).setIfInBounds 12 true).setIfInBounds 13 true) (frS c0 n c4 c8 c12 A s v1 (.slice q1 s.regs.length k1) v2 (.slice q2 s.set.length k2) v3 (.slice q3 s.saved.length k3) (.agg #[.slice q1 s.regs.length k1, .slice q2 s.set.length k2, .slice q3 s.saved.length k3])) _ from ⟨upC_14, HQ⟩)
    refine wp_skip (w' := ((W.setCell ⟨n + 1, 0, none⟩ (.slice q1 s.regs.length k1)).setCell ⟨n + 1, 1, none⟩ (.slice q2 s.set.length k2)).setCell ⟨n + 1, 2, none⟩ (.slice q3 s.saved.length k3)) ?_ hK
    clear HQ hS hK
    generalize s.regs.length = N1 at *
    generalize s.set.length = N2 at *
    generalize s.saved.length = N3 at *
    show (execOp (frC c0 n c4 (.slice A.p1 N1 A.c1) c8 (.slice A.p2 N2 A.c2) c12 (.slice A.p3 N3 A.c3) v1 (.slice q1 N1 k1) v2 (.slice q2 N2 k2) v3 (.slice q3 N3 k3) (.agg #[.slice q1 N1 k1, .slice q2 N2 k2, .slice q3 N3 k3])).eval { dst := none, op := Op.store 25 (.tmp 2) (.tmp 15), type := 0, pos := "ref.go:102", after := #[], guard := none }).run _ _ = _
    simp [go_sem, execOp, frC, Act.eval, e0, e1, e2, fz]
end Go.Proofs.Ytdipmlamjjpcoaa
