/- States: the document's own copy of a state: its three rows come in any order. -/
import Derived.Test.YtdipmlamjjpcoaaSI
namespace Go.Proofs.Ytdipmlamjjpcoaa
open Go.RowKit
attribute [local go_sem] b_and b_or b_xor b_andNot b_low b_top b_most b_signed b_unsigned b_zero b_eq s_eq b_nzero b_neq s_neq b_max b_min s_max s_min
attribute [local go_sem ↓] Go.wp_at_zero Go.wp_at_succ

noncomputable def regC : Code := ((Try.f15.body.bind (regionOf 1)).getD .skip)
def opsOf : Code → Array Oper
  | .region _ ops _ => ops
  | _ => #[]
noncomputable def opsC : Array Oper := opsOf regC
/-- which operations have come up -/
def lsC (p q r : Nat) : Array Bool := #[decide (1 ≤ p), true, true, decide (2 ≤ p), decide (1 ≤ q), true, true, decide (2 ≤ q), decide (1 ≤ r), true, true, decide (2 ≤ r), false, false]
def upC (p q r i : Nat) : Bool := (decide (i = 0) && decide (p = 0)) || (decide (i = 3) && decide (p = 1)) || (decide (i = 4) && decide (q = 0)) || (decide (i = 7) && decide (q = 1)) || (decide (i = 8) && decide (r = 0)) || (decide (i = 11) && decide (r = 1))
theorem upC_all : ((List.range 27).all fun x => decide (x = 26) || ((!(Region.ready .any opsC (lsC (x / 9) (x / 3 % 3) (x % 3))).isEmpty) && (Region.ready .any opsC (lsC (x / 9) (x / 3 % 3) (x % 3))).all (upC (x / 9) (x / 3 % 3) (x % 3)))) = true := by kernel_rfl
theorem upC_end : Region.ready .any opsC (lsC 2 2 2) = [12] := by kernel_rfl
theorem wpOp_of {P : Program} {ops : Array Oper} {Q : Exit → Act → World → Prop} {i : Nat} {K : Act → World → Prop} {a : Act} {w : World} {o : Oper} (hi : ops[i]? = some o) (hg : o.guard = none) (h : o.wp P a w K Q) : wpOp P ops Q i K a w := by
  unfold wpOp
  have hw : Region.wanted o (yielded ops a.tmps) = true := by simp [Region.wanted, hg]
  simp only [hi, hw, if_true]
  exact .inl h
theorem wp_value {P : Program} {Q : Exit → Act → World → Prop} {K : Act → World → Prop} {a : Act} {w w' : World} {o : Oper} {v : Value} (hr : (execOp a.eval o).run P w = .ok (.value v) w') (h : K (a.put o.dst v) w') : o.wp P a w K Q := by
  unfold Oper.wp
  rw [hr]
  exact h
theorem ex_append {P : Program} {a : Act} {w w' : World} {o : Oper} {v' : Value} (s x : Operand) (t : TypeId) (ho : o.op = .call { callee := .builtin .append, args := #[s, x], argTypes := #[t, t] }) (hty : o.type = t)
    (hr : (Builtin.append_ #[t, t] t #[a.eval s, a.eval x]).run P w = .ok v' w') : (execOp a.eval o).run P w = .ok (.value v') w' := by
  unfold execOp
  simp only [ho, hty, resolve, invoke, builtin, Sem.run_bind, Sem.run_pure, Result.andThen_ok, List.map_toArray, List.map_cons, List.map_nil, hr]
/-- the frame: which slots turn -/
def frC (c0 : Value) (n : Nat) (c4 c5 c8 c9 c12 c13 v1 u1 v2 u2 v3 u3 c15 : Value) : Act :=
  ⟨(c0 :: .pointer (some ⟨n, 0, none⟩) :: .pointer (some ⟨n + 1, 0, none⟩) :: v1 :: c4 :: c5 :: u1 :: v2 :: c8 :: c9 :: u2 :: v3 :: c12 :: c13 :: u3 :: c15 :: []).toArray, []⟩
theorem build_kn (a : Act) (o : Oper) (w : World) (ho : o.op = Op.buildSlice 22 0 #[]) : (execOp a.eval o).run Try.prog w = .ok (.value (.slice (some ⟨w.heap.size, 0, none⟩) 0 0)) (w.alloc (.cells #[] 33)) := by
  unfold execOp
  rw [ho]
  simp [go_sem]
theorem build_bl (a : Act) (o : Oper) (w : World) (ho : o.op = Op.buildSlice 23 0 #[]) : (execOp a.eval o).run Try.prog w = .ok (.value (.slice (some ⟨w.heap.size, 0, none⟩) 0 0)) (w.alloc (.cells #[] 4)) := by
  unfold execOp
  rw [ho]
  simp [go_sem]
/-- how far the three rows are -/
structure Cp (W0 W : World) (A : AbA) (s : Ab) (n p q r : Nat) (cs zs : List Value) (v1 u1 v2 u2 v3 u3 : Value) (o1 o2 o3 : Option Nat) : Prop where
  low : Below W0.heap.size W0 W
  box : Box W n cs
  res : Box W (n + 1) zs
  ab : AbAt W A s
  c1 : Ch W W0.heap.size 33 8 s.regs.length (knV s.regs) p v1 u1 o1
  c2 : Ch W W0.heap.size 4 1 s.set.length (blV s.set) q v2 u2 o2
  c3 : Ch W W0.heap.size 33 8 s.saved.length (knV s.saved) r v3 u3 o3
  a12 : Apt o1 o2
  a13 : Apt o1 o3
  a23 : Apt o2 o3
theorem Cp.size {W0 W : World} {A : AbA} {s : Ab} {n p q r : Nat} {cs zs : List Value} {v1 u1 v2 u2 v3 u3 : Value} {o1 o2 o3 : Option Nat} (h : Cp W0 W A s n p q r cs zs v1 u1 v2 u2 v3 u3 o1 o2 o3) : W0.heap.size ≤ W.heap.size := h.low.size
/-- the next world, where one row has turned -/
theorem Cp.go {W0 W W' : World} {A : AbA} {s : Ab} {n p q r : Nat} {cs zs : List Value} {v1 u1 v2 u2 v3 u3 : Value} {o1 o2 o3 o : Option Nat} (h : Cp W0 W A s n p q r cs zs v1 u1 v2 u2 v3 u3 o1 o2 o3)
    (h0 : AbAt W0 A s) (hz : n + 1 < W0.heap.size) (ho : ∀ k, o = some k → W0.heap.size ≤ k) (hg : W.grownBy W' o) : Below W0.heap.size W0 W' ∧ Box W' n cs ∧ Box W' (n + 1) zs ∧ AbAt W' A s := by
  have hb : Below W0.heap.size W0 W' := h.low.grown hg h.low.size ho
  have hb2 : Below W0.heap.size W W' := (Below.refl _ _).grown hg h.low.size ho
  have hk : ∀ m ds, m < W0.heap.size → Box W m ds → Box W' m ds := fun m ds hm hx =>
    ⟨Nat.lt_of_lt_of_le hx.lt hg.size, fun i u hi => (hb2.cell (p := ⟨m, i, none⟩) hm).trans (hx.cell i u hi), fun i => (hb2.frozen (p := ⟨m, i, none⟩) hm).trans (hx.frozen i)⟩
  exact ⟨hb, hk _ _ (by omega) h.box, hk _ _ hz h.res, h0.below hb⟩
theorem Cp.build1 {W0 W : World} {A : AbA} {s : Ab} {n q r : Nat} {cs zs : List Value} {v1 u1 v2 u2 v3 u3 : Value} {o1 o2 o3 : Option Nat} (h : Cp W0 W A s n 0 q r cs zs v1 u1 v2 u2 v3 u3 o1 o2 o3) (h0 : AbAt W0 A s) (hz : n + 1 < W0.heap.size) :
    Cp W0 (W.alloc (.cells #[] 33)) A s n 1 q r cs zs (.slice (some ⟨W.heap.size, 0, none⟩) 0 0) u1 v2 u2 v3 u3 (some W.heap.size) o2 o3 := by
  have hg := grown_alloc W (.cells #[] 33) none
  obtain ⟨g1, g2, g3, g4⟩ := h.go h0 hz (fun k hk => by cases hk) hg
  have t2 := h.c2.turn (a := none) (a' := some W.heap.size) (fun k hk => by cases hk) hg (.inr rfl)
  have t3 := h.c3.turn (a := none) (a' := some W.heap.size) (fun k hk => by cases hk) hg (.inr rfl)
  exact ⟨g1, g2, g3, g4, Ch.made W u1 h.size, t2.1, t3.1, t2.2, t3.2, h.a23⟩
theorem Cp.app1 {W0 W : World} {A : AbA} {s : Ab} {n q r : Nat} {cs zs : List Value} {v1 u1 v2 u2 v3 u3 : Value} {o1 o2 o3 : Option Nat} (h : Cp W0 W A s n 1 q r cs zs v1 u1 v2 u2 v3 u3 o1 o2 o3) (h0 : AbAt W0 A s) (hz : n + 1 < W0.heap.size) :
    ∃ x W' o', (Builtin.append_ #[22, 22] 22 #[v1, .slice A.p1 s.regs.length A.c1]).run Try.prog W = .ok x W' ∧ Cp W0 W' A s n 2 q r cs zs v1 x v2 u2 v3 u3 o' o2 o3 := by
  obtain ⟨x, W', o', hr, hc, hg, hn⟩ := app_kn h.c1 h.ab.r h.size A.c1
  obtain ⟨g1, g2, g3, g4⟩ := h.go h0 hz (fun k hk => (h.c1.lt hk).1) hg
  have t2 := h.c2.turn h.a12 hg hn
  have t3 := h.c3.turn h.a13 hg hn
  exact ⟨x, W', o', hr, g1, g2, g3, g4, hc, t2.1, t3.1, t2.2, t3.2, h.a23⟩
theorem Cp.build2 {W0 W : World} {A : AbA} {s : Ab} {n p r : Nat} {cs zs : List Value} {v1 u1 v2 u2 v3 u3 : Value} {o1 o2 o3 : Option Nat} (h : Cp W0 W A s n p 0 r cs zs v1 u1 v2 u2 v3 u3 o1 o2 o3) (h0 : AbAt W0 A s) (hz : n + 1 < W0.heap.size) :
    Cp W0 (W.alloc (.cells #[] 4)) A s n p 1 r cs zs v1 u1 (.slice (some ⟨W.heap.size, 0, none⟩) 0 0) u2 v3 u3 o1 (some W.heap.size) o3 := by
  have hg := grown_alloc W (.cells #[] 4) none
  obtain ⟨g1, g2, g3, g4⟩ := h.go h0 hz (fun k hk => by cases hk) hg
  have t1 := h.c1.turn (a := none) (a' := some W.heap.size) (fun k hk => by cases hk) hg (.inr rfl)
  have t3 := h.c3.turn (a := none) (a' := some W.heap.size) (fun k hk => by cases hk) hg (.inr rfl)
  exact ⟨g1, g2, g3, g4, t1.1, Ch.made W u2 h.size, t3.1, t1.2.symm, h.a13, t3.2⟩
theorem Cp.app2 {W0 W : World} {A : AbA} {s : Ab} {n p r : Nat} {cs zs : List Value} {v1 u1 v2 u2 v3 u3 : Value} {o1 o2 o3 : Option Nat} (h : Cp W0 W A s n p 1 r cs zs v1 u1 v2 u2 v3 u3 o1 o2 o3) (h0 : AbAt W0 A s) (hz : n + 1 < W0.heap.size) :
    ∃ x W' o', (Builtin.append_ #[23, 23] 23 #[v2, .slice A.p2 s.set.length A.c2]).run Try.prog W = .ok x W' ∧ Cp W0 W' A s n p 2 r cs zs v1 u1 v2 x v3 u3 o1 o' o3 := by
  obtain ⟨x, W', o', hr, hc, hg, hn⟩ := app_bl h.c2 h.ab.b h.size A.c2
  obtain ⟨g1, g2, g3, g4⟩ := h.go h0 hz (fun k hk => (h.c2.lt hk).1) hg
  have t1 := h.c1.turn h.a12.symm hg hn
  have t3 := h.c3.turn h.a23 hg hn
  exact ⟨x, W', o', hr, g1, g2, g3, g4, t1.1, hc, t3.1, t1.2.symm, h.a13, t3.2⟩
theorem Cp.build3 {W0 W : World} {A : AbA} {s : Ab} {n p q : Nat} {cs zs : List Value} {v1 u1 v2 u2 v3 u3 : Value} {o1 o2 o3 : Option Nat} (h : Cp W0 W A s n p q 0 cs zs v1 u1 v2 u2 v3 u3 o1 o2 o3) (h0 : AbAt W0 A s) (hz : n + 1 < W0.heap.size) :
    Cp W0 (W.alloc (.cells #[] 33)) A s n p q 1 cs zs v1 u1 v2 u2 (.slice (some ⟨W.heap.size, 0, none⟩) 0 0) u3 o1 o2 (some W.heap.size) := by
  have hg := grown_alloc W (.cells #[] 33) none
  obtain ⟨g1, g2, g3, g4⟩ := h.go h0 hz (fun k hk => by cases hk) hg
  have t1 := h.c1.turn (a := none) (a' := some W.heap.size) (fun k hk => by cases hk) hg (.inr rfl)
  have t2 := h.c2.turn (a := none) (a' := some W.heap.size) (fun k hk => by cases hk) hg (.inr rfl)
  exact ⟨g1, g2, g3, g4, t1.1, t2.1, Ch.made W u3 h.size, h.a12, t1.2.symm, t2.2.symm⟩
theorem Cp.app3 {W0 W : World} {A : AbA} {s : Ab} {n p q : Nat} {cs zs : List Value} {v1 u1 v2 u2 v3 u3 : Value} {o1 o2 o3 : Option Nat} (h : Cp W0 W A s n p q 1 cs zs v1 u1 v2 u2 v3 u3 o1 o2 o3) (h0 : AbAt W0 A s) (hz : n + 1 < W0.heap.size) :
    ∃ x W' o', (Builtin.append_ #[22, 22] 22 #[v3, .slice A.p3 s.saved.length A.c3]).run Try.prog W = .ok x W' ∧ Cp W0 W' A s n p q 2 cs zs v1 u1 v2 u2 v3 x o1 o2 o' := by
  obtain ⟨x, W', o', hr, hc, hg, hn⟩ := app_kn h.c3 h.ab.v h.size A.c3
  obtain ⟨g1, g2, g3, g4⟩ := h.go h0 hz (fun k hk => (h.c3.lt hk).1) hg
  have t1 := h.c1.turn h.a13.symm hg hn
  have t2 := h.c2.turn h.a23.symm hg hn
  exact ⟨x, W', o', hr, g1, g2, g3, g4, t1.1, t2.1, hc, h.a12, t1.2.symm, t2.2.symm⟩
end Go.Proofs.Ytdipmlamjjpcoaa
