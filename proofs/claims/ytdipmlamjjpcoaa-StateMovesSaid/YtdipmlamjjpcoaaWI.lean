/- Bounds: the document's own Join, Meet, Low, Size. -/
import Derived.Test.YtdipmlamjjpcoaaWH
namespace Go.Proofs.Ytdipmlamjjpcoaa
open Go.RowKit
attribute [local go_sem] b_and b_or b_xor b_andNot b_low b_top b_most b_signed b_unsigned b_zero b_eq s_eq b_nzero b_neq s_neq b_max b_min s_max s_min
attribute [local go_sem ↓] Go.wp_at_zero Go.wp_at_succ

abbrev Twelve (n : Nat) (a b : Bd) (W : World) : Prop := W.cell? ⟨n, 0, none⟩ = some (.int .u64 (U a.ul)) ∧ W.cell? ⟨n, 1, none⟩ = some (.int .u64 (U a.uh)) ∧ W.cell? ⟨n, 2, none⟩ = some (.int .i64 (S a.sl)) ∧ W.cell? ⟨n, 3, none⟩ = some (.int .i64 (S a.sh)) ∧ W.cell? ⟨n, 4, none⟩ = some (.int .u64 (U a.t.v)) ∧ W.cell? ⟨n, 5, none⟩ = some (.int .u64 (U a.t.m)) ∧ W.cell? ⟨n + 1, 0, none⟩ = some (.int .u64 (U b.ul)) ∧ W.cell? ⟨n + 1, 1, none⟩ = some (.int .u64 (U b.uh)) ∧ W.cell? ⟨n + 1, 2, none⟩ = some (.int .i64 (S b.sl)) ∧ W.cell? ⟨n + 1, 3, none⟩ = some (.int .i64 (S b.sh)) ∧ W.cell? ⟨n + 1, 4, none⟩ = some (.int .u64 (U b.t.v)) ∧ W.cell? ⟨n + 1, 5, none⟩ = some (.int .u64 (U b.t.m))
theorem Twelve.of {n : Nat} {a b : Bd} {W : World} (h1 : Box W n (bv a)) (h2 : Box W (n + 1) (bv b)) : Twelve n a b W :=
  ⟨h1.cell 0 _ rfl, h1.cell 1 _ rfl, h1.cell 2 _ rfl, h1.cell 3 _ rfl, h1.cell 4 _ rfl, h1.cell 5 _ rfl, h2.cell 0 _ rfl, h2.cell 1 _ rfl, h2.cell 2 _ rfl, h2.cell 3 _ rfl, h2.cell 4 _ rfl, h2.cell 5 _ rfl⟩
theorem box_ab (w : World) (a b : Bd) (t t' : TypeId) (o : Obj) : Box (((w.alloc (.cells #[.int .u64 (U a.ul), .int .u64 (U a.uh), .int .i64 (S a.sl), .int .i64 (S a.sh), .int .u64 (U a.t.v), .int .u64 (U a.t.m)] t)).alloc (.cells #[.int .u64 (U b.ul), .int .u64 (U b.uh), .int .i64 (S b.sl), .int .i64 (S b.sh), .int .u64 (U b.t.v), .int .u64 (U b.t.m)] t')).alloc o) w.heap.size (bv a) ∧ Box (((w.alloc (.cells #[.int .u64 (U a.ul), .int .u64 (U a.uh), .int .i64 (S a.sl), .int .i64 (S a.sh), .int .u64 (U a.t.v), .int .u64 (U a.t.m)] t)).alloc (.cells #[.int .u64 (U b.ul), .int .u64 (U b.uh), .int .i64 (S b.sl), .int .i64 (S b.sh), .int .u64 (U b.t.v), .int .u64 (U b.t.m)] t')).alloc o) (w.heap.size + 1) (bv b) :=
  ⟨((Box.new w (bv a) t rfl).alloc _).alloc _, (Box.new (w.alloc (.cells #[.int .u64 (U a.ul), .int .u64 (U a.uh), .int .i64 (S a.sl), .int .i64 (S a.sh), .int .u64 (U a.t.v), .int .u64 (U a.t.m)] t)) (bv b) t' (by simp)).alloc _⟩
theorem twelve_set6 {n : Nat} {a b : Bd} {W : World} {v0 v1 v2 v3 v4 v5 : Value} (h1 : Box W n (bv a)) (h2 : Box W (n + 1) (bv b)) :
    Twelve n a b ((((((W.setCell ⟨n + 1 + 1, 0, none⟩ v0).setCell ⟨n + 1 + 1, 1, none⟩ v1).setCell ⟨n + 1 + 1, 2, none⟩ v2).setCell ⟨n + 1 + 1, 3, none⟩ v3).setCell ⟨n + 1 + 1, 4, none⟩ v4).setCell ⟨n + 1 + 1, 5, none⟩ v5) :=
  Twelve.of (h1.far6 (by omega)) (h2.far6 (by omega))
section
variable {P : Program} {md : Region.Mode} {ops : Array Oper} {Q : Exit → Act → World → Prop} {S : World → Prop}
theorem takeNo {i : Nat} {oi : Oper} (d : Option Tmp) {fuel : Nat} {listed : Array Bool} {a : Act} {w : World} (hi : ops[i]? = some oi) (hd : oi.dst = d)
    (hs : Region.noSelect ops = true) (hf : Region.free md ops listed i = true) (hr : (Region.ready md ops listed).contains i = true)
    (hQ : ∀ c a w, Q (.panic c) (a.put d undef) w → Q (.panic c) a w) (hw : Region.wanted oi (yielded ops a.tmps) = false) (hS : S w)
    (h : wpAnyH P md ops Q S fuel (listed.setIfInBounds i true) (a.put d undef) w) : wpAnyH P md ops Q S (fuel + 1) listed a w := by
  subst hd
  exact wpAnyH_take hi hs hf hr hQ (Or.inr ⟨hw, rfl⟩) hS h
theorem takeYes {i : Nat} {oi : Oper} {v : Value} (d : Option Tmp) {fuel : Nat} {listed : Array Bool} {a : Act} {w : World} (hi : ops[i]? = some oi) (hd : oi.dst = d)
    (hs : Region.noSelect ops = true) (hf : Region.free md ops listed i = true) (hr : (Region.ready md ops listed).contains i = true)
    (hQ : ∀ c a w, Q (.panic c) (a.put d v) w → Q (.panic c) a w) (hw : Region.wanted oi (yielded ops a.tmps) = true) (hy : ∀ w, S w → (execOp a.eval oi).run P w = .ok (.value v) w) (hS : S w)
    (h : wpAnyH P md ops Q S fuel (listed.setIfInBounds i true) (a.put d v) w) : wpAnyH P md ops Q S (fuel + 1) listed a w := by
  subst hd
  exact wpAnyH_take hi hs hf hr hQ (Or.inl ⟨hw, hy⟩) hS h
end
end Go.Proofs.Ytdipmlamjjpcoaa
