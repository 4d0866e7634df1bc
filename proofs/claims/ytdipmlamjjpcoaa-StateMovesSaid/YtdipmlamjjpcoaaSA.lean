/- States: rows of what is known, and of bools, that lie in memory. -/
import Derived.Test.YtdipmlamjjpcoaaGP
import Derived.Test.YtdipmlamjjpcoaaWK
import Derived.Laws.StructEq
namespace Go.Proofs.Ytdipmlamjjpcoaa
open Go.RowKit
attribute [local go_sem] b_and b_or b_xor b_andNot b_low b_top b_most b_signed b_unsigned b_zero b_eq s_eq b_nzero b_neq s_neq b_max b_min s_max s_min
attribute [local go_sem ↓] Go.wp_at_zero Go.wp_at_succ

/-- a row of what is known lies in memory -/
structure KnAt (w : World) (q : Option Addr) (l : List Kn) : Prop where
  small : l.length * 64 ≤ 140737488351232
  cells : ∀ i, i < l.length → ∃ b off, q = some ⟨b, off, none⟩ ∧ b < w.heap.size ∧ w.cell? ⟨b, off + i * 8, none⟩ = some (.int .i64 ((rg l i)).kind) ∧ w.cell? ⟨b, off + i * 8 + 1, none⟩ = some (.int .u64 (U ((rg l i)).num.ul)) ∧ w.cell? ⟨b, off + i * 8 + 2, none⟩ = some (.int .u64 (U ((rg l i)).num.uh)) ∧ w.cell? ⟨b, off + i * 8 + 3, none⟩ = some (.int .i64 (S ((rg l i)).num.sl)) ∧ w.cell? ⟨b, off + i * 8 + 4, none⟩ = some (.int .i64 (S ((rg l i)).num.sh)) ∧ w.cell? ⟨b, off + i * 8 + 5, none⟩ = some (.int .u64 (U ((rg l i)).num.t.v)) ∧ w.cell? ⟨b, off + i * 8 + 6, none⟩ = some (.int .u64 (U ((rg l i)).num.t.m)) ∧ w.cell? ⟨b, off + i * 8 + 7, none⟩ = some (.int .i64 ((rg l i)).reg)
theorem KnAt.below {w w' : World} {q : Option Addr} {l : List Kn} (h : KnAt w q l) (hb : Below w.heap.size w w') : KnAt w' q l :=
  ⟨h.small, fun i hi => by
    obtain ⟨b, off, hp, hbl, h0, h1, h2, h3, h4, h5, h6, h7⟩ := h.cells i hi
    exact ⟨b, off, hp, Nat.lt_of_lt_of_le hbl hb.size, (hb.cell (p := ⟨b, off + i * 8, none⟩) hbl).trans h0, (hb.cell (p := ⟨b, off + i * 8 + 1, none⟩) hbl).trans h1, (hb.cell (p := ⟨b, off + i * 8 + 2, none⟩) hbl).trans h2, (hb.cell (p := ⟨b, off + i * 8 + 3, none⟩) hbl).trans h3, (hb.cell (p := ⟨b, off + i * 8 + 4, none⟩) hbl).trans h4, (hb.cell (p := ⟨b, off + i * 8 + 5, none⟩) hbl).trans h5, (hb.cell (p := ⟨b, off + i * 8 + 6, none⟩) hbl).trans h6, (hb.cell (p := ⟨b, off + i * 8 + 7, none⟩) hbl).trans h7⟩⟩
/-- bools lie in memory -/
structure BoolsAt (w : World) (q : Option Addr) (xs : List Bool) : Prop where
  small : xs.length ≤ 140737488351232
  cells : ∀ i, i < xs.length → ∃ b off, q = some ⟨b, off, none⟩ ∧ b < w.heap.size ∧ w.cell? ⟨b, off + i, none⟩ = some (.bool (st xs i))
theorem BoolsAt.below {w w' : World} {q : Option Addr} {l : List Bool} (h : BoolsAt w q l) (hb : Below w.heap.size w w') : BoolsAt w' q l :=
  ⟨h.small, fun i hi => by
    obtain ⟨b, off, hp, hbl, h0⟩ := h.cells i hi
    exact ⟨b, off, hp, Nat.lt_of_lt_of_le hbl hb.size, (hb.cell (p := ⟨b, off + i, none⟩) hbl).trans h0⟩⟩
/-- where a state's three rows lie -/
structure AbA where
  p1 : Option Addr
  p2 : Option Addr
  p3 : Option Addr
  c1 : Nat
  c2 : Nat
  c3 : Nat
/-- a state lies in memory -/
structure AbAt (w : World) (A : AbA) (s : Ab) : Prop where
  r : KnAt w A.p1 s.regs
  b : BoolsAt w A.p2 s.set
  v : KnAt w A.p3 s.saved
  cap : s.regs.length ≤ A.c1 ∧ s.set.length ≤ A.c2 ∧ s.saved.length ≤ A.c3
theorem AbAt.below {w w' : World} {A : AbA} {s : Ab} (h : AbAt w A s) (hb : Below w.heap.size w w') : AbAt w' A s := ⟨h.r.below hb, h.b.below hb, h.v.below hb, h.cap⟩
theorem AbAt.alloc {w : World} {A : AbA} {s : Ab} (h : AbAt w A s) (o : Obj) : AbAt (w.alloc o) A s := h.below ((Below.refl _ _).alloc (Nat.le_refl _) o)
theorem Kn.eq_iff {x y : Kn} : x = y ↔ x.kind = y.kind ∧ x.num = y.num ∧ x.reg = y.reg := by
  cases x; cases y; simp
theorem eqK (x y : Kn) (w : World) : (binOp .eql 33 (.agg #[.int .i64 x.kind, .int .u64 (U x.num.ul), .int .u64 (U x.num.uh), .int .i64 (S x.num.sl), .int .i64 (S x.num.sh), .int .u64 (U x.num.t.v), .int .u64 (U x.num.t.m), .int .i64 x.reg]) (.agg #[.int .i64 y.kind, .int .u64 (U y.num.ul), .int .u64 (U y.num.uh), .int .i64 (S y.num.sl), .int .i64 (S y.num.sh), .int .u64 (U y.num.t.v), .int .u64 (U y.num.t.m), .int .i64 y.reg])).run Try.prog w = .ok (.bool (decide (x = y))) w := by
  simp only [Kn.eq_iff, Bd.eq_iff]
  simp [go_sem]
  repeat' split
  all_goals simp_all
theorem eqK0 (x : Kn) (w : World) : (binOp .eql 33 (.agg #[.int .i64 x.kind, .int .u64 (U x.num.ul), .int .u64 (U x.num.uh), .int .i64 (S x.num.sl), .int .i64 (S x.num.sh), .int .u64 (U x.num.t.v), .int .u64 (U x.num.t.m), .int .i64 x.reg]) (.agg #[.int .i64 0, .int .u64 0, .int .u64 0, .int .i64 0, .int .i64 0, .int .u64 0, .int .u64 0, .int .i64 0])).run Try.prog w = .ok (.bool (decide (x = kzero))) w := eqK x kzero w
end Go.Proofs.Ytdipmlamjjpcoaa
