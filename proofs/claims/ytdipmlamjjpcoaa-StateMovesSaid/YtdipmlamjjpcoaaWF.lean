/- Bounds: the document's own Tidy. -/
import Derived.Test.YtdipmlamjjpcoaaWE
import Derived.Deep.DeepCutAuto
namespace Go.Proofs.Ytdipmlamjjpcoaa
open Go.RowKit
attribute [local go_sem] b_and b_or b_xor b_andNot b_low b_top b_most b_signed b_unsigned b_zero b_eq s_eq b_nzero b_neq s_neq b_max b_min s_max s_min
attribute [local go_sem ↓] Go.wp_at_zero Go.wp_at_succ

/-- a box holds these cells -/
structure Box (W : World) (b : Nat) (cs : List Value) : Prop where
  lt : b < W.heap.size
  cell : ∀ i u, cs[i]? = some u → W.cell? ⟨b, i, none⟩ = some u
  frozen : ∀ i, W.frozen? ⟨b, i, none⟩ = false
theorem Box.next {W W' : World} {b : Nat} {cs : List Value} (h : Box W b cs) (hb : Below W.heap.size W W') : Box W' b cs :=
  ⟨Nat.lt_of_lt_of_le h.lt hb.size, fun i u hi => (hb.cell (p := ⟨b, i, none⟩) h.lt).trans (h.cell i u hi), fun i => (hb.frozen (p := ⟨b, i, none⟩) h.lt).trans (h.frozen i)⟩
theorem Box.alloc {W : World} {b : Nat} {cs : List Value} (h : Box W b cs) (o : Obj) : Box (W.alloc o) b cs := h.next ((Below.refl _ _).alloc (Nat.le_refl _) o)
theorem Box.drew {W : World} {b : Nat} {cs : List Value} (h : Box W b cs) : Box W.drew b cs := h.next (Below.refl _ _).drew
theorem Box.new (W : World) (cs : List Value) (t : TypeId) {b : Nat} (hb : W.heap.size = b) : Box (W.alloc (.cells cs.toArray t)) b cs := by
  subst hb
  exact ⟨by simp, fun i u hi => cell_new W (by simpa using hi), fun i => World.frozen?_alloc_new _ _ _ i⟩
theorem Box.setOther {W : World} {b : Nat} {cs : List Value} (h : Box W b cs) {a : Addr} (ha : a.block ≠ b) (v : Value) : Box (W.setCell a v) b cs :=
  ⟨by simpa [World.setCell] using h.lt, fun i u hi => (World.cell?_setCell_other _ _ _ _ (fun e => ha (congrArg Addr.block e))).trans (h.cell i u hi), fun i => (World.frozen?_setCell ..).trans (h.frozen i)⟩
theorem Box.set {W : World} {b : Nat} {cs : List Value} (h : Box W b cs) {i : Nat} (hi : i < cs.length) (v : Value) : Box (W.setCell ⟨b, i, none⟩ v) b (cs.set i v) := by
  refine ⟨by simpa [World.setCell] using h.lt, fun j u hj => ?_, fun j => (World.frozen?_setCell ..).trans (h.frozen j)⟩
  by_cases e : j = i
  · subst e
    have e2 : u = v := by simpa [hi] using hj.symm
    subst e2
    exact World.cell?_setCell_same _ _ _ (h.cell j _ (List.getElem?_eq_getElem hi))
  · rw [List.getElem?_set_ne (fun h => e h.symm)] at hj
    exact (World.cell?_setCell_other _ _ _ _ (fun e' => e (congrArg Addr.off e').symm)).trans (h.cell j u hj)
theorem Box.six {W : World} {n : Nat} {v0 v1 v2 v3 v4 v5 : Value} (h : Box W n [v0, v1, v2, v3, v4, v5]) :
    (W.cell? ⟨n, 0, none⟩ = some v0 ∧ W.cell? ⟨n, 1, none⟩ = some v1 ∧ W.cell? ⟨n, 2, none⟩ = some v2 ∧ W.cell? ⟨n, 3, none⟩ = some v3 ∧ W.cell? ⟨n, 4, none⟩ = some v4 ∧ W.cell? ⟨n, 5, none⟩ = some v5) ∧ (∀ i, W.frozen? ⟨n, i, none⟩ = false) ∧ n < W.heap.size :=
  ⟨⟨h.cell 0 _ rfl, h.cell 1 _ rfl, h.cell 2 _ rfl, h.cell 3 _ rfl, h.cell 4 _ rfl, h.cell 5 _ rfl⟩, h.frozen, h.lt⟩
theorem Box.set6 {W : World} {n : Nat} {v0 v1 v2 v3 v4 v5 : Value} {u0 u1 u2 u3 u4 u5 : Value} (h : Box W n [v0, v1, v2, v3, v4, v5]) :
    Box ((((((W.setCell ⟨n, 0, none⟩ u0).setCell ⟨n, 1, none⟩ u1).setCell ⟨n, 2, none⟩ u2).setCell ⟨n, 3, none⟩ u3).setCell ⟨n, 4, none⟩ u4).setCell ⟨n, 5, none⟩ u5) n [u0, u1, u2, u3, u4, u5] :=
  (((((h.set (i := 0) (by simp) u0).set (i := 1) (by simp) u1).set (i := 2) (by simp) u2).set (i := 3) (by simp) u3).set (i := 4) (by simp) u4).set (i := 5) (by simp) u5
theorem Box.far6 {W : World} {n m : Nat} {cs : List Value} {u0 u1 u2 u3 u4 u5 : Value} (h : Box W m cs) (hn : n ≠ m) :
    Box ((((((W.setCell ⟨n, 0, none⟩ u0).setCell ⟨n, 1, none⟩ u1).setCell ⟨n, 2, none⟩ u2).setCell ⟨n, 3, none⟩ u3).setCell ⟨n, 4, none⟩ u4).setCell ⟨n, 5, none⟩ u5) m cs :=
  (((((h.setOther (a := ⟨n, 0, none⟩) hn u0).setOther (a := ⟨n, 1, none⟩) hn u1).setOther (a := ⟨n, 2, none⟩) hn u2).setOther (a := ⟨n, 3, none⟩) hn u3).setOther (a := ⟨n, 4, none⟩) hn u4).setOther (a := ⟨n, 5, none⟩) hn u5
theorem Box.far2 {W : World} {m n i j : Nat} {cs : List Value} {u u' : Value} (h : Box W m cs) (hn : n ≠ m) : Box ((W.setCell ⟨n, i, none⟩ u).setCell ⟨n, j, none⟩ u') m cs :=
  (h.setOther (a := ⟨n, i, none⟩) hn u).setOther (a := ⟨n, j, none⟩) hn u'
theorem below_set2 {B : Nat} {a W : World} {n i j : Nat} {u u' : Value} (h : Below B a W) (hn : B ≤ n) : Below B a ((W.setCell ⟨n, i, none⟩ u).setCell ⟨n, j, none⟩ u') :=
  (h.setCell (by exact hn) _).setCell (by exact hn) _
def bv (b : Bd) : List Value := [.int .u64 (U b.ul), .int .u64 (U b.uh), .int .i64 (S b.sl), .int .i64 (S b.sh), .int .u64 (U b.t.v), .int .u64 (U b.t.m)]
/-- so many rounds of tidying -/
def iterT (b : Bd) : Nat → Option Bd
  | 0 => some b
  | k + 1 => (iterT b k).bind tidy1
theorem iterT_two (b : Bd) : iterT b 2 = tidy b := by
  show ((some b).bind tidy1).bind tidy1 = _
  rfl
theorem iterT_one {b c : Bd} {k : Nat} (h : iterT b k = some c) : iterT b (k + 1) = tidy1 c := by
  show (iterT b k).bind tidy1 = _
  rw [h]; rfl
theorem iterT_none {b : Bd} {k : Nat} (hk : k ≤ 2) (h : iterT b k = none) : tidy b = none := by
  rw [← iterT_two]
  match k, hk, h with
  | 1, _, h => show (iterT b 1).bind tidy1 = none; rw [h]; rfl
  | 2, _, h => exact h
def tidyV (o : Option Bd) : Value := match o with
  | some c => .tuple #[.agg #[.int .u64 (U c.ul), .int .u64 (U c.uh), .int .i64 (S c.sl), .int .i64 (S c.sh), .int .u64 (U c.t.v), .int .u64 (U c.t.m)], .bool true]
  | none => .tuple #[.agg #[.int .u64 (U bzero.ul), .int .u64 (U bzero.uh), .int .i64 (S bzero.sl), .int .i64 (S bzero.sh), .int .u64 (U bzero.t.v), .int .u64 (U bzero.t.m)], .bool false]
theorem bgood_f1 {b : Bd} (h : U b.uh < U b.ul) : bgood b = false := by
  have : bgood b ≠ true := fun e => by have := (bgood_iff.1 e).1; unfold U at h; omega
  simpa using this
theorem bgood_f2 {b : Bd} (h : S b.sh < S b.sl) : bgood b = false := by
  have : bgood b ≠ true := fun e => by have := (bgood_iff.1 e).2; unfold S at h; omega
  simpa using this
theorem bgood_t {b : Bd} (h1 : U b.ul ≤ U b.uh) (h2 : S b.sl ≤ S b.sh) : bgood b = true := bgood_iff.2 ⟨by unfold U at h1; omega, h2⟩
def stepT (c D E : Bd) (g : Bool) (Z : Tn) : Prop := tidy1 c = if bgood D = false then none else if g = false ∨ bgood E = false then none else some { E with t := Z }
theorem stepT_is (c : Bd) : stepT c (tidyB c) (tidyS (tidyB c)) (tagree (tidyS (tidyB c)).t (rangeT (tidyS (tidyB c)).ul (tidyS (tidyB c)).uh)) (tmeetT (tidyS (tidyB c)).t (rangeT (tidyS (tidyB c)).ul (tidyS (tidyB c)).uh)) := rfl
theorem stepT_1 {b c D E : Bd} {g : Bool} {Z : Tn} {k : Nat} (h : stepT c D E g Z) (hd : bgood D = false) (hk : k < 2) (hc : iterT b k = some c) : tidy b = none := by
  refine iterT_none (k := k + 1) (by omega) ((iterT_one hc).trans (h.trans ?_))
  rw [if_pos hd]
theorem stepT_2 {b c D E : Bd} {g : Bool} {Z : Tn} {k : Nat} (h : stepT c D E g Z) (hd : g = false ∨ bgood E = false) (hk : k < 2) (hc : iterT b k = some c) : tidy b = none := by
  refine iterT_none (k := k + 1) (by omega) ((iterT_one hc).trans (h.trans ?_))
  rw [if_pos hd]; split <;> rfl
theorem stepT_3 {b c D E : Bd} {g : Bool} {Z : Tn} {k : Nat} (h : stepT c D E g Z) (h1 : bgood D = true) (h2 : g = true) (h3 : bgood E = true) (hc : iterT b k = some c) : iterT b (k + 1) = some { E with t := Z } := by
  refine (iterT_one hc).trans (h.trans ?_)
  rw [if_neg (by rw [h1]; simp), if_neg (by rw [h2, h3]; simp)]
theorem tidyV_none {b : Bd} (h : tidy b = none) : Ending.returned (.tuple #[.agg #[.int .u64 (U bzero.ul), .int .u64 (U bzero.uh), .int .i64 (S bzero.sl), .int .i64 (S bzero.sh), .int .u64 (U bzero.t.v), .int .u64 (U bzero.t.m)], .bool false]) = .returned (tidyV (tidy b)) := by rw [h]; rfl
theorem Box.six0 {W : World} {n : Nat} (h : Box W n (bv bzero)) :
    (W.cell? ⟨n, 0, none⟩ = some (.int .u64 0) ∧ W.cell? ⟨n, 1, none⟩ = some (.int .u64 0) ∧ W.cell? ⟨n, 2, none⟩ = some (.int .i64 0) ∧ W.cell? ⟨n, 3, none⟩ = some (.int .i64 0) ∧ W.cell? ⟨n, 4, none⟩ = some (.int .u64 0) ∧ W.cell? ⟨n, 5, none⟩ = some (.int .u64 0)) ∧ (∀ i, W.frozen? ⟨n, i, none⟩ = false) ∧ n < W.heap.size := h.six
theorem Box.setD {W : World} {n : Nat} {c : Bd} (d : Bd) (h : Box W n (bv c)) : Box ((((((W.setCell ⟨n, 0, none⟩ (.int .u64 (U d.ul))).setCell ⟨n, 1, none⟩ (.int .u64 (U d.uh))).setCell ⟨n, 2, none⟩ (.int .i64 (S d.sl))).setCell ⟨n, 3, none⟩ (.int .i64 (S d.sh))).setCell ⟨n, 4, none⟩ (.int .u64 (U d.t.v))).setCell ⟨n, 5, none⟩ (.int .u64 (U d.t.m))) n (bv d) := Box.set6 h
theorem Box.farD {W : World} {m : Nat} {cs : List Value} (n : Nat) (d : Bd) (h : Box W m cs) (hn : n ≠ m) : Box ((((((W.setCell ⟨n, 0, none⟩ (.int .u64 (U d.ul))).setCell ⟨n, 1, none⟩ (.int .u64 (U d.uh))).setCell ⟨n, 2, none⟩ (.int .i64 (S d.sl))).setCell ⟨n, 3, none⟩ (.int .i64 (S d.sh))).setCell ⟨n, 4, none⟩ (.int .u64 (U d.t.v))).setCell ⟨n, 5, none⟩ (.int .u64 (U d.t.m))) m cs := Box.far6 h hn
theorem below_setD {B : Nat} {a W : World} (n : Nat) (d : Bd) (h : Below B a W) (hn : B ≤ n) : Below B a ((((((W.setCell ⟨n, 0, none⟩ (.int .u64 (U d.ul))).setCell ⟨n, 1, none⟩ (.int .u64 (U d.uh))).setCell ⟨n, 2, none⟩ (.int .i64 (S d.sl))).setCell ⟨n, 3, none⟩ (.int .i64 (S d.sh))).setCell ⟨n, 4, none⟩ (.int .u64 (U d.t.v))).setCell ⟨n, 5, none⟩ (.int .u64 (U d.t.m))) := set6 h hn
abbrev Four (n : Nat) (E : Bd) (W : World) : Prop := W.cell? ⟨n, 0, none⟩ = some (.int .u64 (U E.ul)) ∧ W.cell? ⟨n, 1, none⟩ = some (.int .u64 (U E.uh)) ∧ W.cell? ⟨n, 4, none⟩ = some (.int .u64 (U E.t.v)) ∧ W.cell? ⟨n, 5, none⟩ = some (.int .u64 (U E.t.m))
theorem Box.four {W : World} {n : Nat} {E : Bd} (h : Box W n (bv E)) : Four n E W := ⟨h.cell 0 _ rfl, h.cell 1 _ rfl, h.cell 4 _ rfl, h.cell 5 _ rfl⟩
theorem four_set {W : World} {n g : Nat} {E : Bd} {u u' : Value} (h : Four n E W) (hg : n < g) : Four n E ((W.setCell ⟨g, 0, none⟩ u).setCell ⟨g, 1, none⟩ u') := by
  have a : ∀ i j, (⟨g, i, none⟩ : Addr) ≠ ⟨n, j, none⟩ := fun i j e => by injection e; omega
  have f : ∀ j, ((W.setCell ⟨g, 0, none⟩ u).setCell ⟨g, 1, none⟩ u').cell? ⟨n, j, none⟩ = W.cell? ⟨n, j, none⟩ := fun j =>
    (World.cell?_setCell_other _ _ _ _ (a 1 j)).trans (World.cell?_setCell_other _ _ _ _ (a 0 j))
  exact ⟨(f 0).trans h.1, (f 1).trans h.2.1, (f 4).trans h.2.2.1, (f 5).trans h.2.2.2⟩
theorem four_dr {W : World} {n : Nat} {E : Bd} (h : Four n E W) : Four n E W.drew := h
theorem four_al {W : World} {n : Nat} {E : Bd} (h : Four n E W) (hn : n < W.heap.size) (o : Obj) : Four n E (W.alloc o) :=
  ⟨(World.cell?_alloc_lt W o ⟨n, 0, none⟩ hn).trans h.1, (World.cell?_alloc_lt W o ⟨n, 1, none⟩ hn).trans h.2.1, (World.cell?_alloc_lt W o ⟨n, 4, none⟩ hn).trans h.2.2.1, (World.cell?_alloc_lt W o ⟨n, 5, none⟩ hn).trans h.2.2.2⟩
theorem four_dal {W : World} {n : Nat} {E : Bd} (h : Four n E W) (hn : n < W.heap.size) (o : Obj) : Four n E (W.alloc o).drew := four_dr (four_al h hn o)
theorem below_0 {W w1 : World} (h : Below W.drew.heap.size W.drew w1) : Below W.heap.size W w1 := bdrew h
theorem below_1 {W w1 : World} {o : Obj} (h : Below (W.alloc o).drew.heap.size (W.alloc o).drew w1) : Below W.heap.size W w1 := (bl1 (bdrewA h)).1
theorem below_2 {W w1 : World} {o : Obj} (h : Below (W.alloc o).heap.size (W.alloc o) w1) : Below W.heap.size W w1 := (bl1 h).1
theorem size_1 {W w1 : World} {o : Obj} (h : Below (W.alloc o).drew.heap.size (W.alloc o).drew w1) : W.heap.size < w1.heap.size := (bl1 (bdrewA h)).2
theorem size_2 {W w1 : World} {o : Obj} (h : Below (W.alloc o).heap.size (W.alloc o) w1) : W.heap.size < w1.heap.size := (bl1 h).2
/-- behind the meeting of bits: where it lies, what it says, what stands as it stood -/
def RelM (n : Nat) (w : World) (E : Bd) (Z : Tn) (g : Bool) (x y : Value) (W : World) : Prop :=
  ∃ T, x = .pointer (some ⟨T, 0, none⟩) ∧ y = .bool g ∧ Below n w W ∧ Box W n (bv E) ∧ Box W (n + 1) (bv bzero) ∧ n + 1 < T ∧ Box W T [.int .u64 (U Z.v), .int .u64 (U Z.m)]
theorem relM_new {n : Nat} {w W3 W : World} {E : Bd} {Z : Tn} {g : Bool} {t : TypeId} (h : Below n w W3) (h1 : Box W3 n (bv E)) (h2 : Box W3 (n + 1) (bv bzero)) (hn : n ≤ W3.heap.size) (hc : Below W3.heap.size W3 W) :
    RelM n w E Z g (.pointer (some ⟨W.heap.size, 0, none⟩)) (.bool g) (W.alloc (.cells #[.int .u64 (U Z.v), .int .u64 (U Z.m)] t)) :=
  ⟨_, rfl, rfl, (h.trans (hc.mono hn)).alloc (Nat.le_trans hn hc.size) _, (h1.next hc).alloc _, (h2.next hc).alloc _, (h2.next hc).lt, Box.new W _ t rfl⟩
theorem relM_set {n T : Nat} {w W3 W : World} {E : Bd} {Z : Tn} {g : Bool} {u u' : Value} (h : Below n w W3) (h1 : Box W3 n (bv E)) (h2 : Box W3 (n + 1) (bv bzero)) (hn : n ≤ W3.heap.size) (hc : Below W3.heap.size W3 W) (hT : n + 1 < T) (hB : Box W T [u, u']) :
    RelM n w E Z g (.pointer (some ⟨T, 0, none⟩)) (.bool g) ((W.setCell ⟨T, 0, none⟩ (.int .u64 (U Z.v))).setCell ⟨T, 1, none⟩ (.int .u64 (U Z.m))) :=
  ⟨T, rfl, rfl, ((h.trans (hc.mono hn)).setCell (by show n ≤ T; omega) _).setCell (by show n ≤ T; omega) _,
    ((h1.next hc).setOther (by show T ≠ n; omega) _).setOther (by show T ≠ n; omega) _, ((h2.next hc).setOther (by show T ≠ n + 1; omega) _).setOther (by show T ≠ n + 1; omega) _, hT,
    (hB.set (i := 0) (by simp) _).set (i := 1) (by simp) _⟩
def regionOf (n : Nat) : Code → Option Code
  | .region id ops d => if id = n then some (.region id ops d) else none
  | .seq a b => match regionOf n a with
    | some c => some c
    | none => regionOf n b
  | .cond _ a b => match regionOf n a with
    | some c => some c
    | none => regionOf n b
  | .block _ c => regionOf n c
  | .loop c => regionOf n c
  | .scope c => regionOf n c
  | _ => none
end Go.Proofs.Ytdipmlamjjpcoaa
