/- Bounds: the document's own Tidy. -/
import Derived.Test.YticjhcbkkkkckaaWE
import Derived.Deep.DeepCutAuto
namespace Go.Proofs.Yticjhcbkkkkckaa
open Go.RowKit
attribute [local go_sem] b_and b_or b_xor b_andNot b_low b_top b_most b_signed b_unsigned b_zero b_eq s_eq b_nzero b_neq s_neq b_max b_min s_max s_min
attribute [local go_sem ↓] Go.wp_at_zero Go.wp_at_succ

/-- a box holds these cells -/
structure Box (W : World) (b : Nat) (cs : List Value) : Prop where
  lt : b < W.heap.size
  cell : ∀ i u, cs[i]? = some u → W.cell? ⟨b, i, none⟩ = some u
  frozen : ∀ i, W.frozen? ⟨b, i, none⟩ = false
theorem Box.next {W W' : World} {b : Nat} {cs : List Value} (h : Box W b cs) (hb : Below W.heap.size W W') : Box W' b cs :=
  ⟨Nat.lt_of_lt_of_le h.lt hb.size, fun i u hi => (hb.cell (p := ⟨b, i, none⟩) h.lt).trans (h.cell i u hi), fun i => (hb.frozen (p := ⟨b, i, none⟩) h.lt).trans (h.frozen i)⟩
theorem Box.alloc {W : World} {b : Nat} {cs : List Value} (h : Box W b cs) (o : Obj) : Box (W.alloc o) b cs := h.next ((Below.refl _ _).alloc (Nat.le_refl _) o)
theorem Box.drew {W : World} {b : Nat} {cs : List Value} (h : Box W b cs) : Box W.drew b cs := h.next (Below.refl _ _).drew
theorem Box.new (W : World) (cs : List Value) (t : TypeId) {b : Nat} (hb : W.heap.size = b) : Box (W.alloc (.cells cs.toArray t)) b cs := by
  subst hb
  exact ⟨by simp, fun i u hi => cell_new W (by simpa using hi), fun i => World.frozen?_alloc_new _ _ _ i⟩
theorem Box.setOther {W : World} {b : Nat} {cs : List Value} (h : Box W b cs) {a : Addr} (ha : a.block ≠ b) (v : Value) : Box (W.setCell a v) b cs :=
  ⟨by simpa [World.setCell] using h.lt, fun i u hi => (World.cell?_setCell_other _ _ _ _ (fun e => ha (congrArg Addr.block e))).trans (h.cell i u hi), fun i => (World.frozen?_setCell ..).trans (h.frozen i)⟩
theorem Box.set {W : World} {b : Nat} {cs : List Value} (h : Box W b cs) {i : Nat} (hi : i < cs.length) (v : Value) : Box (W.setCell ⟨b, i, none⟩ v) b (cs.set i v) := by
  refine ⟨by simpa [World.setCell] using h.lt, fun j u hj => ?_, fun j => (World.frozen?_setCell ..).trans (h.frozen j)⟩
  by_cases e : j = i
  · subst e
    have e2 : u = v := by simpa [hi] using hj.symm
    subst e2
    exact World.cell?_setCell_same _ _ _ (h.cell j _ (List.getElem?_eq_getElem hi))
  · rw [List.getElem?_set_ne (fun h => e h.symm)] at hj
    exact (World.cell?_setCell_other _ _ _ _ (fun e' => e (congrArg Addr.off e').symm)).trans (h.cell j u hj)
theorem Box.six {W : World} {n : Nat} {v0 v1 v2 v3 v4 v5 : Value} (h : Box W n [v0, v1, v2, v3, v4, v5]) :
    (W.cell? ⟨n, 0, none⟩ = some v0 ∧ W.cell? ⟨n, 1, none⟩ = some v1 ∧ W.cell? ⟨n, 2, none⟩ = some v2 ∧ W.cell? ⟨n, 3, none⟩ = some v3 ∧ W.cell? ⟨n, 4, none⟩ = some v4 ∧ W.cell? ⟨n, 5, none⟩ = some v5) ∧ (∀ i, W.frozen? ⟨n, i, none⟩ = false) ∧ n < W.heap.size :=
  ⟨⟨h.cell 0 _ rfl, h.cell 1 _ rfl, h.cell 2 _ rfl, h.cell 3 _ rfl, h.cell 4 _ rfl, h.cell 5 _ rfl⟩, h.frozen, h.lt⟩
theorem Box.set6 {W : World} {n : Nat} {v0 v1 v2 v3 v4 v5 : Value} {u0 u1 u2 u3 u4 u5 : Value} (h : Box W n [v0, v1, v2, v3, v4, v5]) :
    Box ((((((W.setCell ⟨n, 0, none⟩ u0).setCell ⟨n, 1, none⟩ u1).setCell ⟨n, 2, none⟩ u2).setCell ⟨n, 3, none⟩ u3).setCell ⟨n, 4, none⟩ u4).setCell ⟨n, 5, none⟩ u5) n [u0, u1, u2, u3, u4, u5] :=
  (((((h.set (i := 0) (by simp) u0).set (i := 1) (by simp) u1).set (i := 2) (by simp) u2).set (i := 3) (by simp) u3).set (i := 4) (by simp) u4).set (i := 5) (by simp) u5
theorem Box.far6 {W : World} {n m : Nat} {cs : List Value} {u0 u1 u2 u3 u4 u5 : Value} (h : Box W m cs) (hn : n ≠ m) :
    Box ((((((W.setCell ⟨n, 0, none⟩ u0).setCell ⟨n, 1, none⟩ u1).setCell ⟨n, 2, none⟩ u2).setCell ⟨n, 3, none⟩ u3).setCell ⟨n, 4, none⟩ u4).setCell ⟨n, 5, none⟩ u5) m cs :=
  (((((h.setOther (a := ⟨n, 0, none⟩) hn u0).setOther (a := ⟨n, 1, none⟩) hn u1).setOther (a := ⟨n, 2, none⟩) hn u2).setOther (a := ⟨n, 3, none⟩) hn u3).setOther (a := ⟨n, 4, none⟩) hn u4).setOther (a := ⟨n, 5, none⟩) hn u5
theorem Box.far2 {W : World} {m n i j : Nat} {cs : List Value} {u u' : Value} (h : Box W m cs) (hn : n ≠ m) : Box ((W.setCell ⟨n, i, none⟩ u).setCell ⟨n, j, none⟩ u') m cs :=
  (h.setOther (a := ⟨n, i, none⟩) hn u).setOther (a := ⟨n, j, none⟩) hn u'
theorem below_set2 {B : Nat} {a W : World} {n i j : Nat} {u u' : Value} (h : Below B a W) (hn : B ≤ n) : Below B a ((W.setCell ⟨n, i, none⟩ u).setCell ⟨n, j, none⟩ u') :=
  (h.setCell (by exact hn) _).setCell (by exact hn) _
def bv (b : Bd) : List Value := [.int .u64 (U b.ul), .int .u64 (U b.uh), .int .i64 (S b.sl), .int .i64 (S b.sh), .int .u64 (U b.t.v), .int .u64 (U b.t.m)]
/-- so many rounds of tidying -/
def iterT (b : Bd) : Nat → Option Bd
  | 0 => some b
  | k + 1 => (iterT b k).bind tidy1
theorem iterT_two (b : Bd) : iterT b 2 = tidy b := by
  show ((some b).bind tidy1).bind tidy1 = _
  rfl
theorem iterT_one {b c : Bd} {k : Nat} (h : iterT b k = some c) : iterT b (k + 1) = tidy1 c := by
  show (iterT b k).bind tidy1 = _
  rw [h]; rfl
theorem iterT_none {b : Bd} {k : Nat} (hk : k ≤ 2) (h : iterT b k = none) : tidy b = none := by
  rw [← iterT_two]
  match k, hk, h with
  | 1, _, h => show (iterT b 1).bind tidy1 = none; rw [h]; rfl
  | 2, _, h => exact h
def tidyV (o : Option Bd) : Value := match o with
  | some c => .tuple #[.agg #[.int .u64 (U c.ul), .int .u64 (U c.uh), .int .i64 (S c.sl), .int .i64 (S c.sh), .int .u64 (U c.t.v), .int .u64 (U c.t.m)], .bool true]
  | none => .tuple #[.agg #[.int .u64 (U bzero.ul), .int .u64 (U bzero.uh), .int .i64 (S bzero.sl), .int .i64 (S bzero.sh), .int .u64 (U bzero.t.v), .int .u64 (U bzero.t.m)], .bool false]
theorem bgood_f1 {b : Bd} (h : U b.uh < U b.ul) : bgood b = false := by
  have : bgood b ≠ true := fun e => by have := (bgood_iff.1 e).1; unfold U at h; omega
  simpa using this
theorem bgood_f2 {b : Bd} (h : S b.sh < S b.sl) : bgood b = false := by
  have : bgood b ≠ true := fun e => by have := (bgood_iff.1 e).2; unfold S at h; omega
  simpa using this
theorem bgood_t {b : Bd} (h1 : U b.ul ≤ U b.uh) (h2 : S b.sl ≤ S b.sh) : bgood b = true := bgood_iff.2 ⟨by unfold U at h1; omega, h2⟩
def stepT (c D E : Bd) (g : Bool) (Z : Tn) : Prop := tidy1 c = if bgood D = false then none else if g = false ∨ bgood E = false then none else some { E with t := Z }
theorem stepT_is (c : Bd) : stepT c (tidyB c) (tidyS (tidyB c)) (tagree (tidyS (tidyB c)).t (rangeT (tidyS (tidyB c)).ul (tidyS (tidyB c)).uh)) (tmeetT (tidyS (tidyB c)).t (rangeT (tidyS (tidyB c)).ul (tidyS (tidyB c)).uh)) := rfl
theorem stepT_1 {b c D E : Bd} {g : Bool} {Z : Tn} {k : Nat} (h : stepT c D E g Z) (hd : bgood D = false) (hk : k < 2) (hc : iterT b k = some c) : tidy b = none := by
  refine iterT_none (k := k + 1) (by omega) ((iterT_one hc).trans (h.trans ?_))
  rw [if_pos hd]
theorem stepT_2 {b c D E : Bd} {g : Bool} {Z : Tn} {k : Nat} (h : stepT c D E g Z) (hd : g = false ∨ bgood E = false) (hk : k < 2) (hc : iterT b k = some c) : tidy b = none := by
  refine iterT_none (k := k + 1) (by omega) ((iterT_one hc).trans (h.trans ?_))
  rw [if_pos hd]; split <;> rfl
theorem stepT_3 {b c D E : Bd} {g : Bool} {Z : Tn} {k : Nat} (h : stepT c D E g Z) (h1 : bgood D = true) (h2 : g = true) (h3 : bgood E = true) (hc : iterT b k = some c) : iterT b (k + 1) = some { E with t := Z } := by
  refine (iterT_one hc).trans (h.trans ?_)
  rw [if_neg (by rw [h1]; simp), if_neg (by rw [h2, h3]; simp)]
theorem tidyV_none {b : Bd} (h : tidy b = none) : Ending.returned (.tuple #[.agg #[.int .u64 (U bzero.ul), .int .u64 (U bzero.uh), .int .i64 (S bzero.sl), .int .i64 (S bzero.sh), .int .u64 (U bzero.t.v), .int .u64 (U bzero.t.m)], .bool false]) = .returned (tidyV (tidy b)) := by rw [h]; rfl
theorem Box.six0 {W : World} {n : Nat} (h : Box W n (bv bzero)) :
    (W.cell? ⟨n, 0, none⟩ = some (.int .u64 0) ∧ W.cell? ⟨n, 1, none⟩ = some (.int .u64 0) ∧ W.cell? ⟨n, 2, none⟩ = some (.int .i64 0) ∧ W.cell? ⟨n, 3, none⟩ = some (.int .i64 0) ∧ W.cell? ⟨n, 4, none⟩ = some (.int .u64 0) ∧ W.cell? ⟨n, 5, none⟩ = some (.int .u64 0)) ∧ (∀ i, W.frozen? ⟨n, i, none⟩ = false) ∧ n < W.heap.size := h.six
theorem Box.setD {W : World} {n : Nat} {c : Bd} (d : Bd) (h : Box W n (bv c)) : Box ((((((W.setCell ⟨n, 0, none⟩ (.int .u64 (U d.ul))).setCell ⟨n, 1, none⟩ (.int .u64 (U d.uh))).setCell ⟨n, 2, none⟩ (.int .i64 (S d.sl))).setCell ⟨n, 3, none⟩ (.int .i64 (S d.sh))).setCell ⟨n, 4, none⟩ (.int .u64 (U d.t.v))).setCell ⟨n, 5, none⟩ (.int .u64 (U d.t.m))) n (bv d) := Box.set6 h
theorem Box.farD {W : World} {m : Nat} {cs : List Value} (n : Nat) (d : Bd) (h : Box W m cs) (hn : n ≠ m) : Box ((((((W.setCell ⟨n, 0, none⟩ (.int .u64 (U d.ul))).setCell ⟨n, 1, none⟩ (.int .u64 (U d.uh))).setCell ⟨n, 2, none⟩ (.int .i64 (S d.sl))).setCell ⟨n, 3, none⟩ (.int .i64 (S d.sh))).setCell ⟨n, 4, none⟩ (.int .u64 (U d.t.v))).setCell ⟨n, 5, none⟩ (.int .u64 (U d.t.m))) m cs := Box.far6 h hn
theorem below_setD {B : Nat} {a W : World} (n : Nat) (d : Bd) (h : Below B a W) (hn : B ≤ n) : Below B a ((((((W.setCell ⟨n, 0, none⟩ (.int .u64 (U d.ul))).setCell ⟨n, 1, none⟩ (.int .u64 (U d.uh))).setCell ⟨n, 2, none⟩ (.int .i64 (S d.sl))).setCell ⟨n, 3, none⟩ (.int .i64 (S d.sh))).setCell ⟨n, 4, none⟩ (.int .u64 (U d.t.v))).setCell ⟨n, 5, none⟩ (.int .u64 (U d.t.m))) := set6 h hn
abbrev Four (n : Nat) (E : Bd) (W : World) : Prop := W.cell? ⟨n, 0, none⟩ = some (.int .u64 (U E.ul)) ∧ W.cell? ⟨n, 1, none⟩ = some (.int .u64 (U E.uh)) ∧ W.cell? ⟨n, 4, none⟩ = some (.int .u64 (U E.t.v)) ∧ W.cell? ⟨n, 5, none⟩ = some (.int .u64 (U E.t.m))
theorem Box.four {W : World} {n : Nat} {E : Bd} (h : Box W n (bv E)) : Four n E W := ⟨h.cell 0 _ rfl, h.cell 1 _ rfl, h.cell 4 _ rfl, h.cell 5 _ rfl⟩
theorem four_set {W : World} {n g : Nat} {E : Bd} {u u' : Value} (h : Four n E W) (hg : n < g) : Four n E ((W.setCell ⟨g, 0, none⟩ u).setCell ⟨g, 1, none⟩ u') := by
  have a : ∀ i j, (⟨g, i, none⟩ : Addr) ≠ ⟨n, j, none⟩ := fun i j e => by injection e; omega
  have f : ∀ j, ((W.setCell ⟨g, 0, none⟩ u).setCell ⟨g, 1, none⟩ u').cell? ⟨n, j, none⟩ = W.cell? ⟨n, j, none⟩ := fun j =>
    (World.cell?_setCell_other _ _ _ _ (a 1 j)).trans (World.cell?_setCell_other _ _ _ _ (a 0 j))
  exact ⟨(f 0).trans h.1, (f 1).trans h.2.1, (f 4).trans h.2.2.1, (f 5).trans h.2.2.2⟩
theorem four_dr {W : World} {n : Nat} {E : Bd} (h : Four n E W) : Four n E W.drew := h
theorem four_al {W : World} {n : Nat} {E : Bd} (h : Four n E W) (hn : n < W.heap.size) (o : Obj) : Four n E (W.alloc o) :=
  ⟨(World.cell?_alloc_lt W o ⟨n, 0, none⟩ hn).trans h.1, (World.cell?_alloc_lt W o ⟨n, 1, none⟩ hn).trans h.2.1, (World.cell?_alloc_lt W o ⟨n, 4, none⟩ hn).trans h.2.2.1, (World.cell?_alloc_lt W o ⟨n, 5, none⟩ hn).trans h.2.2.2⟩
theorem four_dal {W : World} {n : Nat} {E : Bd} (h : Four n E W) (hn : n < W.heap.size) (o : Obj) : Four n E (W.alloc o).drew := four_dr (four_al h hn o)
theorem below_0 {W w1 : World} (h : Below W.drew.heap.size W.drew w1) : Below W.heap.size W w1 := bdrew h
theorem below_1 {W w1 : World} {o : Obj} (h : Below (W.alloc o).drew.heap.size (W.alloc o).drew w1) : Below W.heap.size W w1 := (bl1 (bdrewA h)).1
theorem below_2 {W w1 : World} {o : Obj} (h : Below (W.alloc o).heap.size (W.alloc o) w1) : Below W.heap.size W w1 := (bl1 h).1
theorem size_1 {W w1 : World} {o : Obj} (h : Below (W.alloc o).drew.heap.size (W.alloc o).drew w1) : W.heap.size < w1.heap.size := (bl1 (bdrewA h)).2
theorem size_2 {W w1 : World} {o : Obj} (h : Below (W.alloc o).heap.size (W.alloc o) w1) : W.heap.size < w1.heap.size := (bl1 h).2
/-- behind the meeting of bits: where it lies, what it says, what stands as it stood -/
def RelM (n : Nat) (w : World) (E : Bd) (Z : Tn) (g : Bool) (x y : Value) (W : World) : Prop :=
  ∃ T, x = .pointer (some ⟨T, 0, none⟩) ∧ y = .bool g ∧ Below n w W ∧ Box W n (bv E) ∧ Box W (n + 1) (bv bzero) ∧ n + 1 < T ∧ Box W T [.int .u64 (U Z.v), .int .u64 (U Z.m)]
theorem relM_new {n : Nat} {w W3 W : World} {E : Bd} {Z : Tn} {g : Bool} {t : TypeId} (h : Below n w W3) (h1 : Box W3 n (bv E)) (h2 : Box W3 (n + 1) (bv bzero)) (hn : n ≤ W3.heap.size) (hc : Below W3.heap.size W3 W) :
    RelM n w E Z g (.pointer (some ⟨W.heap.size, 0, none⟩)) (.bool g) (W.alloc (.cells #[.int .u64 (U Z.v), .int .u64 (U Z.m)] t)) :=
  ⟨_, rfl, rfl, (h.trans (hc.mono hn)).alloc (Nat.le_trans hn hc.size) _, (h1.next hc).alloc _, (h2.next hc).alloc _, (h2.next hc).lt, Box.new W _ t rfl⟩
theorem relM_set {n T : Nat} {w W3 W : World} {E : Bd} {Z : Tn} {g : Bool} {u u' : Value} (h : Below n w W3) (h1 : Box W3 n (bv E)) (h2 : Box W3 (n + 1) (bv bzero)) (hn : n ≤ W3.heap.size) (hc : Below W3.heap.size W3 W) (hT : n + 1 < T) (hB : Box W T [u, u']) :
    RelM n w E Z g (.pointer (some ⟨T, 0, none⟩)) (.bool g) ((W.setCell ⟨T, 0, none⟩ (.int .u64 (U Z.v))).setCell ⟨T, 1, none⟩ (.int .u64 (U Z.m))) :=
  ⟨T, rfl, rfl, ((h.trans (hc.mono hn)).setCell (by show n ≤ T; omega) _).setCell (by show n ≤ T; omega) _,
    ((h1.next hc).setOther (by show T ≠ n; omega) _).setOther (by show T ≠ n; omega) _, ((h2.next hc).setOther (by show T ≠ n + 1; omega) _).setOther (by show T ≠ n + 1; omega) _, hT,
    (hB.set (i := 0) (by simp) _).set (i := 1) (by simp) _⟩
def regionOf (n : Nat) : Code → Option Code
  | .region id ops d => if id = n then some (.region id ops d) else none
  | .seq a b => match regionOf n a with
    | some c => some c
    | none => regionOf n b
  | .cond _ a b => match regionOf n a with
    | some c => some c
    | none => regionOf n b
  | .block _ c => regionOf n c
  | .loop c => regionOf n c
  | .scope c => regionOf n c
  | _ => none
noncomputable def reg8 : Code := ((Try.f50.body.bind (regionOf 8)).getD .skip)
set_option maxRecDepth 100000 in
set_option maxHeartbeats 4000000 in
theorem reg8_wp (n : Nat) (w : World) (E : Bd) (R Z : Tn) (g : Bool) (W3 : World) (c0 c2 c3 c4 c5 c6 c7 c8 c9 c10 c11 c12 c13 c14 c15 c16 c17 c18 c19 c20 c21 c22 c23 c24 c25 c26 c27 c28 c29 c30 c31 c32 c33 c34 c35 c36 c37 c38 c39 c40 c41 c42 c43 c44 c45 c46 c47 c48 c49 c50 c51 c52 c53 c54 c55 c56 c57 c58 : Value) (Q : Exit → Act → World → Prop)
    (HR : Hid (∀ W, Calls Try.prog 82 #[.int .u64 (U E.ul), .int .u64 (U E.uh)] W fun e w' => e = .returned (.agg #[.int .u64 (U R.v), .int .u64 (U R.m)]) ∧ Below W.heap.size W w'))
    (HM : Hid (∀ W, Calls Try.prog 81 #[.agg #[.int .u64 (U E.t.v), .int .u64 (U E.t.m)], .agg #[.int .u64 (U R.v), .int .u64 (U R.m)]] W fun e w' => e = .returned (.tuple #[.agg #[.int .u64 (U Z.v), .int .u64 (U Z.m)], .bool g]) ∧ Below W.heap.size W w'))
    (HV2 : Hid (Below n w W3)) (HZ1 : Hid (Box W3 n (bv E))) (HZ2 : Hid (Box W3 (n + 1) (bv bzero)))
    (hQ : ∀ (s5 s6 s28 s29 s30 s31 s32 s33 s34 s35 s36 s37 s38 : Value) (W : World), RelM n w E Z g s5 s6 W → Q .normal ⟨(c0 :: .pointer (some ⟨n, 0, none⟩) :: c2 :: c3 :: c4 :: s5 :: s6 :: c7 :: c8 :: c9 :: c10 :: c11 :: c12 :: c13 :: c14 :: c15 :: c16 :: c17 :: c18 :: c19 :: c20 :: c21 :: c22 :: c23 :: c24 :: c25 :: c26 :: c27 :: s28 :: s29 :: s30 :: s31 :: s32 :: s33 :: s34 :: s35 :: s36 :: s37 :: s38 :: c39 :: c40 :: c41 :: c42 :: c43 :: c44 :: c45 :: c46 :: c47 :: c48 :: c49 :: c50 :: c51 :: c52 :: c53 :: c54 :: c55 :: c56 :: c57 :: c58 :: []).toArray, []⟩ W) :
    Code.wp Try.prog reg8 Q ⟨(c0 :: .pointer (some ⟨n, 0, none⟩) :: c2 :: c3 :: c4 :: c5 :: c6 :: c7 :: c8 :: c9 :: c10 :: c11 :: c12 :: c13 :: c14 :: c15 :: c16 :: c17 :: c18 :: c19 :: c20 :: c21 :: c22 :: c23 :: c24 :: c25 :: c26 :: c27 :: c28 :: c29 :: c30 :: c31 :: c32 :: c33 :: c34 :: c35 :: c36 :: c37 :: c38 :: c39 :: c40 :: c41 :: c42 :: c43 :: c44 :: c45 :: c46 :: c47 :: c48 :: c49 :: c50 :: c51 :: c52 :: c53 :: c54 :: c55 :: c56 :: c57 :: c58 :: []).toArray, []⟩ W3 := by
  have HQ := Lib.hid hQ
  have z3 : n + 1 < W3.heap.size := HZ2.out.lt
  clear hQ
  conv => arg 2; whnf
  have f4 := HZ1.out.four
  go_region_held3 (fun W => W.cell? ⟨n, 0, none⟩ = some (.int .u64 (U E.ul)) ∧ W.cell? ⟨n, 1, none⟩ = some (.int .u64 (U E.uh)) ∧ W.cell? ⟨n, 4, none⟩ = some (.int .u64 (U E.t.v)) ∧ W.cell? ⟨n, 5, none⟩ = some (.int .u64 (U E.t.m)))
    (first | with_reducible exact K5 | with_reducible exact K4 | with_reducible exact four_set K5 (by omega) | with_reducible exact four_al K5 (by omega) _ | with_reducible exact four_al K4 (by omega) _ | with_reducible exact four_dr f4 | with_reducible exact four_dal f4 (by omega) _)
    (first
    | (go_at_call 81; refine (HM.out _).mono ?_; rintro e w5 ⟨rfl, hb⟩; have hc : Below w4.heap.size w4 w5 := (by first | exact hb | exact below_2 hb); have HC5 := Lib.hid (HC4.out.trans (hc.mono HC4.out.size)); have z5 := Nat.lt_of_lt_of_le z4 hc.size; have K5 := (HZ1.out.next HC5.out).four; (first | (have y6 := Nat.lt_of_lt_of_le y4 hc.size; have BU := Lib.hid (BT.out.next hc); have u1 := BU.out.cell 0 _ rfl; have u2 := BU.out.cell 1 _ rfl; have u3 := BU.out.frozen 0; have u4 := BU.out.frozen 1) | (have y5 := size_2 hb; have BU := Lib.hid ((Box.new w4 [.int .u64 0, .int .u64 0] 24 rfl).next hb); have u1 := BU.out.cell 0 _ rfl; have u2 := BU.out.cell 1 _ rfl; have u3 := BU.out.frozen 0; have u4 := BU.out.frozen 1) | skip); clear hb hc)
    | (go_at_call 82; refine (HR.out _).mono ?_; rintro e w4 ⟨rfl, hb⟩; have hc : Below W3.heap.size W3 w4 := (by first | exact below_0 hb | exact below_1 hb); have HC4 := Lib.hid hc; have z4 := Nat.lt_of_lt_of_le z3 hc.size; have K4 := (HZ1.out.next hc).four; (first | (have y4 := size_1 hb; have BT := Lib.hid ((Box.new W3 [.int .u64 0, .int .u64 0] 24 (b := W3.heap.size) rfl).next (bdrewA hb))) | skip); clear hb hc))
  all_goals first
    | exact HQ.out _ _ _ _ _ _ _ _ _ _ _ _ _ _ (relM_new HV2.out HZ1.out HZ2.out (by omega) HC5.out)
    | exact HQ.out _ _ _ _ _ _ _ _ _ _ _ _ _ _ (relM_set HV2.out HZ1.out HZ2.out (by omega) HC5.out (by omega) BU.out)
set_option maxRecDepth 100000 in
set_option maxHeartbeats 4000000 in
theorem rtidy_any (b : Bd) (w : World) : Calls Try.prog 50 #[.agg #[.int .u64 (U b.ul), .int .u64 (U b.uh), .int .i64 (S b.sl), .int .i64 (S b.sh), .int .u64 (U b.t.v), .int .u64 (U b.t.m)]] w fun e w' => e = .returned (tidyV (tidy b)) ∧ Below w.heap.size w w' := by
  go_enter Try.func50, Try.ntmps50
  go_wp2_with fail
  go_loopw [4] (fun i wr => ∃ (k : Nat) (c : Bd), k ≤ 2 ∧ i = .int .i64 (k : Int) ∧ iterT b k = some c ∧ Below w.heap.size w wr ∧ Box wr w.heap.size (bv c) ∧ Box wr (w.heap.size + 1) (bv bzero)) (fun i _ => 2 - (intOf i).toNat)
  case atStart => exact ⟨0, b, by omega, rfl, rfl, b2, (Box.new w (bv b) _ rfl).alloc _, Box.new _ (bv bzero) _ (by simp)⟩
  case round =>
    obtain ⟨k, c, hk, rfl, hc, hb, X1, X2⟩ := hrel
    by_cases h2 : k < 2
    · have HB := Lib.hid (fun W => rbits_any c W)
      have HT := Lib.hid (stepT_is c)
      generalize tidyB c = D at *
      have HS := Lib.hid (fun W => rsigns_any D W)
      generalize tidyS D = E at *
      have HR := Lib.hid (fun W => rtrange_any E.ul E.uh W)
      generalize rangeT E.ul E.uh = R at *
      have HM := Lib.hid (fun W => rtmeet_any E.t R W)
      generalize tmeetT E.t R = Z at *
      generalize tagree E.t R = g at *
      have HC := Lib.hid hc
      have HBW := Lib.hid hb
      have HX1 := Lib.hid X1
      have HX2 := Lib.hid X2
      obtain ⟨f1, f2, f3⟩ := X1.six
      obtain ⟨g1, g2, g3⟩ := X2.six0
      clear hc hb X1 X2
      by_cases d1 : U D.uh < U D.ul
      · have HN := Lib.hid (stepT_1 HT.out (bgood_f1 d1) h2 HC.out)
        go_wp2_with (go_at_call 79; refine (HB.out _).mono ?_; rintro e w1 ⟨rfl, hb⟩; have B1 := Lib.hid (bnext HBW.out hb); have HY1 := Lib.hid (HX1.out.next hb); have HY2 := Lib.hid (HX2.out.next hb); clear f1 f2 f3 g1 g2 g3 hb; obtain ⟨f1, f2, f3⟩ := HY1.out.six; obtain ⟨g1, g2, g3⟩ := HY2.out.six0)
        exact bodyPost_ret (v := .tuple #[.agg #[.int .u64 (U bzero.ul), .int .u64 (U bzero.uh), .int .i64 (S bzero.sl), .int .i64 (S bzero.sh), .int .u64 (U bzero.t.v), .int .u64 (U bzero.t.m)], .bool false]) (by simp [results, Try.results50, go_sem, bzero, U_0, S_0, g1]) rfl ⟨tidyV_none HN.out, set6 (set6 B1.out (by omega)) (by omega)⟩
      have d1' : U D.ul ≤ U D.uh := by omega
      clear d1
      by_cases d2 : S D.sh < S D.sl
      · have HN := Lib.hid (stepT_1 HT.out (bgood_f2 d2) h2 HC.out)
        go_wp2_with (go_at_call 79; refine (HB.out _).mono ?_; rintro e w1 ⟨rfl, hb⟩; have B1 := Lib.hid (bnext HBW.out hb); have HY1 := Lib.hid (HX1.out.next hb); have HY2 := Lib.hid (HX2.out.next hb); clear f1 f2 f3 g1 g2 g3 hb; obtain ⟨f1, f2, f3⟩ := HY1.out.six; obtain ⟨g1, g2, g3⟩ := HY2.out.six0)
        exact bodyPost_ret (v := .tuple #[.agg #[.int .u64 (U bzero.ul), .int .u64 (U bzero.uh), .int .i64 (S bzero.sl), .int .i64 (S bzero.sh), .int .u64 (U bzero.t.v), .int .u64 (U bzero.t.m)], .bool false]) (by simp [results, Try.results50, go_sem, bzero, U_0, S_0, g1]) rfl ⟨tidyV_none HN.out, set6 (set6 B1.out (by omega)) (by omega)⟩
      have d2' : S D.sl ≤ S D.sh := by omega
      clear d2
      have G1 := Lib.hid (bgood_t d1' d2')
      go_wp2_with (first
        | (go_at_call 79; refine (HB.out _).mono ?_; rintro e w1 ⟨rfl, hb⟩; have B1 := Lib.hid (bnext HBW.out hb); have HY1 := Lib.hid ((HX1.out.next hb).setD D); have HY2 := Lib.hid ((HX2.out.next hb).farD w.heap.size D (by omega)); have HV := Lib.hid (below_setD w.heap.size D B1.out (Nat.le_refl _)); have f1' := (HX1.out.next hb).six; have g1' := (HX2.out.next hb).six0; clear f1 f2 f3 g1 g2 g3 hb; obtain ⟨f1, f2, f3⟩ := f1'; obtain ⟨g1, g2, g3⟩ := g1')
        | (go_at_call 80; refine (HS.out _).mono ?_; rintro e w2 ⟨rfl, hb⟩; have B2 := Lib.hid (bnext HV.out hb); have HZ1 := Lib.hid ((HY1.out.next hb).setD E); have HZ2 := Lib.hid ((HY2.out.next hb).farD w.heap.size E (by omega)); have HV2 := Lib.hid (below_setD w.heap.size E B2.out (Nat.le_refl _)); have f1' := (HY1.out.next hb).six; have g1' := (HY2.out.next hb).six0; clear f1 f2 f3 g1 g2 g3 hb; obtain ⟨f1, f2, f3⟩ := f1'; obtain ⟨g1, g2, g3⟩ := g1'))
      clear f1 f2 f3 g1 g2 g3
      generalize ((((((w2.setCell ⟨w.heap.size, 0, none⟩ (.int .u64 (U E.ul))).setCell ⟨w.heap.size, 1, none⟩ (.int .u64 (U E.uh))).setCell ⟨w.heap.size, 2, none⟩ (.int .i64 (S E.sl))).setCell ⟨w.heap.size, 3, none⟩ (.int .i64 (S E.sh))).setCell ⟨w.heap.size, 4, none⟩ (.int .u64 (U E.t.v))).setCell ⟨w.heap.size, 5, none⟩ (.int .u64 (U E.t.m))) = W3 at *
      refine reg8_wp w.heap.size w E R Z g W3 _ _ _ _ _ _ _ _ _ _ _ _ _ _ _ _ _ _ _ _ _ _ _ _ _ _ _ _ _ _ _ _ _ _ _ _ _ _ _ _ _ _ _ _ _ _ _ _ _ _ _ _ _ _ _ _ _ _ _ HR HM HV2 HZ1 HZ2 ?_
      intro s5 s6 s28 s29 s30 s31 s32 s33 s34 s35 s36 s37 s38 W4 hM
      obtain ⟨T, rfl, rfl, hV, hX, hY, hT, hZ⟩ := hM
      clear HZ1 HZ2 HV2 HB HS HR HM B1 B2 HY1 HY2 HV HBW HX1 HX2
      have HV := Lib.hid hV
      have HX := Lib.hid hX
      have HY := Lib.hid hY
      have HZ := Lib.hid hZ
      obtain ⟨f1, f2, f3⟩ := hX.six
      obtain ⟨g1, g2, g3⟩ := hY.six0
      have t1 := hZ.cell 0 _ rfl
      have t2 := hZ.cell 1 _ rfl
      clear hV hX hY hZ
      by_cases e0 : g = true
      · subst e0
        by_cases e1 : U E.uh < U E.ul
        · have HN := Lib.hid (stepT_2 HT.out (.inr (bgood_f1 e1)) h2 HC.out)
          go_wp2_with fail
          exact bodyPost_ret (v := .tuple #[.agg #[.int .u64 (U bzero.ul), .int .u64 (U bzero.uh), .int .i64 (S bzero.sl), .int .i64 (S bzero.sh), .int .u64 (U bzero.t.v), .int .u64 (U bzero.t.m)], .bool false]) (by simp [results, Try.results50, go_sem, bzero, U_0, S_0, g1]) rfl ⟨tidyV_none HN.out, set6 HV.out (by omega)⟩
        have e1' : U E.ul ≤ U E.uh := by omega
        clear e1
        by_cases e2 : S E.sh < S E.sl
        · have HN := Lib.hid (stepT_2 HT.out (.inr (bgood_f2 e2)) h2 HC.out)
          go_wp2_with fail
          exact bodyPost_ret (v := .tuple #[.agg #[.int .u64 (U bzero.ul), .int .u64 (U bzero.uh), .int .i64 (S bzero.sl), .int .i64 (S bzero.sh), .int .u64 (U bzero.t.v), .int .u64 (U bzero.t.m)], .bool false]) (by simp [results, Try.results50, go_sem, bzero, U_0, S_0, g1]) rfl ⟨tidyV_none HN.out, set6 HV.out (by omega)⟩
        have e2' : S E.sl ≤ S E.sh := by omega
        clear e2
        have HN := Lib.hid (stepT_3 HT.out G1.out rfl (bgood_t e1' e2') HC.out)
        go_wp2_with fail
        go_roundw
        case rel => exact ⟨k + 1, { E with t := Z }, by omega, by go_num, HN.out, (HV.out.setCell (by exact Nat.le_refl _) _).setCell (by exact Nat.le_refl _) _, (HX.out.set (i := 4) (by simp [bv]) _).set (i := 5) (by simp [bv]) _, (HY.out.setOther (by simp) _).setOther (by simp) _⟩
        case measure => simp [intOf]; omega
      · have e0' : g = false := by simpa using e0
        clear e0
        subst e0'
        have HN := Lib.hid (stepT_2 HT.out (.inl rfl) h2 HC.out)
        go_wp2_with fail
        exact bodyPost_ret (v := .tuple #[.agg #[.int .u64 (U bzero.ul), .int .u64 (U bzero.uh), .int .i64 (S bzero.sl), .int .i64 (S bzero.sh), .int .u64 (U bzero.t.v), .int .u64 (U bzero.t.m)], .bool false]) (by simp [results, Try.results50, go_sem, bzero, U_0, S_0, g1]) rfl ⟨tidyV_none HN.out, set6 HV.out (by omega)⟩
    · have hk2 : k = 2 := by omega
      subst hk2
      rw [iterT_two] at hc
      have HC := Lib.hid (show tidyV (tidy b) = .tuple #[.agg #[.int .u64 (U c.ul), .int .u64 (U c.uh), .int .i64 (S c.sl), .int .i64 (S c.sh), .int .u64 (U c.t.v), .int .u64 (U c.t.m)], .bool true] by rw [hc]; rfl)
      have HB := Lib.hid hb
      obtain ⟨f1, f2, f3⟩ := X1.six
      obtain ⟨g1, g2, g3⟩ := X2.six0
      clear hc hb X1 X2
      go_wp2_with fail
      exact bodyPost_ret (v := .tuple #[.agg #[.int .u64 (U c.ul), .int .u64 (U c.uh), .int .i64 (S c.sl), .int .i64 (S c.sh), .int .u64 (U c.t.v), .int .u64 (U c.t.m)], .bool true]) (by simp [results, Try.results50, go_sem, g1]) rfl ⟨by rw [HC.out], set6 HB.out (by omega)⟩
end Go.Proofs.Yticjhcbkkkkckaa
