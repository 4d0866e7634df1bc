/- States: rows of one's own, cell by cell; what the document's own copy of a state is. -/
import Derived.Test.YtdipmlamjjpcoaaSM
namespace Go.Proofs.Ytdipmlamjjpcoaa
open Go.RowKit
attribute [local go_sem] b_and b_or b_xor b_andNot b_low b_top b_most b_signed b_unsigned b_zero b_eq s_eq b_nzero b_neq s_neq b_max b_min s_max s_min
attribute [local go_sem ↓] Go.wp_at_zero Go.wp_at_succ

/-- a row of what is known in a block of its own -/
structure Rk (W : World) (g : Nat) (l : List Kn) : Prop where
  lt : g < W.heap.size
  cell : ∀ i, i < l.length → W.cell? ⟨g, i * 8, none⟩ = some (.int .i64 ((rg l i)).kind) ∧ W.cell? ⟨g, i * 8 + 1, none⟩ = some (.int .u64 (U ((rg l i)).num.ul)) ∧ W.cell? ⟨g, i * 8 + 2, none⟩ = some (.int .u64 (U ((rg l i)).num.uh)) ∧ W.cell? ⟨g, i * 8 + 3, none⟩ = some (.int .i64 (S ((rg l i)).num.sl)) ∧ W.cell? ⟨g, i * 8 + 4, none⟩ = some (.int .i64 (S ((rg l i)).num.sh)) ∧ W.cell? ⟨g, i * 8 + 5, none⟩ = some (.int .u64 (U ((rg l i)).num.t.v)) ∧ W.cell? ⟨g, i * 8 + 6, none⟩ = some (.int .u64 (U ((rg l i)).num.t.m)) ∧ W.cell? ⟨g, i * 8 + 7, none⟩ = some (.int .i64 ((rg l i)).reg)
  fr : ∀ j, W.frozen? ⟨g, j, none⟩ = false
/-- bools in a block of their own -/
structure Rb (W : World) (g : Nat) (l : List Bool) : Prop where
  lt : g < W.heap.size
  cell : ∀ i, i < l.length → W.cell? ⟨g, i, none⟩ = some (.bool (st l i))
  fr : ∀ j, W.frozen? ⟨g, j, none⟩ = false
theorem Rk.next {W W' : World} {g : Nat} {l : List Kn} (h : Rk W g l) (hb : Below W.heap.size W W') : Rk W' g l :=
  ⟨Nat.lt_of_lt_of_le h.lt hb.size, fun i hi => by
    obtain ⟨e0, e1, e2, e3, e4, e5, e6, e7⟩ := h.cell i hi
    exact ⟨(hb.cell (p := ⟨g, i * 8, none⟩) h.lt).trans e0, (hb.cell (p := ⟨g, i * 8 + 1, none⟩) h.lt).trans e1, (hb.cell (p := ⟨g, i * 8 + 2, none⟩) h.lt).trans e2, (hb.cell (p := ⟨g, i * 8 + 3, none⟩) h.lt).trans e3, (hb.cell (p := ⟨g, i * 8 + 4, none⟩) h.lt).trans e4, (hb.cell (p := ⟨g, i * 8 + 5, none⟩) h.lt).trans e5, (hb.cell (p := ⟨g, i * 8 + 6, none⟩) h.lt).trans e6, (hb.cell (p := ⟨g, i * 8 + 7, none⟩) h.lt).trans e7⟩,
   fun j => (hb.frozen (p := ⟨g, j, none⟩) h.lt).trans (h.fr j)⟩
theorem Rb.next {W W' : World} {g : Nat} {l : List Bool} (h : Rb W g l) (hb : Below W.heap.size W W') : Rb W' g l :=
  ⟨Nat.lt_of_lt_of_le h.lt hb.size, fun i hi => (hb.cell (p := ⟨g, i, none⟩) h.lt).trans (h.cell i hi), fun j => (hb.frozen (p := ⟨g, j, none⟩) h.lt).trans (h.fr j)⟩
theorem Rk.other {W : World} {g : Nat} {l : List Kn} (h : Rk W g l) {a : Addr} (ha : a.block ≠ g) (v : Value) : Rk (W.setCell a v) g l :=
  ⟨by simpa [World.setCell] using h.lt, fun i hi => by
    obtain ⟨e0, e1, e2, e3, e4, e5, e6, e7⟩ := h.cell i hi
    have f : ∀ j, (W.setCell a v).cell? ⟨g, j, none⟩ = W.cell? ⟨g, j, none⟩ := fun j => World.cell?_setCell_other _ _ _ _ (fun e => ha (congrArg Addr.block e))
    exact ⟨(f _).trans e0, (f _).trans e1, (f _).trans e2, (f _).trans e3, (f _).trans e4, (f _).trans e5, (f _).trans e6, (f _).trans e7⟩,
   fun j => (World.frozen?_setCell ..).trans (h.fr j)⟩
theorem Rb.other {W : World} {g : Nat} {l : List Bool} (h : Rb W g l) {a : Addr} (ha : a.block ≠ g) (v : Value) : Rb (W.setCell a v) g l :=
  ⟨by simpa [World.setCell] using h.lt, fun i hi => (World.cell?_setCell_other _ _ _ _ (fun e => ha (congrArg Addr.block e))).trans (h.cell i hi), fun j => (World.frozen?_setCell ..).trans (h.fr j)⟩
theorem Rb.set {W : World} {g k : Nat} {l : List Bool} (h : Rb W g l) (hk : k < l.length) (b : Bool) : Rb (W.setCell ⟨g, k, none⟩ (.bool b)) g (l.set k b) := by
  refine ⟨by simpa [World.setCell] using h.lt, fun i hi => ?_, fun j => (World.frozen?_setCell ..).trans (h.fr j)⟩
  rw [List.length_set] at hi
  by_cases e : i = k
  · subst e
    have : st (l.set i b) i = b := by simp [st, List.getD, hk]
    rw [this]
    exact World.cell?_setCell_same _ _ _ (h.cell i hi)
  · have : st (l.set k b) i = st l i := by simp [st, List.getD, List.getElem?_set_ne (fun e' => e e'.symm)]
    rw [this]
    exact (World.cell?_setCell_other _ _ _ _ (fun e' => e (congrArg Addr.off e').symm)).trans (h.cell i hi)
/-- the eight stores of a Known -/
def put8 (W : World) (g o : Nat) (x : Kn) : World :=
  ((((((((W.setCell ⟨g, o, none⟩ (.int .i64 x.kind)).setCell ⟨g, o + 1, none⟩ (.int .u64 (U x.num.ul))).setCell ⟨g, o + 2, none⟩ (.int .u64 (U x.num.uh))).setCell ⟨g, o + 3, none⟩ (.int .i64 (S x.num.sl))).setCell ⟨g, o + 4, none⟩ (.int .i64 (S x.num.sh))).setCell ⟨g, o + 5, none⟩ (.int .u64 (U x.num.t.v))).setCell ⟨g, o + 6, none⟩ (.int .u64 (U x.num.t.m))).setCell ⟨g, o + 7, none⟩ (.int .i64 x.reg))
theorem put8_far {W : World} {g o : Nat} {x : Kn} {a : Addr} (h : a.block ≠ g ∨ a.off < o ∨ o + 8 ≤ a.off) : (put8 W g o x).cell? a = W.cell? a := by
  have f : ∀ r, r < 8 → (⟨g, o + r, none⟩ : Addr) ≠ a := fun r hr e => by
    subst e
    simp at h
    omega
  unfold put8
  rw [World.cell?_setCell_other _ _ _ _ (f 7 (by omega)), World.cell?_setCell_other _ _ _ _ (f 6 (by omega)), World.cell?_setCell_other _ _ _ _ (f 5 (by omega)), World.cell?_setCell_other _ _ _ _ (f 4 (by omega)), World.cell?_setCell_other _ _ _ _ (f 3 (by omega)), World.cell?_setCell_other _ _ _ _ (f 2 (by omega)), World.cell?_setCell_other _ _ _ _ (f 1 (by omega)), World.cell?_setCell_other _ _ _ _ (show (⟨g, o, none⟩ : Addr) ≠ a from f 0 (by omega))]
theorem put8_frozen {W : World} {g o : Nat} {x : Kn} {a : Addr} : (put8 W g o x).frozen? a = W.frozen? a := by
  unfold put8
  simp only [World.frozen?_setCell]
theorem put8_size {W : World} {g o : Nat} {x : Kn} : (put8 W g o x).heap.size = W.heap.size := by
  unfold put8
  simp [World.setCell]
theorem set_same {W : World} {a b : Addr} {u v : Value} (h : W.cell? a = some u) (e : b = a) : (W.setCell a v).cell? b = some v := by subst e; exact World.cell?_setCell_same _ _ _ h
theorem set_keep {W : World} {a b : Addr} {u v : Value} (h : W.cell? b = some u) (e : a ≠ b) : (W.setCell a v).cell? b = some u := (World.cell?_setCell_other _ _ _ _ e).trans h
theorem off_ne (g i j : Nat) (h : i ≠ j) : (⟨g, i, none⟩ : Addr) ≠ ⟨g, j, none⟩ := fun e => h (congrArg Addr.off e)
theorem put8_at {W : World} {g o : Nat} {x y : Kn} (h : W.cell? ⟨g, o, none⟩ = some (.int .i64 y.kind) ∧ W.cell? ⟨g, o + 1, none⟩ = some (.int .u64 (U y.num.ul)) ∧ W.cell? ⟨g, o + 2, none⟩ = some (.int .u64 (U y.num.uh)) ∧ W.cell? ⟨g, o + 3, none⟩ = some (.int .i64 (S y.num.sl)) ∧ W.cell? ⟨g, o + 4, none⟩ = some (.int .i64 (S y.num.sh)) ∧ W.cell? ⟨g, o + 5, none⟩ = some (.int .u64 (U y.num.t.v)) ∧ W.cell? ⟨g, o + 6, none⟩ = some (.int .u64 (U y.num.t.m)) ∧ W.cell? ⟨g, o + 7, none⟩ = some (.int .i64 y.reg)) : (put8 W g o x).cell? ⟨g, o, none⟩ = some (.int .i64 x.kind) ∧ (put8 W g o x).cell? ⟨g, o + 1, none⟩ = some (.int .u64 (U x.num.ul)) ∧ (put8 W g o x).cell? ⟨g, o + 2, none⟩ = some (.int .u64 (U x.num.uh)) ∧ (put8 W g o x).cell? ⟨g, o + 3, none⟩ = some (.int .i64 (S x.num.sl)) ∧ (put8 W g o x).cell? ⟨g, o + 4, none⟩ = some (.int .i64 (S x.num.sh)) ∧ (put8 W g o x).cell? ⟨g, o + 5, none⟩ = some (.int .u64 (U x.num.t.v)) ∧ (put8 W g o x).cell? ⟨g, o + 6, none⟩ = some (.int .u64 (U x.num.t.m)) ∧ (put8 W g o x).cell? ⟨g, o + 7, none⟩ = some (.int .i64 x.reg) := by
  obtain ⟨e0, e1, e2, e3, e4, e5, e6, e7⟩ := h
  unfold put8
  have n : ∀ i j : Nat, i ≠ j → (⟨g, o + i, none⟩ : Addr) ≠ ⟨g, o + j, none⟩ := fun i j h => off_ne g _ _ (by omega)
  have n0 : ∀ i : Nat, 0 < i → (⟨g, o + i, none⟩ : Addr) ≠ ⟨g, o, none⟩ := fun i h => off_ne g _ _ (by omega)
  have m0 : ∀ i : Nat, 0 < i → (⟨g, o, none⟩ : Addr) ≠ ⟨g, o + i, none⟩ := fun i h => off_ne g _ _ (by omega)
  refine ⟨?_, ?_, ?_, ?_, ?_, ?_, ?_, ?_⟩
  · exact set_keep (set_keep (set_keep (set_keep (set_keep (set_keep (set_keep (set_same e0 rfl) (n0 1 (by omega))) (n0 2 (by omega))) (n0 3 (by omega))) (n0 4 (by omega))) (n0 5 (by omega))) (n0 6 (by omega))) (n0 7 (by omega))
  · exact set_keep (set_keep (set_keep (set_keep (set_keep (set_keep (set_same (set_keep e1 (m0 1 (by omega))) rfl) (n 2 1 (by omega))) (n 3 1 (by omega))) (n 4 1 (by omega))) (n 5 1 (by omega))) (n 6 1 (by omega))) (n 7 1 (by omega))
  · exact set_keep (set_keep (set_keep (set_keep (set_keep (set_same (set_keep (set_keep e2 (m0 2 (by omega))) (n 1 2 (by omega))) rfl) (n 3 2 (by omega))) (n 4 2 (by omega))) (n 5 2 (by omega))) (n 6 2 (by omega))) (n 7 2 (by omega))
  · exact set_keep (set_keep (set_keep (set_keep (set_same (set_keep (set_keep (set_keep e3 (m0 3 (by omega))) (n 1 3 (by omega))) (n 2 3 (by omega))) rfl) (n 4 3 (by omega))) (n 5 3 (by omega))) (n 6 3 (by omega))) (n 7 3 (by omega))
  · exact set_keep (set_keep (set_keep (set_same (set_keep (set_keep (set_keep (set_keep e4 (m0 4 (by omega))) (n 1 4 (by omega))) (n 2 4 (by omega))) (n 3 4 (by omega))) rfl) (n 5 4 (by omega))) (n 6 4 (by omega))) (n 7 4 (by omega))
  · exact set_keep (set_keep (set_same (set_keep (set_keep (set_keep (set_keep (set_keep e5 (m0 5 (by omega))) (n 1 5 (by omega))) (n 2 5 (by omega))) (n 3 5 (by omega))) (n 4 5 (by omega))) rfl) (n 6 5 (by omega))) (n 7 5 (by omega))
  · exact set_keep (set_same (set_keep (set_keep (set_keep (set_keep (set_keep (set_keep e6 (m0 6 (by omega))) (n 1 6 (by omega))) (n 2 6 (by omega))) (n 3 6 (by omega))) (n 4 6 (by omega))) (n 5 6 (by omega))) rfl) (n 7 6 (by omega))
  · exact set_same (set_keep (set_keep (set_keep (set_keep (set_keep (set_keep (set_keep e7 (m0 7 (by omega))) (n 1 7 (by omega))) (n 2 7 (by omega))) (n 3 7 (by omega))) (n 4 7 (by omega))) (n 5 7 (by omega))) (n 6 7 (by omega))) rfl
theorem rg_setK {l : List Kn} {k i : Nat} {x : Kn} (hk : k < l.length) : rg (l.set k x) i = if i = k then x else rg l i := by
  unfold rg
  by_cases e : i = k
  · subst e; simp [List.getD, hk]
  · simp [List.getD, List.getElem?_set_ne (fun e' => e e'.symm), e]
theorem Rk.set {W : World} {g k : Nat} {l : List Kn} (h : Rk W g l) (hk : k < l.length) (x : Kn) : Rk (put8 W g (k * 8) x) g (l.set k x) := by
  refine ⟨by rw [put8_size]; exact h.lt, fun i hi => ?_, fun j => put8_frozen.trans (h.fr j)⟩
  rw [List.length_set] at hi
  rw [rg_setK hk]
  by_cases e : i = k
  · subst e
    rw [if_pos rfl]
    exact put8_at (h.cell i hi)
  · rw [if_neg e]
    obtain ⟨e0, e1, e2, e3, e4, e5, e6, e7⟩ := h.cell i hi
    have f : ∀ r, r < 8 → (put8 W g (k * 8) x).cell? ⟨g, i * 8 + r, none⟩ = W.cell? ⟨g, i * 8 + r, none⟩ := fun r hr => put8_far (.inr (by show i * 8 + r < k * 8 ∨ k * 8 + 8 ≤ i * 8 + r; omega))
    exact ⟨(f 0 (by omega)).trans e0, (f 1 (by omega)).trans e1, (f 2 (by omega)).trans e2, (f 3 (by omega)).trans e3, (f 4 (by omega)).trans e4, (f 5 (by omega)).trans e5, (f 6 (by omega)).trans e6, (f 7 (by omega)).trans e7⟩
theorem Rk.far {W : World} {g g' o : Nat} {l : List Kn} (h : Rk W g l) (hne : g' ≠ g) (x : Kn) : Rk (put8 W g' o x) g l := by
  unfold put8
  exact (((((((h.other (a := ⟨g', o, none⟩) hne _).other (a := ⟨g', o + 1, none⟩) hne _).other (a := ⟨g', o + 2, none⟩) hne _).other (a := ⟨g', o + 3, none⟩) hne _).other (a := ⟨g', o + 4, none⟩) hne _).other (a := ⟨g', o + 5, none⟩) hne _).other (a := ⟨g', o + 6, none⟩) hne _).other (a := ⟨g', o + 7, none⟩) hne _
theorem Rb.far {W : World} {g g' o : Nat} {l : List Bool} (h : Rb W g l) (hne : g' ≠ g) (x : Kn) : Rb (put8 W g' o x) g l := by
  unfold put8
  exact (((((((h.other (a := ⟨g', o, none⟩) hne _).other (a := ⟨g', o + 1, none⟩) hne _).other (a := ⟨g', o + 2, none⟩) hne _).other (a := ⟨g', o + 3, none⟩) hne _).other (a := ⟨g', o + 4, none⟩) hne _).other (a := ⟨g', o + 5, none⟩) hne _).other (a := ⟨g', o + 6, none⟩) hne _).other (a := ⟨g', o + 7, none⟩) hne _
theorem Box.far8 {W : World} {g g' o : Nat} {l : List Value} (h : Box W g l) (hne : g' ≠ g) (x : Kn) : Box (put8 W g' o x) g l := by
  unfold put8
  exact (((((((h.setOther (a := ⟨g', o, none⟩) hne _).setOther (a := ⟨g', o + 1, none⟩) hne _).setOther (a := ⟨g', o + 2, none⟩) hne _).setOther (a := ⟨g', o + 3, none⟩) hne _).setOther (a := ⟨g', o + 4, none⟩) hne _).setOther (a := ⟨g', o + 5, none⟩) hne _).setOther (a := ⟨g', o + 6, none⟩) hne _).setOther (a := ⟨g', o + 7, none⟩) hne _
theorem below_put8 {B : Nat} {a W : World} {g o : Nat} {x : Kn} (h : Below B a W) (hg : B ≤ g) : Below B a (put8 W g o x) := by
  unfold put8
  exact (((((((h.setCell (p := ⟨g, o, none⟩) hg _).setCell (p := ⟨g, o + 1, none⟩) hg _).setCell (p := ⟨g, o + 2, none⟩) hg _).setCell (p := ⟨g, o + 3, none⟩) hg _).setCell (p := ⟨g, o + 4, none⟩) hg _).setCell (p := ⟨g, o + 5, none⟩) hg _).setCell (p := ⟨g, o + 6, none⟩) hg _).setCell (p := ⟨g, o + 7, none⟩) hg _
theorem Rk.at {W : World} {g : Nat} {l : List Kn} (h : Rk W g l) (hs : l.length * 64 ≤ 140737488351232) : KnAt W (some ⟨g, 0, none⟩) l :=
  ⟨hs, fun i hi => ⟨g, 0, rfl, h.lt, by simpa only [Nat.zero_add] using h.cell i hi⟩⟩
theorem Rb.at {W : World} {g : Nat} {l : List Bool} (h : Rb W g l) (hs : l.length ≤ 140737488351232) : BoolsAt W (some ⟨g, 0, none⟩) l :=
  ⟨hs, fun i hi => ⟨g, 0, rfl, h.lt, by simpa only [Nat.zero_add] using h.cell i hi⟩⟩
theorem own_rk {w : World} {base g cap : Nat} {l : List Kn} (h : w.ownsRow base 33 8 (.slice (some ⟨g, 0, none⟩) l.length cap) l.length (knV l)) : Rk w g l := by
  have hc : ∀ i r, i < l.length → r < 8 → w.cell? ⟨g, i * 8 + r, none⟩ = (knC (rg l i))[r]? := fun i r hi hr => (h.cellAt _ (by omega)).trans (knV_at l i r hi hr)
  refine ⟨(h.lt g rfl).2, fun i hi => ⟨hc i 0 hi (by omega), hc i 1 hi (by omega), hc i 2 hi (by omega), hc i 3 hi (by omega), hc i 4 hi (by omega), hc i 5 hi (by omega), hc i 6 hi (by omega), hc i 7 hi (by omega)⟩, fun j => ?_⟩
  rcases h.2 with ⟨h', _⟩ | ⟨g', cap', cur, h', _, hg, _⟩
  · cases h'
  · simp only [Value.slice.injEq, Option.some.injEq, Addr.mk.injEq, and_true, true_and] at h'
    obtain ⟨rfl, rfl⟩ := h'
    simp [World.frozen?, hg]
theorem own_rb {w : World} {base g cap : Nat} {l : List Bool} (h : w.ownsRow base 4 1 (.slice (some ⟨g, 0, none⟩) l.length cap) l.length (blV l)) : Rb w g l := by
  refine ⟨(h.lt g rfl).2, fun i hi => (h.cellAt _ (by omega)).trans (by simp [blV, st, List.getElem?_eq_getElem hi, List.getD]), fun j => ?_⟩
  rcases h.2 with ⟨h', _⟩ | ⟨g', cap', cur, h', _, hg, _⟩
  · cases h'
  · simp only [Value.slice.injEq, Option.some.injEq, Addr.mk.injEq, and_true, true_and] at h'
    obtain ⟨rfl, rfl⟩ := h'
    simp [World.frozen?, hg]
theorem own_q {w : World} {base e size n c : Nat} {q : Option Addr} {xs : List Value} (h : w.ownsRow base e size (.slice q n c) n xs) (hn : 0 < n) : ∃ g, q = some ⟨g, 0, none⟩ ∧ base ≤ g := by
  rcases h.2 with ⟨h', h0⟩ | ⟨g', cap', cur, h', hb, _⟩
  · omega
  · injection h' with h1 h2 h3
    exact ⟨g', h1, hb⟩
theorem own_cap {w : World} {base e size n c : Nat} {q : Option Addr} {xs : List Value} (h : w.ownsRow base e size (.slice q n c) n xs) : n ≤ c := by
  rcases h.2 with ⟨h', h0⟩ | ⟨g', cap', cur, h', _, _, hc, _⟩
  · omega
  · injection h' with h1 h2 h3
    omega
theorem own_knAt {w : World} {base c : Nat} {q : Option Addr} {l : List Kn} (h : w.ownsRow base 33 8 (.slice q l.length c) l.length (knV l)) (hs : l.length * 64 ≤ 140737488351232) : KnAt w q l := by
  refine ⟨hs, fun i hi => ?_⟩
  obtain ⟨g, rfl, _⟩ := own_q h (by omega)
  exact ((own_rk h).at hs).cells i hi
theorem own_blAt {w : World} {base c : Nat} {q : Option Addr} {l : List Bool} (h : w.ownsRow base 4 1 (.slice q l.length c) l.length (blV l)) (hs : l.length ≤ 140737488351232) : BoolsAt w q l := by
  refine ⟨hs, fun i hi => ?_⟩
  obtain ⟨g, rfl, _⟩ := own_q h (by omega)
  exact ((own_rb h).at hs).cells i hi
/-- rows of one's own that hold a right state -/
structure Rows (W : World) (base : Nat) (B : AbA) (s : Ab) (g1 g2 g3 : Nat) : Prop where
  p1 : B.p1 = some ⟨g1, 0, none⟩
  p2 : B.p2 = some ⟨g2, 0, none⟩
  p3 : B.p3 = some ⟨g3, 0, none⟩
  b1 : base ≤ g1
  b2 : base ≤ g2
  b3 : base ≤ g3
  n12 : g1 ≠ g2
  n13 : g1 ≠ g3
  n23 : g2 ≠ g3
  r1 : Rk W g1 s.regs
  r2 : Rb W g2 s.set
  r3 : Rk W g3 s.saved
/-- a state's rows lie from this block on -/
def Up (b : Nat) (B : AbA) : Prop := (∀ ad, B.p1 = some ad → b ≤ ad.block) ∧ (∀ ad, B.p2 = some ad → b ≤ ad.block) ∧ (∀ ad, B.p3 = some ad → b ≤ ad.block)
theorem own_up {w : World} {base e size n c : Nat} {q : Option Addr} {xs : List Value} (h : w.ownsRow base e size (.slice q n c) n xs) : ∀ ad, q = some ad → base ≤ ad.block := by
  rintro ad rfl
  exact (h.lt ad.block rfl).1
theorem KnAt.out {W : World} {q : Option Addr} {l : List Kn} (h : KnAt W q l) {m i : Nat} {v : Value} (hq : ∀ ad, q = some ad → m < ad.block) : KnAt (W.setCell ⟨m, i, none⟩ v) q l :=
  ⟨h.small, fun j hj => by
    obtain ⟨b, off, e, hb, e0, e1, e2, e3, e4, e5, e6, e7⟩ := h.cells j hj
    have hm := hq _ e
    have f : ∀ x, (W.setCell ⟨m, i, none⟩ v).cell? ⟨b, x, none⟩ = W.cell? ⟨b, x, none⟩ := fun x => World.cell?_setCell_other _ _ _ _ (fun e => by have := congrArg Addr.block e; simp at this hm; omega)
    exact ⟨b, off, e, by simpa [World.setCell] using hb, (f _).trans e0, (f _).trans e1, (f _).trans e2, (f _).trans e3, (f _).trans e4, (f _).trans e5, (f _).trans e6, (f _).trans e7⟩⟩
theorem BoolsAt.out {W : World} {q : Option Addr} {l : List Bool} (h : BoolsAt W q l) {m i : Nat} {v : Value} (hq : ∀ ad, q = some ad → m < ad.block) : BoolsAt (W.setCell ⟨m, i, none⟩ v) q l :=
  ⟨h.small, fun j hj => by
    obtain ⟨b, off, e, hb, e0⟩ := h.cells j hj
    have hm := hq _ e
    exact ⟨b, off, e, by simpa [World.setCell] using hb, (World.cell?_setCell_other _ _ _ _ (fun e => by have := congrArg Addr.block e; simp at this hm; omega)).trans e0⟩⟩
theorem AbAt.out {W : World} {B : AbA} {s : Ab} (h : AbAt W B s) {b m i : Nat} {v : Value} (hu : Up b B) (hm : m < b) : AbAt (W.setCell ⟨m, i, none⟩ v) B s :=
  ⟨h.r.out (fun ad e => Nat.lt_of_lt_of_le hm (hu.1 ad e)), h.b.out (fun ad e => Nat.lt_of_lt_of_le hm (hu.2.1 ad e)), h.v.out (fun ad e => Nat.lt_of_lt_of_le hm (hu.2.2 ad e)), h.cap⟩
theorem rcopy_any (A : AbA) (s : Ab) (w : World) (h : AbAt w A s) : Calls Try.prog 15 #[.agg #[.slice A.p1 s.regs.length A.c1, .slice A.p2 s.set.length A.c2, .slice A.p3 s.saved.length A.c3]] w fun e w' => ∃ B : AbA, e = .returned (.agg #[.slice B.p1 s.regs.length B.c1, .slice B.p2 s.set.length B.c2, .slice B.p3 s.saved.length B.c3]) ∧ Below w.heap.size w w' ∧ AbAt w' B s ∧ Up w.heap.size B ∧ (checkS s = true → ∃ g1 g2 g3, Rows w' w.heap.size B s g1 g2 g3) := by
  refine (rcopy_0 A s w h).mono ?_
  rintro e w' ⟨B, o1, o2, o3, rfl, hb, h1, h2, h3, rfl, rfl, rfl, a12, a13, a23⟩
  refine ⟨B, rfl, hb, ⟨own_knAt h1 h.r.small, own_blAt h2 h.b.small, own_knAt h3 h.v.small, own_cap h1, own_cap h2, own_cap h3⟩, ⟨own_up h1, own_up h2, own_up h3⟩, fun hc => ?_⟩
  obtain ⟨⟨n1, n2, n3⟩, _⟩ := check_iff.1 hc
  obtain ⟨g1, e1, b1⟩ := own_q h1 (by omega)
  obtain ⟨g2, e2, b2⟩ := own_q h2 (by omega)
  obtain ⟨g3, e3, b3⟩ := own_q h3 (by omega)
  rw [e1, e2] at a12
  rw [e1, e3] at a13
  rw [e2, e3] at a23
  rw [e1] at h1
  rw [e2] at h2
  rw [e3] at h3
  exact ⟨g1, g2, g3, e1, e2, e3, b1, b2, b3, fun e => a12 g1 rfl (by rw [e]; rfl), fun e => a13 g1 rfl (by rw [e]; rfl), fun e => a23 g2 rfl (by rw [e]; rfl), own_rk h1, own_rb h2, own_rk h3⟩
end Go.Proofs.Ytdipmlamjjpcoaa
