/- Rows of numbers and of bools in memory; numbers compared. -/
import Derived.Test.YtgaacdnljkildaaProg
import Derived.Test.YtgaacdnljkildaaGP
import Derived.WalkKit
import Derived.Lib.Hide
import Derived.WalkSpells
import Derived.WalkLawsBesides
import Derived.BigQuiet
import Derived.Deep.QuietTactic
import Derived.IntWalk
import Derived.Deep.RegionWith
import Derived.Deep.RegionHeld3
import Derived.Deep.OwnRows
import Derived.Laws.CopyOwn
import Derived.Maps.AppendAt
import Derived.Laws.OwnMore
import Derived.Deep.LoopGhost
namespace Go.Proofs.Ytgaacdnljkildaa
open Go.RowKit

theorem bcell {W w1 : World} (hb : Below W.heap.size W w1) : (∀ b o, b < W.heap.size → w1.cell? ⟨b, o, none⟩ = W.cell? ⟨b, o, none⟩) ∧ (∀ b o, b < W.heap.size → w1.frozen? ⟨b, o, none⟩ = W.frozen? ⟨b, o, none⟩) :=
  ⟨fun b o h => hb.cell (p := ⟨b, o, none⟩) h, fun b o h => hb.frozen (p := ⟨b, o, none⟩) h⟩
theorem below_next {w w1 w2 : World} (h : Below w.heap.size w w1) (h2 : Below w1.heap.size w1 w2) : Below w.heap.size w w2 :=
  h.trans (h2.mono h.size)
theorem owns_cells {w : World} {base : Nat} {e : TypeId} {v : Value} {n : Nat} {xs : List Value} (h : w.ownsRow base e 1 v n xs) (hn : 0 < n) :
    ∃ g cap cur, v = .slice (some ⟨g, 0, none⟩) n cap ∧ base ≤ g ∧ g < w.heap.size ∧ n ≤ cap ∧ cap ≤ maxLen ∧ w.heap[g]? = some (.cells cur e (0, 0)) ∧ ∀ i x, i < n → xs[i]? = some x → w.cell? ⟨g, i, none⟩ = some x := by
  obtain ⟨hl, h | ⟨g, cap, cur, hv, hg, hh, h1, h2, h3, h4⟩⟩ := h
  · omega
  · refine ⟨g, cap, cur, hv, hg, ?_, h1, h2, hh, fun i x hi hx => ?_⟩
    · exact (Array.getElem?_eq_some_iff.1 hh).1
    · rw [Nat.mul_one] at h4
      rw [← h4, List.getElem?_take_of_lt hi] at hx
      simp only [World.cell?, hh]
      simpa using hx

theorem own_ge {w : World} {base : Nat} {e : TypeId} {size : Nat} {v : Value} {n : Nat} {xs : List Value} (h : w.ownsRow base e size v n xs) : ∀ k, v.ownBlock = some k → base ≤ k := by
  obtain ⟨_, ⟨rfl, _⟩ | ⟨g, cap, cur, rfl, hb, _⟩⟩ := h
  · simp [Value.ownBlock]
  · intro k hk
    simp [Value.ownBlock] at hk
    omega
theorem heap_new (w : World) (o : Obj) : (w.alloc o).heap[w.heap.size]? = some o := by
  show (w.heap.push o)[w.heap.size]? = _
  simp
theorem one_in {w w1 : World} {o1 : Obj} (h : Below (w.alloc o1).heap.size (w.alloc o1) w1) : w.heap.size < w1.heap.size := by
  have := h.size; simp at this; omega
theorem two_in {w w1 : World} {o1 o2 : Obj} (h : Below ((w.alloc o1).alloc o2).heap.size ((w.alloc o1).alloc o2) w1) : w.heap.size < w1.heap.size ∧ w.heap.size + 1 < w1.heap.size := by
  have := h.size; simp at this; omega
theorem more_in {a b : Nat} {B : Nat} {w w1 : World} (h1 : a < w.heap.size) (h2 : b < w.heap.size) (h : Below B w w1) : a < w1.heap.size ∧ b < w1.heap.size :=
  ⟨Nat.lt_of_lt_of_le h1 h.size, Nat.lt_of_lt_of_le h2 h.size⟩
theorem below1 {w w1 : World} {o1 : Obj} (h : Below (w.alloc o1).heap.size (w.alloc o1) w1) : Below w.heap.size w w1 :=
  ((Below.refl _ _).alloc (Nat.le_refl _) _).trans (h.mono (by simp))
theorem below2 {w w1 : World} {o1 o2 : Obj} (h : Below ((w.alloc o1).alloc o2).heap.size ((w.alloc o1).alloc o2) w1) : Below w.heap.size w w1 :=
  (((Below.refl _ _).alloc (Nat.le_refl _) _).alloc (by simp) _).trans (h.mono (by simp; omega))
theorem below_drewN {B : Nat} {a w : World} (h : Below B a w) (n : Nat) : Below B a (w.drewN n) := ⟨h.os, h.tape, h.output, h.size, h.block⟩
theorem cell_new (w : World) {cs : Array Value} {t : TypeId} {fr : Nat × Nat} {i : Nat} {v : Value} (h : cs[i]? = some v) : (w.alloc (.cells cs t fr)).cell? ⟨w.heap.size, i, none⟩ = some v := by
  simp only [World.cell?, heap_new]
  exact h
theorem cell_new2 (w : World) (o : Obj) {cs : Array Value} {t : TypeId} {fr : Nat × Nat} {i : Nat} {v : Value} (_ : True) (h : cs[i]? = some v) : ((w.alloc o).alloc (.cells cs t fr)).cell? ⟨w.heap.size + 1, i, none⟩ = some v := by
  have := cell_new (w.alloc o) (t := t) (fr := fr) h
  rwa [World.size_alloc] at this
theorem below1d {w w1 : World} {o1 : Obj} (h : Below (w.alloc o1).drew.heap.size (w.alloc o1).drew w1) : Below w.heap.size w w1 :=
  ((Below.refl _ _).alloc (Nat.le_refl _) _).drew.trans (h.mono (by simp))
theorem box_in {w w1 : World} {o : Obj} (h : Below (w.alloc o).drew.heap.size (w.alloc o).drew w1) {i : Nat} {v : Value} (hv : (w.alloc o).cell? ⟨w.heap.size, i, none⟩ = some v) : w1.cell? ⟨w.heap.size, i, none⟩ = some v := by
  have h' : Below (w.alloc o).heap.size (w.alloc o) w1 := ⟨h.os, h.tape, h.output, h.size, h.block⟩
  exact (h'.cell (p := ⟨w.heap.size, i, none⟩) (by simp)).trans hv
theorem own_below {w w' : World} {B : Nat} {e : TypeId} {size n : Nat} {v : Value} {xs : List Value} (h : w.ownsRow B e size v n xs) (hb : Below w.heap.size w w') : w'.ownsRow B e size v n xs := by
  obtain ⟨hl, h | ⟨g, cap, cur, hv, hg, hh, h1, h2, h3, h4⟩⟩ := h
  · exact ⟨hl, .inl h⟩
  · exact ⟨hl, .inr ⟨g, cap, cur, hv, hg, (hb.block g (Array.getElem?_eq_some_iff.1 hh).1).trans hh, h1, h2, h3, h4⟩⟩
/-- numbers lie in memory -/
structure NumsAt (k : IntKind) (w : World) (q : Option Addr) (xs : List Int) : Prop where
  small : xs.length ≤ 140737488351232
  cells : ∀ i, i < xs.length → ∃ b off, q = some ⟨b, off, none⟩ ∧ b < w.heap.size ∧ w.cell? ⟨b, off + i, none⟩ = some (.int k (xs.getD i 0))
theorem NumsAt.below {k : IntKind} {w w' : World} {q : Option Addr} {l : List Int} (h : NumsAt k w q l) (hb : Below w.heap.size w w') : NumsAt k w' q l :=
  ⟨h.small, fun i hi => by
    obtain ⟨b, off, hp, hbl, h0⟩ := h.cells i hi
    exact ⟨b, off, hp, Nat.lt_of_lt_of_le hbl hb.size, (hb.cell (p := ⟨b, off + i, none⟩) hbl).trans h0⟩⟩
theorem nums_new {k : IntKind} (w : World) (t : TypeId) (xs : List Int) (cs : Array Value) (hc : cs = (xs.map (Value.int k)).toArray) (hs : xs.length ≤ 4096) : NumsAt k (w.alloc (.cells cs t)) (some ⟨w.heap.size, 0, none⟩) xs :=
  ⟨by omega, fun j hj => ⟨_, _, rfl, by simp, cell_new w (by subst hc; simp [hj])⟩⟩
theorem b1 {w : World} {o : Obj} : Below w.heap.size w (w.alloc o) := (Below.refl _ _).alloc (Nat.le_refl _) _
theorem b2 {w : World} {o1 o2 : Obj} : Below w.heap.size w ((w.alloc o1).alloc o2) := b1.alloc (by simp) _

theorem nums_nil (w : World) (p : Option Addr) : NumsAt .i64 w p [] := ⟨Nat.zero_le _, fun _ h => absurd h (Nat.not_lt_zero _)⟩
set_option maxHeartbeats 1000000 in
theorem ints_eq (p q : Option Addr) (c d : Nat) (a : List Int) (w : World) (h1 : NumsAt .i64 w p a) (h2 : NumsAt .i64 w q a) :
    Calls Try.prog 15 #[.slice p a.length c, .slice q a.length d] w fun e w' => e = .returned (.bool true) ∧ Below w.heap.size w w' := by
  have hs := h1.small
  have H1 := Lib.hid h1
  have H2 := Lib.hid h2
  obtain ⟨N, hN⟩ : ∃ N, a.length = N := ⟨_, rfl⟩
  rw [hN] at hs ⊢
  have HN := Lib.hid hN
  clear hN h1 h2
  go_enter Try.func15, Try.ntmps15
  go_wp2
  go_loopw [5] (fun i wr => ∃ k : Nat, k ≤ N ∧ i = .int .i64 k ∧ Below w.heap.size w wr) (fun i _ => N - (intOf i).toNat)
  case atStart => exact ⟨0, Nat.zero_le _, rfl, Below.refl _ _⟩
  case round =>
    obtain ⟨k, hk, rfl, hb⟩ := hrel
    have HB := Lib.hid hb
    by_cases hlt : k < N
    · obtain ⟨b1, o1, rfl, hl1, c0⟩ := (H1.out.below hb).cells k (by rw [HN.out]; exact hlt)
      obtain ⟨b2, o2, rfl, hl2, d0⟩ := (H2.out.below hb).cells k (by rw [HN.out]; exact hlt)
      clear hb
      generalize a.getD k 0 = X at *
      go_wp2_with fail
      go_quiet (fail)
      go_wp2
      go_roundw
      case rel => exact ⟨k + 1, by omega, by go_num, below_drewN HB.out _⟩
      case measure => simp [intOf]; omega
    · clear hb
      go_wp2
      go_ret
      exact ⟨rfl, HB.out⟩
def intsV (l : List Int) : List Value := l.map (Value.int .i64)
theorem intsV_len (l : List Int) : (intsV l).length = l.length * 1 := by simp [intsV]
theorem intsV_one (l : List Int) : ∀ u ∈ intsV l, u.oneCell' = true := by
  intro u hu
  obtain ⟨k, _, rfl⟩ := List.mem_map.1 hu
  rfl
theorem intsV_app (l m : List Int) : intsV (l ++ m) = intsV l ++ intsV m := List.map_append ..
theorem intsV_get {l : List Int} {i : Nat} (h : i < l.length) : (intsV l)[i]? = some (.int .i64 (l.getD i 0)) := by
  simp [intsV, List.getElem?_eq_getElem h, List.getD]
theorem ints_src {W : World} {b off : Nat} {l : List Int} (h : NumsAt .i64 W (some ⟨b, off, none⟩) l) : ∀ j u, (intsV l)[j]? = some u → W.cell? ((⟨b, off, none⟩ : Addr).add j) = some u := by
  intro j u hj
  have hl : j < l.length := by simpa [intsV] using (List.getElem?_eq_some_iff.1 hj).1
  obtain ⟨b', off', hq, _, e0⟩ := h.cells j hl
  obtain ⟨rfl, rfl⟩ : b = b' ∧ off = off' := by injection hq with hq; injection hq with h1 h2; exact ⟨h1, h2⟩
  have ea : (⟨b, off, none⟩ : Addr).add j = ⟨b, off + j, none⟩ := by
    unfold Addr.add
    by_cases h0 : j = 0
    · subst h0; rfl
    · rw [if_neg h0]
  rw [ea, e0, ← intsV_get hl]
  exact hj
theorem infoInt : (Try.prog.info? 3).map (fun i => (i.zero, i.size, i.bytes)) = some (some (.int .i64 0), 1, 8) := by kernel_rfl
theorem infoBool : (Try.prog.info? 4).map (fun i => (i.zero, i.size, i.bytes)) = some (some (.bool false), 1, 1) := by kernel_rfl
/-- numbers appended to a row of one's own -/
theorem app_ints {w : World} {base : Nat} {q : Option Addr} {xs l : List Int} {v : Value} (h1 : w.ownsRow base 3 1 v l.length (intsV l)) (hs : NumsAt .i64 w q xs) (hb : base ≤ w.heap.size) (hm : l.length + xs.length ≤ 1099511627776) (c : Nat) :
    ∃ v' w', (Builtin.append_ #[27, 27] 27 #[v, .slice q xs.length c]).run Try.prog w = .ok v' w' ∧ w'.ownsRow base 3 1 v' (l ++ xs).length (intsV (l ++ xs)) ∧ w.grownBy w' v.ownBlock ∧ (v'.ownBlock = v.ownBlock ∨ v'.ownBlock = some w.heap.size) := by
  obtain ⟨i5, h5, g5, s5, b5⟩ := info_parts infoInt
  cases q with
  | none =>
    have e : xs = [] := by
      cases xs with
      | nil => rfl
      | cons x ys => obtain ⟨_, _, e, _⟩ := hs.cells 0 (by simp); cases e
    subst e
    have hr : (Builtin.append_ #[27, 27] 27 #[v, .slice none 0 c]).run Try.prog w = .ok v w := by
      rcases h1.2 with ⟨rfl, _⟩ | ⟨g, cap, cur, rfl, _, _, hnc, _⟩
      · simp [Builtin.append_, run_underlying Try.underlying27, sizeOf, typeInfo, h5, Builtin.lenOf, Builtin.firstCells]
      · simp [Builtin.append_, run_underlying Try.underlying27, sizeOf, typeInfo, h5, Builtin.lenOf, Builtin.firstCells, storeCells, hnc]
    refine ⟨v, w, hr, ?_, ⟨rfl, rfl, rfl, Nat.le_refl _, fun _ _ _ => rfl⟩, .inl rfl⟩
    rw [List.append_nil]; exact h1
  | some ad =>
    have hsp : ∃ b off, ad = ⟨b, off, none⟩ ∨ xs = [] := by
      cases xs with
      | nil => exact ⟨0, 0, .inr rfl⟩
      | cons x xs => obtain ⟨b, off, e, _⟩ := hs.cells 0 (by simp); injection e with e; exact ⟨b, off, .inl e⟩
    have hsrc : ∀ j u, (intsV xs)[j]? = some u → w.cell? (ad.add j) = some u := by
      obtain ⟨b, off, rfl | rfl⟩ := hsp
      · exact ints_src hs
      · intro j u hj; simp [intsV] at hj
    obtain ⟨v', w', hrun, r1, r2, _, r4⟩ := run_append_own_at (P := Try.prog) w base 27 27 3 i5 _ 1 8 Try.underlying27 h5 g5 s5 b5 rfl (by decide) v l.length (intsV l) h1 ad xs.length c (intsV xs) (intsV_len xs) hsrc (intsV_one xs) (by simp only [maxLen]; omega) (by omega) hb
    rw [← List.length_append, ← intsV_app] at r1
    exact ⟨v', w', hrun, r1, r2, r4⟩
/-- the same as a step of the walk -/
theorem wpList_app_ints {w : World} {ops : Array Oper} {rest : List Oper} {o : Oper} {a : Act} {Q : Exit → Act → World → Prop} (hg : o.guard = none) (s x : Operand) (hop : o.op = Op.call { callee := Callee.builtin Builtin.append, args := #[s, x], argTypes := #[27, 27] }) (hty : o.type = 27)
    (base : Nat) (q : Option Addr) (xs l : List Int) (v : Value) (n c : Nat) (hn : xs.length = n) (hs : a.eval s = v) (hx : a.eval x = .slice q n c) (h1 : w.ownsRow base 3 1 v l.length (intsV l)) (hN : NumsAt .i64 w q xs) (hb : base ≤ w.heap.size) (hm : l.length + xs.length ≤ 1099511627776)
    (hK : ∀ v' w', w'.ownsRow base 3 1 v' (l ++ xs).length (intsV (l ++ xs)) → w.grownBy w' v.ownBlock → (v'.ownBlock = v.ownBlock ∨ v'.ownBlock = some w.heap.size) → wpList Try.prog ops Q rest (a.put o.dst v') w') :
    wpList Try.prog ops Q (o :: rest) a w := by
  subst hn
  refine wpList_plain hg fun K hK' => ?_
  obtain ⟨v', w', hrun, r1, r2, r3⟩ := app_ints h1 hN hb hm c
  unfold Oper.wp
  simp [execOp, hop, resolve, invoke, builtin, hs, hx, hty, hrun, Result.andThen]
  exact hK' _ _ (hK v' w' r1 r2 r3)
/-- a number taken off the end -/
theorem own_pop {w : World} {base g cap : Nat} {l : List Int} {x : Int} {e : TypeId} (h : w.ownsRow base e 1 (.slice (some ⟨g, 0, none⟩) (l ++ [x]).length cap) (l ++ [x]).length (intsV (l ++ [x]))) :
    w.ownsRow base e 1 (.slice (some ⟨g, 0, none⟩) l.length cap) l.length (intsV l) ∧ w.cell? ⟨g, l.length, none⟩ = some (.int .i64 x) ∧ l.length < cap := by
  have hc := h.cellAt l.length (by simp)
  have hv : (intsV (l ++ [x]))[l.length]? = some (.int .i64 x) := by simp [intsV]
  refine ⟨?_, hc.trans hv, ?_⟩
  · refine ⟨intsV_len l, .inr ?_⟩
    rcases h.2 with ⟨h', _⟩ | ⟨g', cap', cur, h', hb, hg, h1, h2, h3, h4⟩
    · cases h'
    · simp only [Value.slice.injEq, Option.some.injEq, Addr.mk.injEq, and_true, true_and] at h'
      obtain ⟨rfl, rfl⟩ := h'
      refine ⟨g, cap, cur, rfl, hb, hg, by simp at h1; omega, h2, h3, ?_⟩
      have := congrArg (List.take l.length) h4
      rw [List.take_take] at this
      simp [intsV] at this
      simpa [intsV] using this
  · rcases h.2 with ⟨h', _⟩ | ⟨g', cap', cur, h', hb, hg, h1, h2, h3, h4⟩
    · cases h'
    · simp only [Value.slice.injEq, Option.some.injEq, Addr.mk.injEq, and_true, true_and] at h'
      obtain ⟨rfl, rfl⟩ := h'
      simp at h1
      omega
/-- what a row of one's own looks like that is not empty -/
theorem own_some {w : World} {base n : Nat} {e : TypeId} {v : Value} {xs : List Value} (h : w.ownsRow base e 1 v n xs) (hn : 0 < n) : ∃ g cap, v = .slice (some ⟨g, 0, none⟩) n cap ∧ base ≤ g ∧ g < w.heap.size := by
  rcases h.2 with ⟨_, h0⟩ | ⟨g, cap, cur, hv, hb, hg, _⟩
  · omega
  · exact ⟨g, cap, hv, hb, (Array.getElem?_eq_some_iff.1 hg).1⟩
theorem own_nums {w : World} {base c : Nat} {q : Option Addr} {l : List Int} (h : w.ownsRow base 3 1 (.slice q l.length c) l.length (intsV l)) (hs : l.length ≤ 140737488351232) : NumsAt .i64 w q l := by
  refine ⟨hs, fun i hi => ?_⟩
  obtain ⟨g, cap, e, _, hg⟩ := own_some h (by omega)
  injection e with e1 e2 e3
  subst e1
  exact ⟨g, 0, rfl, hg, by rw [Nat.zero_add, h.cellAt i (by omega)]; exact intsV_get hi⟩
/-- bools in a block of their own -/
structure Rb (W : World) (g : Nat) (l : List Bool) : Prop where
  lt : g < W.heap.size
  cell : ∀ i, i < l.length → W.cell? ⟨g, i, none⟩ = some (.bool (l.getD i false))
  fr : ∀ j, W.frozen? ⟨g, j, none⟩ = false
theorem Rb.next {W W' : World} {g : Nat} {l : List Bool} (h : Rb W g l) (hb : Below W.heap.size W W') : Rb W' g l :=
  ⟨Nat.lt_of_lt_of_le h.lt hb.size, fun i hi => (hb.cell (p := ⟨g, i, none⟩) h.lt).trans (h.cell i hi), fun j => (hb.frozen (p := ⟨g, j, none⟩) h.lt).trans (h.fr j)⟩
theorem Rb.grown {W W' : World} {g : Nat} {l : List Bool} {row : Option Nat} (h : Rb W g l) (hg : W.grownBy W' row) (hn : row ≠ some g) : Rb W' g l := by
  have hb := hg.block g h.lt (fun e => hn e.symm)
  exact ⟨Nat.lt_of_lt_of_le h.lt hg.size, fun i hi => (World.cell?_of_block (a := ⟨g, i, none⟩) hb).trans (h.cell i hi), fun j => (World.frozen?_of_block (a := ⟨g, j, none⟩) hb).trans (h.fr j)⟩
theorem Rb.other {W : World} {g : Nat} {l : List Bool} (h : Rb W g l) {a : Addr} (ha : a.block ≠ g) (v : Value) : Rb (W.setCell a v) g l :=
  ⟨by simpa [World.setCell] using h.lt, fun i hi => (World.cell?_setCell_other _ _ _ _ (fun e => ha (congrArg Addr.block e))).trans (h.cell i hi), fun j => (World.frozen?_setCell ..).trans (h.fr j)⟩
theorem Rb.set {W : World} {g k : Nat} {l : List Bool} (h : Rb W g l) (hk : k < l.length) : Rb (W.setCell ⟨g, k, none⟩ (.bool true)) g (l.set k true) := by
  refine ⟨by simpa [World.setCell] using h.lt, fun i hi => ?_, fun j => (World.frozen?_setCell ..).trans (h.fr j)⟩
  rw [List.length_set] at hi
  rw [Dm.getD_set_t]
  by_cases e : i = k
  · subst e
    simp only [hi, and_self, decide_true, Bool.true_or]
    exact World.cell?_setCell_same _ _ _ (h.cell i hi)
  · simp only [e, false_and, decide_false, Bool.false_or]
    exact (World.cell?_setCell_other _ _ _ _ (fun e' => e (congrArg Addr.off e').symm)).trans (h.cell i hi)
theorem own_setOther {W : World} {base e size n : Nat} {v u : Value} {xs : List Value} {a : Addr} (h : W.ownsRow base e size v n xs) (hm : v.ownBlock ≠ some a.block) : (W.setCell a u).ownsRow base e size v n xs :=
  h.kept (row := some a.block) ⟨rfl, rfl, rfl, by simp [World.setCell], fun k _ hk => Below.heap_setCell W a u k (fun e => hk (by rw [e]))⟩ (.inr hm)
theorem new_cells0 (w : World) (cs : List Value) (t : TypeId) : ∀ j u, cs[j]? = some u → (w.alloc (.cells cs.toArray t)).cell? ((⟨w.heap.size, 0, none⟩ : Addr).add j) = some u := by
  intro j u hu
  have h := cell_new w (cs := cs.toArray) (t := t) (fr := (0, 0)) (i := j) (v := u) (by simpa using hu)
  by_cases h0 : j = 0
  · subst h0; simpa [Addr.add] using h
  · simpa [Addr.add, h0] using h
theorem bools_ext {l m : List Bool} (hl : l.length = m.length) (h : ∀ i, i < l.length → l.getD i false = m.getD i false) : l = m := by
  refine List.ext_getElem hl fun i h1 h2 => ?_
  have := h i h1
  rwa [List.getD_eq_getElem?_getD, List.getD_eq_getElem?_getD, List.getElem?_eq_getElem h1, List.getElem?_eq_getElem h2] at this
end Go.Proofs.Ytgaacdnljkildaa
