/- States: rows that a call makes of its own: three chains of a copy. -/
import Derived.Test.YtdipmlamjjpcoaaSH
import Derived.Maps.AppendAt
import Derived.Laws.OwnMore
import Derived.OrdersHeld
namespace Go.Proofs.Ytdipmlamjjpcoaa
open Go.RowKit
attribute [local go_sem] b_and b_or b_xor b_andNot b_low b_top b_most b_signed b_unsigned b_zero b_eq s_eq b_nzero b_neq s_neq b_max b_min s_max s_min
attribute [local go_sem ↓] Go.wp_at_zero Go.wp_at_succ

def knC (k : Kn) : List Value := [.int .i64 k.kind, .int .u64 (U k.num.ul), .int .u64 (U k.num.uh), .int .i64 (S k.num.sl), .int .i64 (S k.num.sh), .int .u64 (U k.num.t.v), .int .u64 (U k.num.t.m), .int .i64 k.reg]
def knV (l : List Kn) : List Value := l.flatMap knC
def blV (l : List Bool) : List Value := l.map Value.bool
theorem knV_len (l : List Kn) : (knV l).length = l.length * 8 := by
  induction l with
  | nil => rfl
  | cons k l ih =>
    have : (knV (k :: l)).length = 8 + (knV l).length := by simp [knV, knC]; omega
    rw [this, ih, List.length_cons]; omega
theorem knV_at : ∀ (l : List Kn) (i r : Nat), i < l.length → r < 8 → (knV l)[i * 8 + r]? = (knC (rg l i))[r]?
  | [], i, r, hi, _ => absurd hi (Nat.not_lt_zero _)
  | k :: l, 0, r, _, hr => by
    have e : knV (k :: l) = knC k ++ knV l := rfl
    rw [e, Nat.zero_mul, Nat.zero_add, List.getElem?_append_left (by simpa [knC] using hr)]
    rfl
  | k :: l, i + 1, r, hi, hr => by
    have e : knV (k :: l) = knC k ++ knV l := rfl
    rw [e, List.getElem?_append_right (by simp [knC]; omega)]
    have e2 : (i + 1) * 8 + r - (knC k).length = i * 8 + r := by simp [knC]; omega
    rw [e2, knV_at l i r (by simpa using hi) hr]
    rfl
theorem knV_one (l : List Kn) : ∀ u ∈ knV l, u.oneCell' = true := by
  intro u hu
  obtain ⟨k, _, hk⟩ := List.mem_flatMap.1 hu
  simp [knC] at hk
  rcases hk with rfl | rfl | rfl | rfl | rfl | rfl | rfl | rfl <;> rfl
theorem blV_one (l : List Bool) : ∀ u ∈ blV l, u.oneCell' = true := by
  intro u hu
  obtain ⟨k, _, rfl⟩ := List.mem_map.1 hu
  rfl
theorem kn_src {W : World} {b off : Nat} {l : List Kn} (h : KnAt W (some ⟨b, off, none⟩) l) : ∀ j u, (knV l)[j]? = some u → W.cell? ((⟨b, off, none⟩ : Addr).add j) = some u := by
  intro j u hj
  have hl := (List.getElem?_eq_some_iff.1 hj).1
  rw [knV_len] at hl
  have hi : j / 8 < l.length := by omega
  have hr : j % 8 < 8 := Nat.mod_lt _ (by omega)
  have ej : j / 8 * 8 + j % 8 = j := by omega
  obtain ⟨b', off', hq, _, e0, e1, e2, e3, e4, e5, e6, e7⟩ := h.cells (j / 8) hi
  obtain ⟨rfl, rfl⟩ : b = b' ∧ off = off' := by injection hq with hq; injection hq with h1 h2; exact ⟨h1, h2⟩
  have ea : (⟨b, off, none⟩ : Addr).add j = ⟨b, off + j / 8 * 8 + j % 8, none⟩ := by
    unfold Addr.add
    by_cases h0 : j = 0
    · subst h0; rfl
    · rw [if_neg h0]; simp; omega
  rw [ea]
  rw [← ej, knV_at l _ _ hi hr] at hj
  generalize j % 8 = r at *
  match r, hr with
  | 0, _ => exact e0.trans hj
  | 1, _ => exact e1.trans hj
  | 2, _ => exact e2.trans hj
  | 3, _ => exact e3.trans hj
  | 4, _ => exact e4.trans hj
  | 5, _ => exact e5.trans hj
  | 6, _ => exact e6.trans hj
  | 7, _ => exact e7.trans hj
theorem bl_src {W : World} {b off : Nat} {l : List Bool} (h : BoolsAt W (some ⟨b, off, none⟩) l) : ∀ j u, (blV l)[j]? = some u → W.cell? ((⟨b, off, none⟩ : Addr).add j) = some u := by
  intro j u hj
  have hl := (List.getElem?_eq_some_iff.1 hj).1
  have hl' : j < l.length := by simpa [blV] using hl
  obtain ⟨b', off', hq, _, e0⟩ := h.cells j hl'
  obtain ⟨rfl, rfl⟩ : b = b' ∧ off = off' := by injection hq with hq; injection hq with h1 h2; exact ⟨h1, h2⟩
  have ea : (⟨b, off, none⟩ : Addr).add j = ⟨b, off + j, none⟩ := by
    unfold Addr.add
    by_cases h0 : j = 0
    · subst h0; rfl
    · rw [if_neg h0]
  rw [ea, e0]
  have : (blV l)[j]? = some (.bool (st l j)) := by simp [blV, st, List.getElem?_eq_getElem hl', List.getD]
  rw [this] at hj
  exact hj
/-- one of the three rows on its way: 0 not begun, 1 made empty, 2 filled; which block it has -/
def Ch (w : World) (base e size n : Nat) (xs : List Value) (ph : Nat) (v u : Value) (o : Option Nat) : Prop :=
  (ph = 0 ∧ o = none) ∨ (ph = 1 ∧ w.ownsRow base e size v 0 [] ∧ o = v.ownBlock) ∨ (ph = 2 ∧ w.ownsRow base e size u n xs ∧ o = u.ownBlock)
theorem Ch.kept {w w' : World} {base e size n : Nat} {xs : List Value} {ph : Nat} {v u : Value} {o row : Option Nat} (h : Ch w base e size n xs ph v u o) (hg : w.grownBy w' row) (hne : o = none ∨ o ≠ row) : Ch w' base e size n xs ph v u o := by
  rcases h with h | ⟨h1, h2, h3⟩ | ⟨h1, h2, h3⟩
  · exact .inl h
  · exact .inr (.inl ⟨h1, h2.kept hg (h3 ▸ hne), h3⟩)
  · exact .inr (.inr ⟨h1, h2.kept hg (h3 ▸ hne), h3⟩)
theorem Ch.lt {w : World} {base e size n : Nat} {xs : List Value} {ph : Nat} {v u : Value} {o : Option Nat} (h : Ch w base e size n xs ph v u o) {k : Nat} (hk : o = some k) : base ≤ k ∧ k < w.heap.size := by
  rcases h with ⟨_, h⟩ | ⟨_, h2, h3⟩ | ⟨_, h2, h3⟩
  · rw [h] at hk; cases hk
  · exact h2.lt k (h3 ▸ hk)
  · exact h2.lt k (h3 ▸ hk)
theorem Ch.none0 {w : World} {base e size n : Nat} {xs : List Value} {v u : Value} : Ch w base e size n xs 0 v u none := .inl ⟨rfl, rfl⟩
theorem Ch.at0 {w : World} {base e size n : Nat} {xs : List Value} {v u : Value} {o : Option Nat} (h : Ch w base e size n xs 0 v u o) : o = none := by
  rcases h with ⟨_, h⟩ | ⟨h, _⟩ | ⟨h, _⟩
  · exact h
  · cases h
  · cases h
theorem Ch.at1 {w : World} {base e size n : Nat} {xs : List Value} {v u : Value} {o : Option Nat} (h : Ch w base e size n xs 1 v u o) : w.ownsRow base e size v 0 [] ∧ o = v.ownBlock := by
  rcases h with ⟨h, _⟩ | ⟨_, h⟩ | ⟨h, _⟩
  · cases h
  · exact h
  · cases h
theorem Ch.at2 {w : World} {base e size n : Nat} {xs : List Value} {v u : Value} {o : Option Nat} (h : Ch w base e size n xs 2 v u o) : w.ownsRow base e size u n xs ∧ o = u.ownBlock := by
  rcases h with ⟨h, _⟩ | ⟨h, _⟩ | ⟨_, h⟩
  · cases h
  · cases h
  · exact h
def Apt (a b : Option Nat) : Prop := ∀ k, a = some k → b ≠ some k
theorem Apt.symm {a b : Option Nat} (h : Apt a b) : Apt b a := fun k hb ha => h k ha hb
theorem Apt.ne {a b : Option Nat} (h : Apt a b) : a = none ∨ a ≠ b := by
  cases a with
  | none => exact .inl rfl
  | some k => exact .inr (fun e => h k rfl e.symm)
/-- one row's turn: what the others have stays -/
theorem Ch.turn {w w' : World} {base e size n : Nat} {xs : List Value} {ph : Nat} {v u : Value} {o a a' : Option Nat} (h : Ch w base e size n xs ph v u o) (ha : Apt a o) (hg : w.grownBy w' a) (hn : a' = a ∨ a' = some w.heap.size) : Ch w' base e size n xs ph v u o ∧ Apt a' o := by
  refine ⟨h.kept hg ha.symm.ne, ?_⟩
  rcases hn with rfl | rfl
  · exact ha
  · intro k hk ho
    have := (h.lt ho).2
    injection hk with hk
    omega
theorem grown_alloc (w : World) (o : Obj) (row : Option Nat) : w.grownBy (w.alloc o) row := ⟨rfl, rfl, rfl, by simp, fun k hk _ => Below.heap_alloc w o k hk⟩
theorem Ch.made (w : World) {base e size n : Nat} {xs : List Value} (u : Value) (hb : base ≤ w.heap.size) : Ch (w.alloc (.cells #[] e)) base e size n xs 1 (.slice (some ⟨w.heap.size, 0, none⟩) 0 0) u (some w.heap.size) :=
  .inr (.inl ⟨rfl, World.ownsRow_made w #[] 0 hb (Nat.zero_le _) (by simp), rfl⟩)
theorem blV_len (l : List Bool) : (blV l).length = l.length * 1 := by simp [blV]
theorem infoKn : (Try.prog.info? 33).map (fun i => (i.zero, i.size, i.bytes)) = some (some (.agg #[.int .i64 0, .int .u64 0, .int .u64 0, .int .i64 0, .int .i64 0, .int .u64 0, .int .u64 0, .int .i64 0]), 8, 64) := by kernel_rfl
theorem infoBl : (Try.prog.info? 4).map (fun i => (i.zero, i.size, i.bytes)) = some (some (.bool false), 1, 1) := by kernel_rfl
/-- a row filled -/
theorem app_kn {w : World} {base : Nat} {q : Option Addr} {l : List Kn} {v u : Value} {o : Option Nat} (h : Ch w base 33 8 l.length (knV l) 1 v u o) (hs : KnAt w q l) (hb : base ≤ w.heap.size) (c : Nat) :
    ∃ v' w' o', (Builtin.append_ #[22, 22] 22 #[v, .slice q l.length c]).run Try.prog w = .ok v' w' ∧ Ch w' base 33 8 l.length (knV l) 2 v v' o' ∧ w.grownBy w' o ∧ (o' = o ∨ o' = some w.heap.size) := by
  obtain ⟨h1, rfl⟩ := h.at1
  obtain ⟨i5, h5, g5, s5, b5⟩ := info_parts infoKn
  have hsm := hs.small
  cases q with
  | none =>
    have e : l = [] := by
      cases l with
      | nil => rfl
      | cons x xs => obtain ⟨_, _, e, _⟩ := hs.cells 0 (by simp); cases e
    subst e
    have hcc : ∀ c', Value.slice none ([] : List Kn).length c' = .slice none 0 c' := fun _ => rfl
    have hr : (Builtin.append_ #[22, 22] 22 #[v, .slice none 0 c]).run Try.prog w = .ok v w := by
      rcases h1.2 with ⟨rfl, _⟩ | ⟨g, cap, cur, rfl, _, _, hnc, _⟩
      · simp [Builtin.append_, run_underlying Try.underlying22, sizeOf, typeInfo, h5, Builtin.lenOf, Builtin.firstCells]
      · simp [Builtin.append_, run_underlying Try.underlying22, sizeOf, typeInfo, h5, Builtin.lenOf, Builtin.firstCells, storeCells]
    exact ⟨v, w, v.ownBlock, hr, .inr (.inr ⟨rfl, h1, rfl⟩), ⟨rfl, rfl, rfl, Nat.le_refl _, fun _ _ _ => rfl⟩, .inl rfl⟩
  | some ad =>
    have hsp : ∃ b off, ad = ⟨b, off, none⟩ ∨ l = [] := by
      cases l with
      | nil => exact ⟨0, 0, .inr rfl⟩
      | cons x xs => obtain ⟨b, off, e, _⟩ := hs.cells 0 (by simp); injection e with e; exact ⟨b, off, .inl e⟩
    have hsrc : ∀ j u, (knV l)[j]? = some u → w.cell? (ad.add j) = some u := by
      obtain ⟨b, off, rfl | rfl⟩ := hsp
      · exact kn_src hs
      · intro j u hj; simp [knV] at hj
    obtain ⟨v', w', hrun, r1, r2, _, r4⟩ := run_append_own_at (P := Try.prog) w base 22 22 33 i5 _ 8 64 Try.underlying22 h5 g5 s5 b5 rfl (by decide) v 0 [] h1 ad l.length c (knV l) (knV_len l) hsrc (knV_one l) (by simp only [maxLen]; omega) (by omega) hb
    rw [Nat.zero_add, List.nil_append] at r1
    exact ⟨v', w', v'.ownBlock, hrun, .inr (.inr ⟨rfl, r1, rfl⟩), r2, r4⟩
/-- a row filled -/
theorem app_bl {w : World} {base : Nat} {q : Option Addr} {l : List Bool} {v u : Value} {o : Option Nat} (h : Ch w base 4 1 l.length (blV l) 1 v u o) (hs : BoolsAt w q l) (hb : base ≤ w.heap.size) (c : Nat) :
    ∃ v' w' o', (Builtin.append_ #[23, 23] 23 #[v, .slice q l.length c]).run Try.prog w = .ok v' w' ∧ Ch w' base 4 1 l.length (blV l) 2 v v' o' ∧ w.grownBy w' o ∧ (o' = o ∨ o' = some w.heap.size) := by
  obtain ⟨h1, rfl⟩ := h.at1
  obtain ⟨i5, h5, g5, s5, b5⟩ := info_parts infoBl
  have hsm := hs.small
  cases q with
  | none =>
    have e : l = [] := by
      cases l with
      | nil => rfl
      | cons x xs => obtain ⟨_, _, e, _⟩ := hs.cells 0 (by simp); cases e
    subst e
    have hcc : ∀ c', Value.slice none ([] : List Bool).length c' = .slice none 0 c' := fun _ => rfl
    have hr : (Builtin.append_ #[23, 23] 23 #[v, .slice none 0 c]).run Try.prog w = .ok v w := by
      rcases h1.2 with ⟨rfl, _⟩ | ⟨g, cap, cur, rfl, _, _, hnc, _⟩
      · simp [Builtin.append_, run_underlying Try.underlying23, sizeOf, typeInfo, h5, Builtin.lenOf, Builtin.firstCells]
      · simp [Builtin.append_, run_underlying Try.underlying23, sizeOf, typeInfo, h5, Builtin.lenOf, Builtin.firstCells, storeCells]
    exact ⟨v, w, v.ownBlock, hr, .inr (.inr ⟨rfl, h1, rfl⟩), ⟨rfl, rfl, rfl, Nat.le_refl _, fun _ _ _ => rfl⟩, .inl rfl⟩
  | some ad =>
    have hsp : ∃ b off, ad = ⟨b, off, none⟩ ∨ l = [] := by
      cases l with
      | nil => exact ⟨0, 0, .inr rfl⟩
      | cons x xs => obtain ⟨b, off, e, _⟩ := hs.cells 0 (by simp); injection e with e; exact ⟨b, off, .inl e⟩
    have hsrc : ∀ j u, (blV l)[j]? = some u → w.cell? (ad.add j) = some u := by
      obtain ⟨b, off, rfl | rfl⟩ := hsp
      · exact bl_src hs
      · intro j u hj; simp [blV] at hj
    obtain ⟨v', w', hrun, r1, r2, _, r4⟩ := run_append_own_at (P := Try.prog) w base 23 23 4 i5 _ 1 1 Try.underlying23 h5 g5 s5 b5 rfl (by decide) v 0 [] h1 ad l.length c (blV l) (blV_len l) hsrc (blV_one l) (by simp only [maxLen]; omega) (by omega) hb
    rw [Nat.zero_add, List.nil_append] at r1
    exact ⟨v', w', v'.ownBlock, hrun, .inr (.inr ⟨rfl, r1, rfl⟩), r2, r4⟩
end Go.Proofs.Ytdipmlamjjpcoaa
