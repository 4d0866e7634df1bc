/- Dominance: a struct with rows of numbers of one's own; what a walk keeps in memory. -/
import Derived.Test.YtgaacdnljkildaaDE
import Derived.Test.YtgaacdnljkildaaGK
import Derived.Maps.OwnSet
import Derived.Maps.OwnOps
namespace Go.Proofs.Ytgaacdnljkildaa
open Go.RowKit
open Dm

theorem below_grown {W W' : World} (h : Below W.heap.size W W') : W.grownBy W' none := ⟨h.os, h.tape, h.output, h.size, fun k hk _ => h.block k hk⟩
theorem set_grown (W : World) (a : Addr) (v : Value) : W.grownBy (W.setCell a v) (some a.block) :=
  ⟨rfl, rfl, rfl, by simp [World.setCell], fun k _ hk => Below.heap_setCell W a v k (fun e => hk (by rw [e]))⟩
/-- what lay below B is as it was, but for the blocks in X -/
structure Chg (B : Nat) (X : Nat → Prop) (w W : World) : Prop where
  os : W.os = w.os
  tape : W.tape = w.tape
  output : W.output = w.output
  size : w.heap.size ≤ W.heap.size
  block : ∀ k, k < B → ¬ X k → W.heap[k]? = w.heap[k]?
theorem Chg.refl (B : Nat) (X : Nat → Prop) (w : World) : Chg B X w w := ⟨rfl, rfl, rfl, Nat.le_refl _, fun _ _ _ => rfl⟩
theorem Chg.grown {B : Nat} {X : Nat → Prop} {w W W' : World} {row : Option Nat} (h : Chg B X w W) (hg : W.grownBy W' row) (hB : B ≤ W.heap.size) (hr : ∀ k, row = some k → B ≤ k ∨ X k) : Chg B X w W' := by
  refine ⟨hg.os.trans h.os, hg.tape.trans h.tape, hg.output.trans h.output, Nat.le_trans h.size hg.size, fun k hk hx => (hg.block k (by omega) (fun e => ?_)).trans (h.block k hk hx)⟩
  rcases hr k e.symm with c | c
  · omega
  · exact hx c
theorem Chg.trans {B : Nat} {X : Nat → Prop} {a b c : World} (h : Chg B X a b) (k : Chg B X b c) : Chg B X a c :=
  ⟨k.os.trans h.os, k.tape.trans h.tape, k.output.trans h.output, Nat.le_trans h.size k.size, fun i hi hx => (k.block i hi hx).trans (h.block i hi hx)⟩
theorem Chg.below {B : Nat} {X : Nat → Prop} {w W : World} (h : Chg B X w W) {A : Nat} (hA : A ≤ B) (hX : ∀ k, X k → A ≤ k) : Below A w W :=
  ⟨h.os, h.tape, h.output, h.size, fun k hk => h.block k (by omega) (fun c => by have := hX k c; omega)⟩
theorem Chg.cell {B : Nat} {X : Nat → Prop} {w W : World} (h : Chg B X w W) {k : Nat} (hk : k < B) (hx : ¬ X k) (o : Nat) : W.cell? ⟨k, o, none⟩ = w.cell? ⟨k, o, none⟩ := World.cell?_of_block (a := ⟨k, o, none⟩) (h.block k hk hx)
theorem Chg.fz {B : Nat} {X : Nat → Prop} {w W : World} (h : Chg B X w W) {k : Nat} (hk : k < B) (hx : ¬ X k) (o : Nat) : W.frozen? ⟨k, o, none⟩ = w.frozen? ⟨k, o, none⟩ := World.frozen?_of_block (a := ⟨k, o, none⟩) (h.block k hk hx)
/-- a struct in block b, whose fields js are rows of numbers of one's own -/
structure Sr (base : Nat) (W : World) (b : Nat) (js : List Nat) (r : Nat → List Int) (q : Nat → Option Addr) (c : Nat → Nat) : Prop where
  bl : b < W.heap.size
  fz : ∀ j, W.frozen? ⟨b, j, none⟩ = false
  cl : ∀ j ∈ js, W.cell? ⟨b, j, none⟩ = some (.slice (q j) (r j).length (c j))
  own : ∀ j ∈ js, W.ownsRow base 3 1 (.slice (q j) (r j).length (c j)) (r j).length (intsV (r j))
  ne : ∀ j ∈ js, (q j).map Addr.block ≠ some b
  ap : ∀ j ∈ js, ∀ k ∈ js, j ≠ k → q j = none ∨ (q j).map Addr.block ≠ (q k).map Addr.block
def up1 {α : Type} (r : Nat → α) (j : Nat) (v : α) : Nat → α := fun k => if k = j then v else r k
theorem up1_at {α : Type} (r : Nat → α) (j : Nat) (v : α) : up1 r j v j = v := if_pos rfl
theorem up1_ne {α : Type} (r : Nat → α) (j : Nat) (v : α) {k : Nat} (h : k ≠ j) : up1 r j v k = r k := if_neg h
theorem up1_id {α : Type} (r : Nat → α) (j : Nat) : up1 r j (r j) = r := funext fun k => by unfold up1; split <;> simp_all
theorem Sr.grown {base b : Nat} {W W' : World} {js : List Nat} {r : Nat → List Int} {q : Nat → Option Addr} {c : Nat → Nat} {row : Option Nat} (h : Sr base W b js r q c) (hg : W.grownBy W' row) (h1 : row ≠ some b) (h2 : ∀ j ∈ js, ∀ k, row = some k → (q j).map Addr.block ≠ some k) : Sr base W' b js r q c := by
  have hb := hg.block b h.bl (fun e => h1 e.symm)
  refine ⟨Nat.lt_of_lt_of_le h.bl hg.size, fun j => (World.frozen?_of_block (a := ⟨b, j, none⟩) hb).trans (h.fz j), fun j hj => (World.cell?_of_block (a := ⟨b, j, none⟩) hb).trans (h.cl j hj), fun j hj => (h.own j hj).kept hg ?_, h.ne, h.ap⟩
  rw [own_blk]
  cases hq : (q j).map Addr.block with
  | none => exact .inl rfl
  | some k => exact .inr (fun e => h2 j hj k e.symm hq)
theorem Sr.next {base b : Nat} {W W' : World} {js : List Nat} {r : Nat → List Int} {q : Nat → Option Addr} {c : Nat → Nat} (h : Sr base W b js r q c) (hb : Below W.heap.size W W') : Sr base W' b js r q c :=
  h.grown (below_grown hb) (by simp) (fun _ _ _ e => by cases e)
theorem Sr.nums {base b : Nat} {W : World} {js : List Nat} {r : Nat → List Int} {q : Nat → Option Addr} {c : Nat → Nat} (h : Sr base W b js r q c) {j : Nat} (hj : j ∈ js) (hs : (r j).length ≤ 140737488351232) : NumsAt .i64 W (q j) (r j) := own_nums (h.own j hj) hs
theorem Sr.blk {base b : Nat} {W : World} {js : List Nat} {r : Nat → List Int} {q : Nat → Option Addr} {c : Nat → Nat} (h : Sr base W b js r q c) {j k : Nat} (hj : j ∈ js) (hk : (q j).map Addr.block = some k) : base ≤ k ∧ k < W.heap.size := (h.own j hj).lt k (by rw [own_blk]; exact hk)
theorem Sr.row {base b : Nat} {W : World} {js : List Nat} {r : Nat → List Int} {q : Nat → Option Addr} {c : Nat → Nat} (h : Sr base W b js r q c) {j : Nat} (hj : j ∈ js) (hi : 0 < (r j).length) :
    ∃ g, q j = some ⟨g, 0, none⟩ ∧ base ≤ g ∧ g < W.heap.size ∧ g ≠ b ∧ (∀ o, W.frozen? ⟨g, o, none⟩ = false) ∧ ∀ i, i < (r j).length → W.cell? ⟨g, i, none⟩ = some (.int .i64 ((r j).getD i 0)) := by
  have ho := h.own j hj
  obtain ⟨g, cap, e, hb, hgl⟩ := own_some ho hi
  injection e with e1 e2 e3
  have hne : g ≠ b := fun e => h.ne j hj (by rw [e1, e]; rfl)
  rw [e1] at ho
  exact ⟨g, e1, hb, hgl, hne, fun o => ho.frozenAt o, fun i hi => by rw [ho.cellAt i (by omega)]; exact intsV_get hi⟩
theorem intsV_set (l : List Int) (i : Nat) (x : Int) : (intsV l).set i (.int .i64 x) = intsV (l.set i x) := by
  unfold intsV; rw [List.map_set]
/-- a number of a row is written -/
theorem Sr.set {base b g : Nat} {W : World} {js : List Nat} {r : Nat → List Int} {q : Nat → Option Addr} {c : Nat → Nat} (h : Sr base W b js r q c) {j : Nat} (hj : j ∈ js) (hq : q j = some ⟨g, 0, none⟩) (i : Nat) (x : Int) :
    Sr base (W.setCell ⟨g, i, none⟩ (.int .i64 x)) b js (up1 r j ((r j).set i x)) q c := by
  have hne : g ≠ b := fun e => h.ne j hj (by rw [hq, e]; rfl)
  have hl : ∀ k, (up1 r j ((r j).set i x) k).length = (r k).length := fun k => by unfold up1; split <;> simp_all
  refine ⟨by simpa [World.setCell] using h.bl, fun o => (World.frozen?_setCell ..).trans (h.fz o), fun k hk => ?_, fun k hk => ?_, h.ne, h.ap⟩
  · rw [hl]
    exact (World.cell?_setCell_other _ _ _ _ (fun e => hne (congrArg Addr.block e))).trans (h.cl k hk)
  · rw [hl]
    by_cases e : k = j
    · subst e
      rw [up1_at, hq, ← intsV_set]
      have ho := h.own k hk
      rw [hq] at ho
      exact (ho.stored i _).1
    · rw [up1_ne _ _ _ e]
      refine own_setOther (a := ⟨g, i, none⟩) (h.own k hk) ?_
      rw [own_blk]
      intro e2
      rcases h.ap k hk j hj e with d | d
      · rw [d] at e2; cases e2
      · exact d (by rw [e2, hq]; rfl)
theorem Sr.ownE {base b : Nat} {W : World} {js : List Nat} {r : Nat → List Int} {q : Nat → Option Addr} {c : Nat → Nat} (h : Sr base W b js r q c) {j : Nat} (hj : j ∈ js) {l : List Int} {qq : Option Addr} {n cc : Nat} (e1 : r j = l) (e2 : q j = qq) (e3 : c j = cc) (hn : n = l.length) : W.ownsRow base 3 1 (.slice qq n cc) l.length (intsV l) := by
  subst e1 e2 e3 hn; exact h.own j hj
theorem Sr.clE {base b : Nat} {W : World} {js : List Nat} {r : Nat → List Int} {q : Nat → Option Addr} {c : Nat → Nat} (h : Sr base W b js r q c) {j : Nat} (hj : j ∈ js) {l : List Int} {qq : Option Addr} {n cc : Nat} (e1 : r j = l) (e2 : q j = qq) (e3 : c j = cc) (hn : l.length = n) : W.cell? ⟨b, j, none⟩ = some (.slice qq n cc) := by
  subst e1 e2 e3 hn; exact h.cl j hj
/-- between an append and its store -/
theorem Sr.mid {base b n : Nat} {W W' : World} {js : List Nat} {r : Nat → List Int} {q : Nat → Option Addr} {c : Nat → Nat} (h : Sr base W b js r q c) {j : Nat} (hj : j ∈ js) (hg : W.grownBy W' (Value.slice (q j) n (c j)).ownBlock) :
    W'.cell? ⟨b, j, none⟩ = some (.slice (q j) (r j).length (c j)) ∧ W'.frozen? ⟨b, j, none⟩ = false ∧ b < W'.heap.size := by
  rw [own_blk] at hg
  have hgg := hg.block b h.bl (fun e => h.ne j hj e.symm)
  exact ⟨(World.cell?_of_block (a := ⟨b, j, none⟩) hgg).trans (h.cl j hj), (World.frozen?_of_block (a := ⟨b, j, none⟩) hgg).trans (h.fz j), Nat.lt_of_lt_of_le h.bl hg.size⟩
/-- a row has grown -/
theorem Sr.app {base b n m c' : Nat} {W W' : World} {js : List Nat} {r : Nat → List Int} {q : Nat → Option Addr} {c : Nat → Nat} {q' : Option Addr} {l : List Int} (h : Sr base W b js r q c) {j : Nat} (hj : j ∈ js) (ho : W'.ownsRow base 3 1 (.slice q' m c') l.length (intsV l)) (hm : m = l.length)
    (hg : W.grownBy W' (Value.slice (q j) n (c j)).ownBlock) (hb : (Value.slice q' m c').ownBlock = (Value.slice (q j) n (c j)).ownBlock ∨ (Value.slice q' m c').ownBlock = some W.heap.size) :
    Sr base (W'.setCell ⟨b, j, none⟩ (.slice q' m c')) b js (up1 r j l) (up1 q j q') (up1 c j c') := by
  subst hm
  have hmid := h.mid hj hg
  rw [own_blk] at hg
  rw [own_blk, own_blk] at hb
  have hnew : ∀ k ∈ js, k ≠ j → q k = none ∨ (q k).map Addr.block ≠ q'.map Addr.block := fun k hk hkj => by
    rcases hb with e | e
    · rw [e]; exact h.ap k hk j hj hkj
    · rw [e]
      refine .inr fun e2 => ?_
      have := (h.blk hk e2).2
      omega
  have hne' : q'.map Addr.block ≠ some b := by
    rcases hb with e | e
    · rw [e]; exact h.ne j hj
    · rw [e]; intro e2; injection e2 with e2; have := h.bl; omega
  have hgb := hg.block b h.bl (fun e => h.ne j hj e.symm)
  refine ⟨by simpa [World.setCell] using hmid.2.2, fun o => (World.frozen?_setCell ..).trans ((World.frozen?_of_block (a := ⟨b, o, none⟩) hgb).trans (h.fz o)), fun k hk => ?_, fun k hk => ?_, fun k hk => ?_, fun k hk k' hk' hkk => ?_⟩
  · by_cases e : k = j
    · subst e
      rw [up1_at, up1_at, up1_at]
      exact World.cell?_setCell_same _ _ _ hmid.1
    · rw [up1_ne _ _ _ e, up1_ne _ _ _ e, up1_ne _ _ _ e]
      refine (World.cell?_setCell_other _ _ _ _ (fun e2 => e ?_)).trans ((World.cell?_of_block (a := ⟨b, k, none⟩) hgb).trans (h.cl k hk))
      have := congrArg Addr.off e2
      simpa using this.symm
  · by_cases e : k = j
    · subst e
      rw [up1_at, up1_at, up1_at]
      exact own_setOther (a := ⟨b, k, none⟩) ho (by rw [own_blk]; exact hne')
    · rw [up1_ne _ _ _ e, up1_ne _ _ _ e, up1_ne _ _ _ e]
      refine own_setOther (a := ⟨b, j, none⟩) ((h.own k hk).kept hg ?_) (by rw [own_blk]; exact h.ne k hk)
      rw [own_blk]
      rcases h.ap k hk j hj e with d | d
      · rw [d]; exact .inl rfl
      · exact .inr d
  · by_cases e : k = j
    · subst e; rw [up1_at]; exact hne'
    · rw [up1_ne _ _ _ e]; exact h.ne k hk
  · by_cases e : k = j
    · subst e
      rw [up1_at, up1_ne _ _ _ (fun e => hkk e.symm)]
      rcases hnew k' hk' (fun e => hkk e.symm) with d | d
      · cases hq' : q' with
        | none => exact .inl rfl
        | some ad => rw [d]; exact .inr (by simp)
      · exact .inr (fun e => d e.symm)
    · rw [up1_ne _ _ _ e]
      by_cases e2 : k' = j
      · subst e2; rw [up1_at]; exact hnew k hk e
      · rw [up1_ne _ _ _ e2]; exact h.ap k hk k' hk' hkk
/-- what the append and the store change -/
theorem app_chg {base b n : Nat} {W W' : World} {js : List Nat} {r : Nat → List Int} {q : Nat → Option Addr} {c : Nat → Nat} (h : Sr base W b js r q c) {j : Nat} (hj : j ∈ js) (hg : W.grownBy W' (Value.slice (q j) n (c j)).ownBlock) {B : Nat} {X : Nat → Prop} {w : World} (hc : Chg B X w W) (hB : B ≤ W.heap.size) (hX : ∀ k, base ≤ k → B ≤ k ∨ X k) (hb : B ≤ b ∨ X b) (v : Value) : Chg B X w (W'.setCell ⟨b, j, none⟩ v) := by
  rw [own_blk] at hg
  exact (hc.grown hg hB (fun k e => hX k (h.blk hj e).1)).grown (set_grown _ _ _) (by have := hg.size; omega) (fun k e => by injection e with e; rw [← e]; exact hb)
end Go.Proofs.Ytgaacdnljkildaa
