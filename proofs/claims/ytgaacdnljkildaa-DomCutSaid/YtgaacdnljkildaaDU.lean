/- Dominance: the law on who stands first. -/
import Derived.Test.YtgaacdnljkildaaDT
namespace Go.Proofs.Ytgaacdnljkildaa
open Go.RowKit
open Dm

/-- where nodes stand in the order, the first k of them marked -/
def atV (O : List Nat) (k y : Nat) : Int := if O.idxOf y < k then ((O.idxOf y : Nat) : Int) + 1 else 0
theorem atV_zero (O : List Nat) : atV O 0 = fun _ => 0 := by
  funext y
  unfold atV
  rw [if_neg (Nat.not_lt_zero _)]
theorem idx_get : ∀ {O : List Nat} (_ : O.Nodup) {k : Nat} (hk : k < O.length), O.idxOf O[k] = k
  | [], _, _, hk => absurd hk (Nat.not_lt_zero _)
  | a :: l, _, 0, _ => by simp
  | a :: l, hn, k + 1, hk => by
    have hk' : k < l.length := by simpa using hk
    have hne : a ≠ l[k] := fun e => (List.nodup_cons.1 hn).1 (e ▸ List.getElem_mem hk')
    have hb : (a == l[k]) = false := by simpa using hne
    rw [List.getElem_cons_succ, List.idxOf_cons, hb]
    simp [idx_get (List.nodup_cons.1 hn).2 hk']
theorem idx_at {O : List Nat} (hn : O.Nodup) {k : Nat} (hk : k < O.length) : O.idxOf (O.getD k 0) = k := by
  have e : O.getD k 0 = O[k] := by rw [List.getD_eq_getElem?_getD, List.getElem?_eq_getElem hk]; rfl
  rw [e]
  exact idx_get hn hk
theorem atV_new {O : List Nat} (hn : O.Nodup) {k : Nat} (hk : k < O.length) : atV O k (O.getD k 0) = 0 := by
  unfold atV
  rw [idx_at hn hk, if_neg (Nat.lt_irrefl _)]
theorem atV_succ {O : List Nat} (hn : O.Nodup) {k : Nat} (hk : k < O.length) : atV O (k + 1) = fun y => if y = O.getD k 0 then (k : Int) + 1 else atV O k y := by
  funext y
  unfold atV
  by_cases e : y = O.getD k 0
  · rw [if_pos e, e, idx_at hn hk, if_pos (Nat.lt_succ_self _)]
  · rw [if_neg e]
    have hne : O.idxOf y ≠ k := fun c => e (by
      have hlt : O.idxOf y < O.length := by omega
      have h1 := List.getElem_idxOf hlt
      rw [← h1, List.getD_eq_getElem?_getD, ← c, List.getElem?_eq_getElem hlt]; rfl)
    by_cases c : O.idxOf y < k
    · rw [if_pos (by omega), if_pos c]
    · rw [if_neg (by omega), if_neg c]
theorem atV_pos {O : List Nat} {y : Nat} : 0 < atV O O.length y ↔ y ∈ O := by
  unfold atV
  constructor
  · intro h
    by_cases c : O.idxOf y < O.length
    · exact List.idxOf_lt_length_iff.1 c
    · rw [if_neg c] at h; omega
  · intro h
    rw [if_pos (List.idxOf_lt_length_iff.2 h)]
    omega
theorem atV_no {O : List Nat} {y : Nat} (h : y ∉ O) : atV O O.length y = 0 := by
  unfold atV
  rw [if_neg (fun c => h (List.idxOf_lt_length_iff.1 c))]
theorem atV_lt {O : List Nat} {u y : Nat} (hn : O.Nodup) (h : Pre O u y) (hy : y ∈ O) : atV O O.length u < atV O O.length y := by
  have h1 := pre_at h hn
  have h2 := List.idxOf_lt_length_iff.2 hy
  unfold atV
  rw [if_pos (by omega), if_pos h2]
  omega
/-- numbers in a block of their own -/
structure Rn (W : World) (g N : Nat) (f : Nat → Int) : Prop where
  lt : g < W.heap.size
  cell : ∀ i, i < N → W.cell? ⟨g, i, none⟩ = some (.int .i64 (f i))
  fr : ∀ j, W.frozen? ⟨g, j, none⟩ = false
theorem Rn.new (w : World) (N : Nat) : Rn (w.alloc (.cells (madeCells #[.int .i64 0] N) 3)) w.heap.size N (fun _ => 0) := by
  refine ⟨by simp, fun i hi => ?_, fun j => World.frozen?_alloc_new _ _ _ j⟩
  refine cell_new w ?_
  simp [madeCells, hi, Nat.mod_one]
theorem Rn.set {W : World} {g N k : Nat} {f : Nat → Int} {v : Int} (h : Rn W g N f) (hk : k < N) : Rn (W.setCell ⟨g, k, none⟩ (.int .i64 v)) g N (fun y => if y = k then v else f y) := by
  refine ⟨by simpa [World.setCell] using h.lt, fun i hi => ?_, fun j => (World.frozen?_setCell ..).trans (h.fr j)⟩
  by_cases e : i = k
  · subst e
    rw [if_pos rfl]
    exact World.cell?_setCell_same _ _ _ (h.cell i hi)
  · rw [if_neg e]
    exact (World.cell?_setCell_other _ _ _ _ (fun e' => e (congrArg Addr.off e').symm)).trans (h.cell i hi)
theorem Rn.next {W W' : World} {g N : Nat} {f : Nat → Int} (h : Rn W g N f) (hb : Below W.heap.size W W') : Rn W' g N f :=
  ⟨Nat.lt_of_lt_of_le h.lt hb.size, fun i hi => (hb.cell (p := ⟨g, i, none⟩) h.lt).trans (h.cell i hi), fun j => (hb.frozen (p := ⟨g, j, none⟩) h.lt).trans (h.fr j)⟩
/-- what the law asks of each node -/
theorem first_val {g : List (List Int)} {y : Nat} (hy : y < g.length) : ((reachB g).getD y false = true ∧ 0 < atV (ordN g.length (fun i => g.getD i [])) (ordN g.length (fun i => g.getD i [])).length y ∧ ((idomL g).getD y 0 = -1 ∨ ∃ u : Nat, (idomL g).getD y 0 = (u : Int) ∧ u < g.length ∧ atV (ordN g.length (fun i => g.getD i [])) (ordN g.length (fun i => g.getD i [])).length u < atV (ordN g.length (fun i => g.getD i [])) (ordN g.length (fun i => g.getD i [])).length y)) ∨
    ((reachB g).getD y false = false ∧ atV (ordN g.length (fun i => g.getD i [])) (ordN g.length (fun i => g.getD i [])).length y = 0 ∧ (idomL g).getD y 0 = -1) := by
  have ho := ord_ok g.length (fun i => g.getD i [])
  by_cases hr : (gL g).R y
  · left
    refine ⟨(reachB_at hy).2 hr, atV_pos.2 ((ho.is y).2 hr), ?_⟩
    rw [idomL_at hy]
    rcases upv_up (gL g) y with ⟨e, _⟩ | ⟨u, e, hi⟩
    · exact .inl e
    · exact .inr ⟨u, e, hi.d.1.lt, atV_lt ho.nd (ho.dom u y hi.d hi.ne) ((ho.is y).2 hr)⟩
  · right
    refine ⟨?_, atV_no (fun c => hr ((ho.is y).1 c)), by rw [idomL_at hy]; exact upv_no hr⟩
    cases h : (reachB g).getD y false with
    | false => rfl
    | true => exact absurd ((reachB_at hy).1 h) hr
/-- what the law holds -/
structure Df (w W : World) (q : Option Addr) (g : List (List Int)) (po pu pr : Option Addr) (O U : List Int) (RB : List Bool) : Prop where
  low : Below w.heap.size w W
  gs : GsAt W q g
  o : NumsAt .i64 W po O
  u : NumsAt .i64 W pu U
  r : BlsAt W pr RB
theorem Df.next {w W W' : World} {q : Option Addr} {g : List (List Int)} {po pu pr : Option Addr} {O U : List Int} {RB : List Bool} (h : Df w W q g po pu pr O U RB) (hb : Below W.heap.size W W') : Df w W' q g po pu pr O U RB :=
  ⟨h.low.trans (hb.mono h.low.size), h.gs.below hb, h.o.below hb, h.u.below hb, h.r.below hb⟩
theorem bl_nil (w : World) : BlsAt w none [] := ⟨fun _ hi => absurd hi (Nat.not_lt_zero _)⟩
end Go.Proofs.Ytgaacdnljkildaa
