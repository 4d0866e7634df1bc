/- Dominance: the law on a node whose ways are left out. -/
import Derived.Test.YtgaacdnljkildaaDQ
namespace Go.Proofs.Ytgaacdnljkildaa
open Go.RowKit
open Dm

theorem GsAt.fn {w : World} {q : Option Addr} {g : List (List Int)} (h : GsAt w q g) (hg : 0 < g.length) : ∃ (b off : Nat) (P : Nat → Option Addr) (C : Nat → Nat), q = some ⟨b, off, none⟩ ∧ b < w.heap.size ∧ ∀ i, i < g.length → w.cell? ⟨b, off + i, none⟩ = some (.slice (P i) (g.getD i []).length (C i)) ∧ NumsAt .i64 w (P i) (g.getD i []) := by
  obtain ⟨b, off, _, _, hq, hl, _⟩ := h.cells 0 hg
  have hx : ∀ i, ∃ pc : Option Addr × Nat, i < g.length → w.cell? ⟨b, off + i, none⟩ = some (.slice pc.1 (g.getD i []).length pc.2) ∧ NumsAt .i64 w pc.1 (g.getD i []) := by
    intro i
    by_cases hi : i < g.length
    · obtain ⟨b', off', p, c, hq', _, h0, hn⟩ := h.cells i hi
      obtain ⟨rfl, rfl⟩ : b = b' ∧ off = off' := by rw [hq] at hq'; injection hq' with e; injection e with e1 e2; exact ⟨e1, e2⟩
      exact ⟨(p, c), fun _ => ⟨h0, hn⟩⟩
    · exact ⟨(none, 0), fun c => absurd c hi⟩
  obtain ⟨f, hf⟩ := Classical.skolem.1 hx
  exact ⟨b, off, fun i => (f i).1, fun i => (f i).2, hq, hl, fun i hi => hf i hi⟩
theorem BlsAt.fn {w : World} {q : Option Addr} {l : List Bool} (h : BlsAt w q l) (hl : 0 < l.length) : ∃ b off : Nat, q = some ⟨b, off, none⟩ ∧ b < w.heap.size ∧ ∀ i, i < l.length → w.cell? ⟨b, off + i, none⟩ = some (.bool (l.getD i false)) := by
  obtain ⟨b, off, hq, hb, _⟩ := h.cells 0 hl
  refine ⟨b, off, hq, hb, fun i hi => ?_⟩
  obtain ⟨b', off', hq', _, hc⟩ := h.cells i hi
  obtain ⟨rfl, rfl⟩ : b = b' ∧ off = off' := by rw [hq] at hq'; injection hq' with e; injection e with e1 e2; exact ⟨e1, e2⟩
  exact hc
/-- rows appended to an empty row of one's own, as a step of the walk -/
theorem wpList_copy_gs {w : World} {ops : Array Oper} {rest : List Oper} {o : Oper} {a : Act} {Q : Exit → Act → World → Prop} (hg : o.guard = none) (s x : Operand) (hop : o.op = Op.call { callee := Callee.builtin Builtin.append, args := #[s, x], argTypes := #[22, 22] }) (hty : o.type = 22)
    (base gh b off N c qc : Nat) (xs : List Value) (hs : a.eval s = .slice (some ⟨gh, 0, none⟩) 0 c) (hx : a.eval x = .slice (some ⟨b, off, none⟩) N qc) (h1 : w.ownsRow base 27 1 (.slice (some ⟨gh, 0, none⟩) 0 c) 0 []) (hl : xs.length = N) (hN : ∀ j u, xs[j]? = some u → w.cell? ⟨b, off + j, none⟩ = some u) (h1c : ∀ u ∈ xs, u.oneCell' = true) (hb : base ≤ w.heap.size) (hm : N ≤ 4096)
    (hK : ∀ v' w', w'.ownsRow base 27 1 v' N xs → w.grownBy w' (some gh) → wpList Try.prog ops Q rest (a.put o.dst v') w') :
    wpList Try.prog ops Q (o :: rest) a w := by
  refine wpList_plain hg fun K hK' => ?_
  obtain ⟨i5, h5, g5, s5, b5⟩ := info_parts infoRowI
  obtain ⟨v', w', hrun, r1, r2, _, _⟩ := run_append_own_at (P := Try.prog) w base 22 22 27 i5 _ 1 24 Try.underlying22 h5 g5 s5 b5 rfl (by decide) _ 0 [] h1 ⟨b, off, none⟩ N qc xs (by rw [hl, Nat.mul_one]) (fun j u hj => by
    have := hN j u hj
    unfold Addr.add
    by_cases h0 : j = 0
    · subst h0; exact this
    · rw [if_neg h0]; exact this) h1c (by simp only [maxLen]; omega) (by omega) hb
  rw [Nat.zero_add, List.nil_append] at r1
  unfold Oper.wp
  simp [execOp, hop, resolve, invoke, builtin, hs, hx, hty, hrun, Result.andThen]
  exact hK' _ _ (hK v' w' r1 r2)
/-- the copy, one row put out -/
theorem cut_gs {w W W' : World} {g : List (List Int)} {P : Nat → Option Addr} {C : Nat → Nat} {a c : Nat} {q : Option Addr} (hP : ∀ i, i < g.length → NumsAt .i64 w (P i) (g.getD i [])) (ha : a < g.length) (hlow : Below w.heap.size w W) (ho : W'.ownsRow w.heap.size 27 1 (.slice q g.length c) g.length ((List.range g.length).map fun i => .slice (P i) (g.getD i []).length (C i))) (hg : W.grownBy W' (some w.heap.size)) :
    ∃ gh, q = some ⟨gh, 0, none⟩ ∧ gh < W'.heap.size ∧ W'.cell? ⟨gh, a, none⟩ = some (.slice (P a) (g.getD a []).length (C a)) ∧ W'.frozen? ⟨gh, a, none⟩ = false ∧ GsAt (W'.setCell ⟨gh, a, none⟩ (.slice none 0 0)) (some ⟨gh, 0, none⟩) (g.set a []) ∧ Below w.heap.size w (W'.setCell ⟨gh, a, none⟩ (.slice none 0 0)) := by
  have hq : ∃ gh cap cur, (Value.slice q g.length c) = .slice (some ⟨gh, 0, none⟩) g.length cap ∧ w.heap.size ≤ gh ∧ W'.heap[gh]? = some (.cells cur 27 (0, 0)) := by
    rcases ho.2 with ⟨_, h0⟩ | ⟨gh, cap, cur, hv, hb, hh, _⟩
    · omega
    · exact ⟨gh, cap, cur, hv, hb, hh⟩
  obtain ⟨gh, cap, cur, hv, hgb, hh⟩ := hq
  injection hv with h1 h2 h3
  subst h1 h3
  have hlt : gh < W'.heap.size := (Array.getElem?_eq_some_iff.1 hh).1
  have hc : ∀ i, i < g.length → W'.cell? ⟨gh, i, none⟩ = some (.slice (P i) (g.getD i []).length (C i)) := fun i hi => by
    rw [ho.cellAt i (by omega)]
    simp [hi]
  have hl' : Below w.heap.size w W' := hlow.grown hg hlow.size (fun k e => by injection e with e; omega)
  have hb' : Below w.heap.size w (W'.setCell ⟨gh, a, none⟩ (.slice none 0 0)) := hl'.setCell (p := ⟨gh, a, none⟩) hgb _
  refine ⟨gh, rfl, hlt, hc a ha, by simp [World.frozen?, hh], ⟨fun i hi => ?_⟩, hb'⟩
  rw [List.length_set] at hi
  by_cases e : i = a
  · subst e
    rw [show (g.set i []).getD i [] = [] by simp [List.getD_eq_getElem?_getD, hi]]
    exact ⟨gh, 0, none, 0, rfl, by simpa [World.setCell] using hlt, by rw [Nat.zero_add]; exact World.cell?_setCell_same _ _ _ (hc i hi), nums_nil _ _⟩
  · rw [show (g.set a []).getD i [] = g.getD i [] by rw [List.getD_eq_getElem?_getD, List.getElem?_set, if_neg (fun c => e c.symm), List.getD_eq_getElem?_getD]]
    refine ⟨gh, 0, P i, C i, rfl, by simpa [World.setCell] using hlt, ?_, (hP i hi).below hb'⟩
    rw [Nat.zero_add]
    exact (World.cell?_setCell_other _ _ _ _ (fun c => by have := congrArg Addr.off c; simp at this; omega)).trans (hc i hi)
theorem tot_set : ∀ (g : List (List Int)) (a : Nat), tot (g.set a []) ≤ tot g
  | [], _ => Nat.le_refl _
  | r :: g, 0 => by show 0 + tot g ≤ r.length + tot g; omega
  | r :: g, a + 1 => by
    have := tot_set g a
    show r.length + tot (g.set a []) ≤ r.length + tot g
    omega
theorem cut_val {g : List (List Int)} {a b : Nat} (ha : a ≠ 0) (hab : a ≠ b) (hb : b < g.length) (h1 : (reachB g).getD a false = true) (h2 : (reachB g).getD b false = true) (han : a < g.length) : domB g (a : Int) (b : Int) = !((reachB (g.set a [])).getD b false) := by
  have hl : (g.set a []).length = g.length := List.length_set
  have hs : ∀ i, (g.set a []).getD i [] = if i = a then [] else g.getD i [] := by
    intro i
    by_cases e : i = a
    · subst e; rw [if_pos rfl]; simp [List.getD_eq_getElem?_getD, han]
    · rw [if_neg e, List.getD_eq_getElem?_getD, List.getElem?_set, if_neg (fun c => e c.symm), List.getD_eq_getElem?_getD]
  have hc := cut_iff (g := g) (h := g.set a []) (a := a) (b := b) hl ha hs (fun e => hab e.symm)
  rw [Bool.eq_iff_iff, domB_iff, Bool.not_eq_true', ← Bool.not_eq_true, reachB_at (by rw [hl]; exact hb), hc]
  constructor
  · rintro ⟨_, _, h⟩
    exact h.resolve_left hab
  · intro h
    exact ⟨(reachB_at han).1 h1, (reachB_at hb).1 h2, .inr h⟩
theorem cut_none {g : List (List Int)} {a b : Nat} (hb : b < g.length) (han : a < g.length) (h : (reachB g).getD a false = false ∨ (reachB g).getD b false = false) : domB g (a : Int) (b : Int) = false := by
  cases hv : domB g (a : Int) (b : Int) with
  | false => rfl
  | true =>
    have hd := domB_iff.1 hv
    rcases h with h | h
    · rw [(reachB_at han).2 hd.1] at h; cases h
    · rw [(reachB_at hb).2 hd.2.1] at h; cases h
/-- an empty row of one's own -/
theorem own_empty (W : World) {base : Nat} (hb : base ≤ W.heap.size) : (W.alloc (.cells #[] 27)).ownsRow base 27 1 (.slice (some ⟨W.heap.size, 0, none⟩) 0 0) 0 [] :=
  ⟨rfl, .inr ⟨W.heap.size, 0, #[], rfl, hb, heap_new W _, Nat.le_refl _, Nat.zero_le _, rfl, rfl⟩⟩
end Go.Proofs.Ytgaacdnljkildaa
