/- Dominance: package dom's own best: what it keeps. -/
import Derived.Test.YtgaacdnljkildaaGM
import Derived.Test.YtgaacdnljkildaaLL
namespace Go.Proofs.Ytgaacdnljkildaa
open Go.RowKit
open Dm

/-- what 'best' leaves: all blocks but the forest's own are as they were -/
structure Fk (W w' : World) (f : Nat) (q q' : Nat → Option Addr) : Prop where
  ch : Chg W.heap.size (fun k => k = f ∨ ∃ j ∈ FJ, (q j).map Addr.block = some k) W w'
  qs : ∀ j ∈ FJ, (q' j).map Addr.block = (q j).map Addr.block ∨ ∃ k, (q' j).map Addr.block = some k ∧ W.heap.size ≤ k
theorem Fk.refl (W : World) (f : Nat) (q : Nat → Option Addr) : Fk W W f q q := ⟨Chg.refl _ _ _, fun _ _ => .inl rfl⟩
theorem Fk.no {W w' w2 : World} {f : Nat} {q q' : Nat → Option Addr} (h : Fk W w' f q q') (hg : w'.grownBy w2 none) : Fk W w2 f q q' :=
  ⟨h.ch.grown hg h.ch.size (fun k e => by cases e), h.qs⟩
/-- a change of the struct or of one of its rows -/
theorem Fk.own {W w' w2 : World} {f k : Nat} {q q' : Nat → Option Addr} (h : Fk W w' f q q') (hg : w'.grownBy w2 (some k)) (hk : k = f ∨ ∃ j ∈ FJ, (q' j).map Addr.block = some k) : Fk W w2 f q q' := by
  refine ⟨h.ch.grown hg h.ch.size (fun k' e => ?_), h.qs⟩
  injection e with e
  subst e
  rcases hk with e | ⟨j, hj, e⟩
  · exact .inr (.inl e)
  · rcases h.qs j hj with c | ⟨k', c1, c2⟩
    · exact .inr (.inr ⟨j, hj, by rw [← c]; exact e⟩)
    · rw [e] at c1
      injection c1 with c1
      exact .inl (by omega)
/-- a row has moved -/
theorem Fk.move {W w' : World} {f j : Nat} {q q' : Nat → Option Addr} {p : Option Addr} (h : Fk W w' f q q') {B : Nat} (hB : W.heap.size ≤ B) (hp : p.map Addr.block = (q' j).map Addr.block ∨ p.map Addr.block = some B) : Fk W w' f q (up1 q' j p) := by
  refine ⟨h.ch, fun k hk => ?_⟩
  by_cases e : k = j
  · subst e
    rw [up1_at]
    rcases hp with c | c
    · rw [c]; exact h.qs k hk
    · exact .inr ⟨B, c, hB⟩
  · rw [up1_ne _ _ _ e]; exact h.qs k hk
/-- a row is cut to nothing -/
theorem Sr.cut {base b : Nat} {W : World} {js : List Nat} {r : Nat → List Int} {q : Nat → Option Addr} {c : Nat → Nat} (h : Sr base W b js r q c) {j : Nat} (hj : j ∈ js) : Sr base (W.setCell ⟨b, j, none⟩ (.slice (q j) 0 (c j))) b js (up1 r j []) q c := by
  have hs := (h.own j hj)
  have hnil : W.ownsRow base 3 1 (.slice (q j) 0 (c j)) 0 [] := by
    refine ⟨rfl, ?_⟩
    rcases hs.2 with ⟨e, _⟩ | ⟨g, cap, cur, e, e1, e2, e3, e4, e5, e6⟩
    · injection e with e1 e2 e3
      exact .inl ⟨by rw [e1, e3], rfl⟩
    · injection e with k1 k2 k3
      exact .inr ⟨g, cap, cur, by rw [k1, k3], e1, e2, Nat.zero_le _, e4, e5, by simp⟩
  refine ⟨by simpa [World.setCell] using h.bl, fun o => (World.frozen?_setCell ..).trans (h.fz o), fun k hk => ?_, fun k hk => ?_, h.ne, h.ap⟩
  · by_cases e : k = j
    · subst e
      rw [up1_at]
      exact World.cell?_setCell_same _ _ _ (h.cl k hk)
    · rw [up1_ne _ _ _ e]
      refine (World.cell?_setCell_other _ _ _ _ (fun e2 => e ?_)).trans (h.cl k hk)
      have := congrArg Addr.off e2
      simpa using this.symm
  · by_cases e : k = j
    · subst e
      rw [up1_at]
      exact own_setOther (a := ⟨b, k, none⟩) hnil (by rw [own_blk]; exact h.ne k hk)
    · rw [up1_ne _ _ _ e]
      exact own_setOther (a := ⟨b, j, none⟩) (h.own k hk) (by rw [own_blk]; exact h.ne k hk)
set_option maxRecDepth 100000 in
/-- slices.Backward hands back its iterator -/
theorem backward_any (q : Option Addr) (n c : Nat) (W : World) : Calls Try.prog 37 #[.slice q n c] W fun e w' => e = .returned (.func (.func 40) #[] #[.pointer (some ⟨W.heap.size, 0, none⟩)]) ∧ w' = W.alloc (.cells #[.slice q n c] 27) := by
  have hmf : ∀ (fn : Fn) (first cap : Array Value) (w : World), (Instr.makeFunc fn first cap).run Try.prog w = .ok (.func fn first cap) w := fun _ _ _ _ => rfl
  go_enter Try.func37, Try.ntmps37
  go_wp2
  go_ret
  exact ⟨rfl, rfl⟩
end Go.Proofs.Ytgaacdnljkildaa
