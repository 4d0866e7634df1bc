/- States: what a law's run holds: boxes and states; what the laws ask at any rate, its parts. -/
import Derived.Test.YtdipmlamjjpcoaaSZ
import Derived.Deep.DeepCutAuto
namespace Go.Proofs.Ytdipmlamjjpcoaa
open Go.RowKit
attribute [local go_sem] b_and b_or b_xor b_andNot b_low b_top b_most b_signed b_unsigned b_zero b_eq s_eq b_nzero b_neq s_neq b_max b_min s_max s_min
attribute [local go_sem ↓] Go.wp_at_zero Go.wp_at_succ

/-- so many boxes and states, all else as it was -/
structure Hs (w W : World) (l : List (Nat × List Value)) (m : List (AbA × Ab)) : Prop where
  low : Below w.heap.size w W
  box : ∀ p, p ∈ l → Box W p.1 p.2
  ab : ∀ p, p ∈ m → AbAt W p.1 p.2
theorem Hs.start (w : World) : Hs w w [] [] := ⟨Below.refl _ _, fun p hp => (by cases hp), fun p hp => (by cases hp)⟩
theorem Hs.next {w W W' : World} {l : List (Nat × List Value)} {m : List (AbA × Ab)} (h : Hs w W l m) (hb : Below W.heap.size W W') : Hs w W' l m := ⟨bnext h.low hb, fun p hp => (h.box p hp).next hb, fun p hp => (h.ab p hp).below hb⟩
theorem Hs.drew {w W : World} {l : List (Nat × List Value)} {m : List (AbA × Ab)} (h : Hs w W l m) : Hs w W.drew l m := h.next (Below.refl _ _).drew
theorem Hs.new3 {w W : World} {l : List (Nat × List Value)} {m : List (AbA × Ab)} (h : Hs w W l m) (v0 v1 v2 : Value) (t : TypeId) : Hs w (W.alloc (.cells #[v0, v1, v2] t)) ((W.heap.size, [v0, v1, v2]) :: l) m :=
  ⟨h.low.alloc h.low.size _, fun p hp => by
    rcases List.mem_cons.1 hp with rfl | hp
    · exact Box.new W [v0, v1, v2] t rfl
    · exact (h.box p hp).alloc _, fun p hp => (h.ab p hp).alloc _⟩
theorem Hs.new8 {w W : World} {l : List (Nat × List Value)} {m : List (AbA × Ab)} (h : Hs w W l m) (v0 v1 v2 v3 v4 v5 v6 v7 : Value) (t : TypeId) : Hs w (W.alloc (.cells #[v0, v1, v2, v3, v4, v5, v6, v7] t)) ((W.heap.size, [v0, v1, v2, v3, v4, v5, v6, v7]) :: l) m :=
  ⟨h.low.alloc h.low.size _, fun p hp => by
    rcases List.mem_cons.1 hp with rfl | hp
    · exact Box.new W [v0, v1, v2, v3, v4, v5, v6, v7] t rfl
    · exact (h.box p hp).alloc _, fun p hp => (h.ab p hp).alloc _⟩
theorem Hs.add {w W : World} {l : List (Nat × List Value)} {m : List (AbA × Ab)} (h : Hs w W l m) {A : AbA} {s : Ab} (hA : AbAt W A s) : Hs w W l ((A, s) :: m) :=
  ⟨h.low, h.box, fun p hp => by
    rcases List.mem_cons.1 hp with rfl | hp
    · exact hA
    · exact h.ab p hp⟩
theorem Hs.weak {w W : World} {q : Nat × List Value} {l : List (Nat × List Value)} {m : List (AbA × Ab)} (h : Hs w W (q :: l) m) : Hs w W l m := ⟨h.low, fun p hp => h.box p (List.mem_cons_of_mem _ hp), h.ab⟩
theorem Hs.weakA {w W : World} {q : AbA × Ab} {l : List (Nat × List Value)} {m : List (AbA × Ab)} (h : Hs w W l (q :: m)) : Hs w W l m := ⟨h.low, h.box, fun p hp => h.ab p (List.mem_cons_of_mem _ hp)⟩
theorem Hs.b0 {w W : World} {n : Nat} {cs : List Value} {l : List (Nat × List Value)} {m : List (AbA × Ab)} (h : Hs w W ((n, cs) :: l) m) : Box W n cs := h.box (n, cs) List.mem_cons_self
theorem Hs.a0 {w W : World} {A : AbA} {s : Ab} {l : List (Nat × List Value)} {m : List (AbA × Ab)} (h : Hs w W l ((A, s) :: m)) : AbAt W A s := h.ab (A, s) List.mem_cons_self
theorem Hs.a1 {w W : World} {A : AbA} {s : Ab} {q : AbA × Ab} {l : List (Nat × List Value)} {m : List (AbA × Ab)} (h : Hs w W l (q :: (A, s) :: m)) : AbAt W A s := h.weakA.a0
/-- what may be has these lengths -/
theorem lens {s : Ab} (h : checkS s = true) : s.regs.length = 11 ∧ s.set.length = 512 ∧ s.saved.length = 64 := (check_iff.1 h).1
def five : Kn := ⟨1, bconst 5#64, 0⟩
def st5 : Ab := storeS beginS 504 504 8 five
theorem st5_check : checkS st5 = true := by decide +kernel
end Go.Proofs.Ytdipmlamjjpcoaa
