/- States: package state's twin: a state in rows of its own. -/
import Derived.Test.YtdipmlamjjpcoaaKM
import Derived.Deep.DeepCutAuto
namespace Go.Proofs.Ytdipmlamjjpcoaa
open Go.RowKit
attribute [local go_sem] b_and b_or b_xor b_andNot b_low b_top b_most b_signed b_unsigned b_zero b_eq s_eq b_nzero b_neq s_neq b_max b_min s_max s_min
attribute [local go_sem ↓] Go.wp_at_zero Go.wp_at_succ

theorem rk_of_block {W : World} {g : Nat} {l : List Kn} {t : TypeId} (h : W.heap[g]? = some (.cells (knV l).toArray t (0, 0))) : Rk W g l := by
  have hc : ∀ i r, i < l.length → r < 8 → W.cell? ⟨g, i * 8 + r, none⟩ = (knC (rg l i))[r]? := fun i r hi hr => by
    rw [← knV_at l i r hi hr]
    simp [World.cell?, h]
  exact ⟨(Array.getElem?_eq_some_iff.1 h).1, fun i hi => ⟨hc i 0 hi (by omega), hc i 1 hi (by omega), hc i 2 hi (by omega), hc i 3 hi (by omega), hc i 4 hi (by omega), hc i 5 hi (by omega), hc i 6 hi (by omega), hc i 7 hi (by omega)⟩, fun j => by simp [World.frozen?, h]⟩
theorem rb_of_block {W : World} {g : Nat} {l : List Bool} {t : TypeId} (h : W.heap[g]? = some (.cells (blV l).toArray t (0, 0))) : Rb W g l :=
  ⟨(Array.getElem?_eq_some_iff.1 h).1, fun i hi => by simp [World.cell?, h, blV, st, List.getElem?_eq_getElem hi, List.getD], fun j => by simp [World.frozen?, h]⟩
theorem scopK_new (q : Option Addr) (l : List Kn) (qc : Nat) (w : World) (h : KnAt w q l) : Calls Try.prog 56 #[.slice q l.length qc] w fun e w' => ∃ g, e = .returned (.slice (some ⟨g, 0, none⟩) l.length l.length) ∧ w.heap.size ≤ g ∧ Below w.heap.size w w' ∧ Rk w' g l := by
  refine (scopK_any q l qc w h).mono ?_
  rintro e w' ⟨rfl, hb, hh⟩
  exact ⟨_, rfl, Nat.le_refl _, hb, rk_of_block hh⟩
theorem scopB_new (q : Option Addr) (l : List Bool) (qc : Nat) (w : World) (h : BoolsAt w q l) : Calls Try.prog 57 #[.slice q l.length qc] w fun e w' => ∃ g, e = .returned (.slice (some ⟨g, 0, none⟩) l.length l.length) ∧ w.heap.size ≤ g ∧ Below w.heap.size w w' ∧ Rb w' g l := by
  refine (scopB_any q l qc w h).mono ?_
  rintro e w' ⟨rfl, hb, hh⟩
  exact ⟨_, rfl, Nat.le_refl _, hb, rb_of_block hh⟩
/-- the copies on their way: which there are already -/
structure Tw (w W : World) (A : AbA) (N1 N2 N3 : Nat) (l : List Kn) (bs : List Bool) (v : List Kn) (o1 o2 o3 : Option Nat) : Prop where
  low : Below w.heap.size w W
  b0 : Box W w.heap.size (sl3 A N1 N2 N3)
  b1 : Box W (w.heap.size + 1) [.slice none 0 0, .slice none 0 0, .slice none 0 0]
  r1 : ∀ g, o1 = some g → w.heap.size + 2 ≤ g ∧ Rk W g l
  r2 : ∀ g, o2 = some g → w.heap.size + 2 ≤ g ∧ Rb W g bs
  r3 : ∀ g, o3 = some g → w.heap.size + 2 ≤ g ∧ Rk W g v
  d12 : Apt o1 o2
  d13 : Apt o1 o3
  d23 : Apt o2 o3
theorem Tw.next {w W W' : World} {A : AbA} {N1 N2 N3 : Nat} {l : List Kn} {bs : List Bool} {v : List Kn} {o1 o2 o3 : Option Nat} (h : Tw w W A N1 N2 N3 l bs v o1 o2 o3) (hb : Below W.heap.size W W') : Tw w W' A N1 N2 N3 l bs v o1 o2 o3 :=
  ⟨bnext h.low hb, h.b0.next hb, h.b1.next hb, fun g e => ⟨(h.r1 g e).1, (h.r1 g e).2.next hb⟩, fun g e => ⟨(h.r2 g e).1, (h.r2 g e).2.next hb⟩, fun g e => ⟨(h.r3 g e).1, (h.r3 g e).2.next hb⟩, h.d12, h.d13, h.d23⟩
theorem Tw.new (w : World) (A : AbA) (N1 N2 N3 : Nat) (l : List Kn) (bs : List Bool) (v : List Kn) (t t' : TypeId) : Tw w ((w.alloc (.cells #[.slice A.p1 N1 A.c1, .slice A.p2 N2 A.c2, .slice A.p3 N3 A.c3] t)).alloc (.cells #[.slice none 0 0, .slice none 0 0, .slice none 0 0] t')).drew A N1 N2 N3 l bs v none none none :=
  ⟨b2.drew, ((Box.new w (sl3 A N1 N2 N3) t rfl).alloc _).drew, (Box.new (w.alloc _) [.slice none 0 0, .slice none 0 0, .slice none 0 0] t' (World.size_alloc _ _)).drew, fun g e => (by cases e), fun g e => (by cases e), fun g e => (by cases e), fun k e => (by cases e), fun k e => (by cases e), fun k e => (by cases e)⟩
theorem apt_new {W : World} {g : Nat} {o : Option Nat} (hg : W.heap.size ≤ g) (ho : ∀ k, o = some k → k < W.heap.size) : Apt (some g) o := by
  intro k e1 e2
  injection e1 with e1
  have := ho k e2
  omega
theorem Tw.one {w W W' : World} {A : AbA} {N1 N2 N3 : Nat} {l : List Kn} {bs : List Bool} {v : List Kn} {o2 o3 : Option Nat} (h : Tw w W A N1 N2 N3 l bs v none o2 o3) {g : Nat} (hg : W.heap.size ≤ g) (hb : Below W.heap.size W W') (hr : Rk W' g l) : Tw w W' A N1 N2 N3 l bs v (some g) o2 o3 :=
  ⟨(h.next hb).low, (h.next hb).b0, (h.next hb).b1, fun k e => (by injection e with e; subst e; exact ⟨by have := h.b1.lt; omega, hr⟩), (h.next hb).r2, (h.next hb).r3, apt_new hg (fun k e => (h.r2 k e).2.lt), apt_new hg (fun k e => (h.r3 k e).2.lt), h.d23⟩
theorem Tw.two {w W W' : World} {A : AbA} {N1 N2 N3 : Nat} {l : List Kn} {bs : List Bool} {v : List Kn} {o1 o3 : Option Nat} (h : Tw w W A N1 N2 N3 l bs v o1 none o3) {g : Nat} (hg : W.heap.size ≤ g) (hb : Below W.heap.size W W') (hr : Rb W' g bs) : Tw w W' A N1 N2 N3 l bs v o1 (some g) o3 :=
  ⟨(h.next hb).low, (h.next hb).b0, (h.next hb).b1, (h.next hb).r1, fun k e => (by injection e with e; subst e; exact ⟨by have := h.b1.lt; omega, hr⟩), (h.next hb).r3, (apt_new hg (fun k e => (h.r1 k e).2.lt)).symm, h.d13, apt_new hg (fun k e => (h.r3 k e).2.lt)⟩
theorem Tw.three {w W W' : World} {A : AbA} {N1 N2 N3 : Nat} {l : List Kn} {bs : List Bool} {v : List Kn} {o1 o2 : Option Nat} (h : Tw w W A N1 N2 N3 l bs v o1 o2 none) {g : Nat} (hg : W.heap.size ≤ g) (hb : Below W.heap.size W W') (hr : Rk W' g v) : Tw w W' A N1 N2 N3 l bs v o1 o2 (some g) :=
  ⟨(h.next hb).low, (h.next hb).b0, (h.next hb).b1, (h.next hb).r1, (h.next hb).r2, fun k e => (by injection e with e; subst e; exact ⟨by have := h.b1.lt; omega, hr⟩), h.d12, (apt_new hg (fun k e => (h.r1 k e).2.lt)).symm, (apt_new hg (fun k e => (h.r2 k e).2.lt)).symm⟩
theorem Tw.f {w W : World} {A : AbA} {N1 N2 N3 : Nat} {l : List Kn} {bs : List Bool} {v : List Kn} {o1 o2 o3 : Option Nat} (h : Tw w W A N1 N2 N3 l bs v o1 o2 o3) :
    W.cell? ⟨w.heap.size, 0, none⟩ = some (.slice A.p1 N1 A.c1) ∧ W.cell? ⟨w.heap.size, 1, none⟩ = some (.slice A.p2 N2 A.c2) ∧ W.cell? ⟨w.heap.size, 2, none⟩ = some (.slice A.p3 N3 A.c3) := h.b0.three.1
theorem Tw.f3 {w W : World} {A : AbA} {N1 N2 N3 : Nat} {l : List Kn} {bs : List Bool} {v : List Kn} {o1 o2 o3 : Option Nat} (h : Tw w W A N1 N2 N3 l bs v o1 o2 o3) (u0 u1 u2 : Value) :
    (((W.setCell ⟨w.heap.size + 1, 0, none⟩ u0).setCell ⟨w.heap.size + 1, 1, none⟩ u1).setCell ⟨w.heap.size + 1, 2, none⟩ u2).cell? ⟨w.heap.size, 0, none⟩ = some (.slice A.p1 N1 A.c1) ∧ (((W.setCell ⟨w.heap.size + 1, 0, none⟩ u0).setCell ⟨w.heap.size + 1, 1, none⟩ u1).setCell ⟨w.heap.size + 1, 2, none⟩ u2).cell? ⟨w.heap.size, 1, none⟩ = some (.slice A.p2 N2 A.c2) ∧ (((W.setCell ⟨w.heap.size + 1, 0, none⟩ u0).setCell ⟨w.heap.size + 1, 1, none⟩ u1).setCell ⟨w.heap.size + 1, 2, none⟩ u2).cell? ⟨w.heap.size, 2, none⟩ = some (.slice A.p3 N3 A.c3) :=
  (((h.b0.setOther (a := ⟨w.heap.size + 1, 0, none⟩) (Nat.succ_ne_self _) u0).setOther (a := ⟨w.heap.size + 1, 1, none⟩) (Nat.succ_ne_self _) u1).setOther (a := ⟨w.heap.size + 1, 2, none⟩) (Nat.succ_ne_self _) u2).three.1
def TwPost (w : World) (N1 N2 N3 : Nat) (l : List Kn) (bs : List Bool) (v : List Kn) (e : Ending) (w' : World) : Prop :=
  ∃ g1 g2 g3, e = .returned (.agg #[.slice (some ⟨g1, 0, none⟩) N1 N1, .slice (some ⟨g2, 0, none⟩) N2 N2, .slice (some ⟨g3, 0, none⟩) N3 N3]) ∧ Below w.heap.size w w' ∧ Rw w' w.heap.size l bs v g1 g2 g3
theorem Tw.fin {w W : World} {A : AbA} {N1 N2 N3 : Nat} {l : List Kn} {bs : List Bool} {v : List Kn} {g1 g2 g3 : Nat} (h : Tw w W A N1 N2 N3 l bs v (some g1) (some g2) (some g3)) (u0 u1 u2 : Value) :
    TwPost w N1 N2 N3 l bs v (.returned (.agg #[.slice (some ⟨g1, 0, none⟩) N1 N1, .slice (some ⟨g2, 0, none⟩) N2 N2, .slice (some ⟨g3, 0, none⟩) N3 N3])) (((W.setCell ⟨w.heap.size + 1, 0, none⟩ u0).setCell ⟨w.heap.size + 1, 1, none⟩ u1).setCell ⟨w.heap.size + 1, 2, none⟩ u2) := by
  obtain ⟨k1, r1⟩ := h.r1 g1 rfl
  obtain ⟨k2, r2⟩ := h.r2 g2 rfl
  obtain ⟨k3, r3⟩ := h.r3 g3 rfl
  have hR : Rw W (w.heap.size + 2) l bs v g1 g2 g3 := ⟨k1, k2, k3, fun e => h.d12 g1 rfl (by rw [e]), fun e => h.d13 g1 rfl (by rw [e]), fun e => h.d23 g2 rfl (by rw [e]), r1, r2, r3⟩
  have hR' := ((hR.other (a := ⟨w.heap.size + 1, 0, none⟩) (Nat.lt_succ_self _) u0).other (a := ⟨w.heap.size + 1, 1, none⟩) (Nat.lt_succ_self _) u1).other (a := ⟨w.heap.size + 1, 2, none⟩) (Nat.lt_succ_self _) u2
  refine ⟨g1, g2, g3, rfl, ((h.low.setCell (p := ⟨w.heap.size + 1, 0, none⟩) (Nat.le_succ _) _).setCell (p := ⟨w.heap.size + 1, 1, none⟩) (Nat.le_succ _) _).setCell (p := ⟨w.heap.size + 1, 2, none⟩) (Nat.le_succ _) _, ?_⟩
  exact ⟨by have := hR'.b1; omega, by have := hR'.b2; omega, by have := hR'.b3; omega, hR'.n12, hR'.n13, hR'.n23, hR'.r1, hR'.r2, hR'.r3⟩
set_option maxRecDepth 100000 in
set_option maxHeartbeats 4000000 in
theorem stwin_any (A : AbA) (s : Ab) (w : World) (h : AbAt w A s) : Calls Try.prog 34 #[.agg #[.slice A.p1 s.regs.length A.c1, .slice A.p2 s.set.length A.c2, .slice A.p3 s.saved.length A.c3]] w (TwPost w s.regs.length s.set.length s.saved.length s.regs s.set s.saved) := by
  have H1 := Lib.hid (fun (W : World) (hb : Below w.heap.size w W) => scopK_new A.p1 s.regs A.c1 W (h.below hb).r)
  have H2 := Lib.hid (fun (W : World) (hb : Below w.heap.size w W) => scopB_new A.p2 s.set A.c2 W (h.below hb).b)
  have H3 := Lib.hid (fun (W : World) (hb : Below w.heap.size w W) => scopK_new A.p3 s.saved A.c3 W (h.below hb).v)
  clear h
  have HN := Lib.hid (Tw.new w A s.regs.length s.set.length s.saved.length s.regs s.set s.saved 25 25)
  generalize s.regs.length = N1 at *
  generalize s.set.length = N2 at *
  generalize s.saved.length = N3 at *
  generalize s.regs = l at *
  generalize s.set = bs at *
  generalize s.saved = v at *
  have F := HN.out.b1.three
  go_enter Try.func34, Try.ntmps34
  go_wp2_with fail
  go_region_held3 (fun W => W.cell? ⟨w.heap.size, 0, none⟩ = some (.slice A.p1 N1 A.c1) ∧ W.cell? ⟨w.heap.size, 1, none⟩ = some (.slice A.p2 N2 A.c2) ∧ W.cell? ⟨w.heap.size, 2, none⟩ = some (.slice A.p3 N3 A.c3))
    (first | with_reducible exact HN.out.f | with_reducible exact HN.out.f3 _ _ _)
    (first
    | (go_at_call 56; (with_reducible refine (H1.out _ HN.out.low).mono ?_); rintro e w1 ⟨g1, rfl, hg, hb, hr⟩; have H' := Lib.hid (HN.out.one hg hb hr); clear hg hb hr HN F; have HN := H'; clear H'; have F := HN.out.b1.three)
    | (go_at_call 56; (with_reducible refine (H3.out _ HN.out.low).mono ?_); rintro e w1 ⟨g3, rfl, hg, hb, hr⟩; have H' := Lib.hid (HN.out.three hg hb hr); clear hg hb hr HN F; have HN := H'; clear H'; have F := HN.out.b1.three)
    | (go_at_call 57; (with_reducible refine (H2.out _ HN.out.low).mono ?_); rintro e w1 ⟨g2, rfl, hg, hb, hr⟩; have H' := Lib.hid (HN.out.two hg hb hr); clear hg hb hr HN F; have HN := H'; clear H'; have F := HN.out.b1.three))
  all_goals
    go_wp2_with fail
    exact bodyPost_ret (by simp [results, Try.results34, go_sem, F]) rfl (HN.out.fin _ _ _)
end Go.Proofs.Ytdipmlamjjpcoaa
