/- Dominance: package dom's own Order. -/
import Derived.Test.YtgaacdnljkildaaLH
import Derived.Sort.OwnSortedInts
namespace Go.Proofs.Ytgaacdnljkildaa
open Go.RowKit
open Dm

/-- a row turned round -/
theorem rev_any {w : World} {base g cap : Nat} {l : List Int} (h : w.ownsRow base 3 1 (.slice (some ⟨g, 0, none⟩) l.length cap) l.length (intsV l)) (hs : l.length ≤ 140737488351232) :
    Calls Try.prog 29 #[.slice (some ⟨g, 0, none⟩) l.length cap] w fun e w' => e = .returned (.tuple #[]) ∧ w.grownBy w' (some g) ∧ NumsAt .i64 w' (some ⟨g, 0, none⟩) l.reverse := by
  by_cases h0 : l.length = 0
  · have e : l = [] := List.eq_nil_of_length_eq_zero h0
    subst e
    refine (Try.slices_Reverse_int_empty (some ⟨g, 0, none⟩) cap w).mono ?_
    rintro e w' ⟨rfl, rfl⟩
    exact ⟨rfl, ⟨rfl, rfl, rfl, Nat.le_refl _, fun _ _ _ => rfl⟩, nums_nil _ _⟩
  · have hg := (h.lt g rfl).2
    have hH : Sort.Holds (Value.int .i64) w g 0 l.toArray := fun j hj => by
      have hj' : j < l.length := by simpa using hj
      refine ⟨?_, h.frozenAt _⟩
      rw [Nat.zero_add, h.cellAt j (by omega), intsV_get hj', getElem!_pos l.toArray j hj, List.getD_eq_getElem?_getD, List.getElem?_eq_getElem hj']
      rfl
    refine (Try.slices_Reverse_int g 0 cap l w hH (by omega)).mono ?_
    rintro e w' ⟨rfl, n, rfl⟩
    refine ⟨rfl, ?_, ⟨by simpa using hs, fun i hi => ⟨g, 0, rfl, by simpa using hg, ?_⟩⟩⟩
    · have := grownBy_sortedI (w := w) (g := g) (n := n) (os := #[]) l.reverse.toArray
      simpa using this
    · have hi' : i < l.reverse.toArray.size := by simpa using hi
      rw [Sort.cell?_putRow (Value.int .i64) (Sort.ahead w n) g 0 l.toArray l.reverse.toArray hH (by simp) i hi']
      have hi2 : i < l.reverse.length := hi
      rw [getElem!_pos l.reverse.toArray i hi', List.getD_eq_getElem?_getD, List.getElem?_eq_getElem hi2]
      rfl
set_option maxRecDepth 100000 in
theorem sorder_any (q : Option Addr) (qc : Nat) (g : List (List Int)) (w : World) (h : GsAt w q g) (hN : g.length ≤ 60) (hT : tot g ≤ 1048576) : Calls Try.prog 19 #[.slice q g.length qc] w (NumsQ (ordL g) w) := by
  have HW := Lib.hid (swalk_any q qc g (-1) w h (by omega) hT)
  unfold WkP at HW
  have hwf := (wkS_wf (g := g) (cl := -1) (by omega)).2.2
  rw [wkS_left (by omega)]
  obtain ⟨S, hS⟩ : ∃ S, wkS g (-1) = S := ⟨_, rfl⟩
  rw [hS] at HW hwf ⊢
  obtain ⟨l, hl⟩ : ∃ l, S.left.map Int.ofNat = l := ⟨_, rfl⟩
  have e1 : S.left.length = l.length := by rw [← hl]; simp
  have e2 : S.left.reverse.map Int.ofNat = l.reverse := by rw [← hl]; simp
  rw [e1, hl] at HW
  rw [e1] at hwf
  rw [e2]
  have HD : Hid (∀ W p c, NumsAt .i64 W p l.reverse → Below w.heap.size w W → NumsQ l.reverse w (.returned (.slice p l.length c)) W) := Lib.hid (fun W p c h1 h2 => ⟨p, c, by rw [List.length_reverse], h1, h2⟩)
  generalize NumsQ l.reverse w = Q at *
  have HR := Lib.hid (fun (W : World) base g cap (h : W.ownsRow base 3 1 (.slice (some ⟨g, 0, none⟩) l.length cap) l.length (intsV l)) => rev_any h (by omega))
  have HNil : Hid (l.length = 0 → ∀ W p c, Below w.heap.size w W → Q (.returned (.slice p l.length c)) W) := Lib.hid (fun h0 W p c hb => by
    have e : l = [] := List.eq_nil_of_length_eq_zero h0
    subst e
    exact HD.out W p c (nums_nil _ _) hb)
  have HE := Lib.hid (fun (p : Option Addr) c W => Try.slices_Reverse_int_empty p c W)
  obtain ⟨M, hM⟩ : ∃ M, l.length = M := ⟨_, rfl⟩
  rw [hM] at HW HD HR HNil
  clear h hS hl e1 e2 hM hwf hT
  by_cases h0 : M = 0
  · subst h0
    go_enter Try.func19, Try.ntmps19
    go_wp2_with (first
      | (go_at_call 21; (with_reducible refine HW.out.mono ?_); rintro e w1 ⟨b, ql, cq, rfl, _, htt, d4, hown, hb1⟩; have dl := htt.bl; have HB1 := Lib.hid hb1; clear htt hb1 hown)
      | (go_at_call 29; (with_reducible refine (HE.out _ _ _).mono ?_); rintro e w2 ⟨rfl, rfl⟩))
    exact HNil.out trivial _ _ _ HB1.out
  · have HP : Hid (0 < M) := Lib.hid (by omega)
    clear h0
    go_enter Try.func19, Try.ntmps19
    go_wp2_with (first
      | (go_at_call 21; (with_reducible refine HW.out.mono ?_); rintro e w1 ⟨b, ql, cq, rfl, _, htt, d4, hown, hb1⟩; obtain ⟨g4, c4, e4, k1, k2⟩ := own_some hown HP.out; injection e4 with e4 e5 e6; subst e4 e6; have dl := htt.bl; have HB1 := Lib.hid hb1; have HRV := Lib.hid (HR.out _ _ _ _ hown); clear htt hb1 hown)
      | (go_at_call 29; (with_reducible refine HRV.out.mono ?_); rintro e w2 ⟨rfl, hg2, hn2⟩; have HN2 := Lib.hid hn2; have HB2 := Lib.hid (HB1.out.grown hg2 HB1.out.size (fun k e => by injection e with e; omega)); clear hg2 hn2))
    exact HD.out _ _ _ HN2.out HB2.out
end Go.Proofs.Ytgaacdnljkildaa
