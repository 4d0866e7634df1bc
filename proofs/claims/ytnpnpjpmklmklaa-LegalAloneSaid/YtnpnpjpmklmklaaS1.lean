/- Contracts of isPlace, blank, and Succ on both sides. -/
import Derived.Test.YtnpnpjpmklmklaaS0
namespace Go.Proofs.Ytnpnpjpmklmklaa
open Go.RowKit M

set_option maxHeartbeats 1000000 in
theorem place_any (q : Option Addr) (qc : Nat) (l : List In) (i : Int) (w : World) (h : InsAt w q l) :
    Calls Try.prog 37 #[.slice q l.length qc, .int .i64 i] w fun e w' => e = .returned (.bool (placeB l i)) ∧ w = w' := by
  have HH := Lib.hid (fun W hW => hole_any q qc l i W hW)
  have hs := h.small
  have H := Lib.hid h
  unfold placeB
  generalize holeB l i = v at *
  generalize l.length = N at *
  clear h
  by_cases h0 : 0 ≤ i
  · by_cases h1 : i < N
    · rw [decide_eq_true ⟨h0, h1⟩, Bool.true_and]
      go_enter Try.func37, Try.ntmps37
      go_wp2_with (go_at_call 27; refine (HH.out _ H.out).mono ?_; rintro e w1 ⟨rfl, rfl⟩)
      go_ret
      exact ⟨rfl, rfl⟩
    · rw [decide_eq_false (show ¬ (0 ≤ i ∧ i < (N : Int)) by omega), Bool.false_and]
      go_enter Try.func37, Try.ntmps37
      go_wp2
      go_ret
      exact ⟨rfl, rfl⟩
  · rw [decide_eq_false (show ¬ (0 ≤ i ∧ i < (N : Int)) by omega), Bool.false_and]
    go_enter Try.func37, Try.ntmps37
    go_wp2
    go_ret
    exact ⟨rfl, rfl⟩
def SuccP (l : List In) (i : Int) (w : World) (e : Ending) (w' : World) : Prop :=
  ∃ p cap, e = .returned (.slice p (succL l i).length cap) ∧ NumsAt .i64 w' p (succL l i) ∧ Below w.heap.size w w'
theorem nums_nil (w : World) (p : Option Addr) : NumsAt .i64 w p [] := ⟨Nat.zero_le _, fun _ h => absurd h (Nat.not_lt_zero _)⟩
theorem succ_nil {l : List In} {i : Int} {w w' : World} {e : Ending} (hl : succL l i = []) (he : e = .returned (.slice none 0 0)) (hb : Below w.heap.size w w') : SuccP l i w e w' := by
  unfold SuccP
  rw [hl]
  exact ⟨none, 0, he, nums_nil _ _, hb⟩
theorem succ_new {l : List In} {i : Int} {w W : World} {e : Ending} {t : TypeId} {xs : List Int} {n : Nat} {cs : Array Value} (hl : succL l i = xs) (hn : xs.length = n) (hc : cs = (xs.map (Value.int .i64)).toArray) (hB : Below w.heap.size w W) (he : e = .returned (.slice (some ⟨W.heap.size, 0, none⟩) n n)) :
    SuccP l i w e (W.alloc (.cells cs t)) := by
  unfold SuccP
  have h2 := succL_le l i
  rw [hl] at h2 ⊢
  exact ⟨some ⟨W.heap.size, 0, none⟩, n, by rw [he, hn], nums_new W t xs cs hc (by omega), hB.alloc hB.size _⟩
end Go.Proofs.Ytnpnpjpmklmklaa
