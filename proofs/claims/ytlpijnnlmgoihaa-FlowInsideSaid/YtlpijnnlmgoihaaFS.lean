/- Contracts of Succ on both sides: what is answered lies in new memory. -/
import Derived.Test.YtlpijnnlmgoihaaMS
namespace Go.Proofs.Ytlpijnnlmgoihaa
open Go.RowKit M

def SuccQ (l : List In) (i : Int) (w : World) (e : Ending) (w' : World) : Prop :=
  ∃ p cap, e = .returned (.slice p (succL l i).length cap) ∧ NumsAt .i64 w' p (succL l i) ∧ Below w.heap.size w w' ∧ ∀ ad, p = some ad → w.heap.size ≤ ad.block
theorem succ_nilQ {l : List In} {i : Int} {w w' : World} {e : Ending} (hl : succL l i = []) (he : e = .returned (.slice none 0 0)) (hb : Below w.heap.size w w') : SuccQ l i w e w' := by
  unfold SuccQ
  rw [hl]
  exact ⟨none, 0, he, nums_nil _ _, hb, fun ad h => by cases h⟩
theorem succ_newQ {l : List In} {i : Int} {w W : World} {e : Ending} {t : TypeId} {xs : List Int} {n : Nat} {cs : Array Value} (hl : succL l i = xs) (hn : xs.length = n) (hc : cs = (xs.map (Value.int .i64)).toArray) (hB : Below w.heap.size w W) (he : e = .returned (.slice (some ⟨W.heap.size, 0, none⟩) n n)) :
    SuccQ l i w e (W.alloc (.cells cs t)) := by
  unfold SuccQ
  have h2 := succL_le l i
  rw [hl] at h2 ⊢
  exact ⟨some ⟨W.heap.size, 0, none⟩, n, by rw [he, hn], nums_new W t xs cs hc (by omega), hB.alloc hB.size _, fun ad h => by cases h; exact hB.size⟩
set_option maxRecDepth 100000 in
set_option maxHeartbeats 4000000 in
theorem rsucc_new (q : Option Addr) (qc : Nat) (l : List In) (i : Int) (w : World) (h : InsAt w q l) :
    Calls Try.prog 16 #[.slice q l.length qc, .int .i64 i] w (SuccQ l i w) := by
  have HP := Lib.hid (fun W hW => rhole_any q qc l i W hW)
  by_cases hin : 0 ≤ i ∧ i < l.length
  case neg =>
    have HS := Lib.hid (fun w' e he hb => succ_nilQ (l := l) (i := i) (w := w) (w' := w') (e := e) (by unfold succL; rw [if_neg (by rw [placeB_true]; exact fun h => hin h.1)]) he hb)
    have hs := h.small
    have H := Lib.hid h
    generalize l.length = N at *
    clear h
    by_cases i0 : i < 0
    · clear hin
      go_enter Try.func16, Try.ntmps16
      go_wp2
      go_ret
      exact HS.out _ _ rfl (Below.refl _ _)
    · have i1 : (N : Int) ≤ i := by omega
      have i2 : 0 ≤ i := by omega
      clear hin
      go_enter Try.func16, Try.ntmps16
      go_wp2
      go_ret
      exact HS.out _ _ rfl (Below.refl _ _)
  case pos =>
  obtain ⟨i0, i1⟩ := hin
  cases hp : holeB l i
  case true =>
    have HS := Lib.hid (fun w' e he hb => succ_nilQ (l := l) (i := i) (w := w) (w' := w') (e := e) (by unfold succL; rw [if_neg (by rw [placeB_true]; intro h; rw [hp] at h; exact absurd h.2 (by simp))]) he hb)
    rw [hp] at HP
    have hs := h.small
    have H := Lib.hid h
    generalize l.length = N at *
    clear h hp
    go_enter Try.func16, Try.ntmps16
    go_wp2_with (go_at_call 30; refine (HP.out _ H.out).mono ?_; rintro e w1 ⟨rfl, rfl⟩)
    go_ret
    exact HS.out _ _ rfl (Below.refl _ _)
  case false =>
  have hpl : placeB l i = true := placeB_true.2 ⟨⟨i0, i1⟩, hp⟩
  obtain ⟨j, rfl⟩ := Int.eq_ofNat_of_zero_le i0
  have hj : j < l.length := by omega
  have hs := h.small
  have hsucc : succL l (j : Int) = nexts (l.getD j z) j := by
    unfold succL
    rw [if_pos hpl]
    rfl
  rw [hp] at HP
  have hb := h.bd j hj
  obtain ⟨b, o, rfl, hbl, d0, d1, d2, d3, d4, d5⟩ := h.cells j hj
  have H := Lib.hid h
  have HN := Lib.hid (fun W e xs n cs hl hn hc hB he => succ_newQ (l := l) (i := (j : Int)) (w := w) (W := W) (e := e) (t := 3) (xs := xs) (n := n) (cs := cs) hl hn hc hB he)
  have HZ := Lib.hid (fun w' e hl he hb => succ_nilQ (l := l) (i := (j : Int)) (w := w) (w' := w') (e := e) hl he hb)
  have HJ := Lib.hid hsucc
  generalize l.getD j z = X at *
  obtain ⟨o0, o1⟩ := hb.op
  obtain ⟨f0, f1⟩ := hb.off
  have HJY := Lib.hid (fun W h => rjump_yes X.op W o0 o1 h)
  have HJN := Lib.hid (fun W h => rjump_no X.op W o0 o1 h)
  unfold nexts at HJ
  have hwr : wrI ((j : Int) + 1 + X.off) = wrap64 ((j : Int) + 1 + X.off) := by unfold wrI wrap64; rw [IntKind.wrap_i64]
  rw [hwr] at HJ
  generalize l.length = N at *
  cases hjb : jmpB X.op
  case true =>
    have h3 := jmpB_true.1 hjb
    have e149 : ¬ X.op = 149 := by omega
    have e5 : ¬ X.op = 5 := by omega
    have e24 : ¬ X.op = 24 := by omega
    have g149 : (X.op == 149) = false := by simpa using e149
    have g5 : (X.op == 5) = false := by simpa using e5
    have HZ2 := Lib.hid (HN.out · · _ 2 · (by rw [HJ.out, if_neg e149, if_neg e5, if_neg e24, if_pos hjb]) rfl)
    have HJ2 := Lib.hid (fun W => HJY.out W hjb)
    generalize X.op - X.op % 16 = hh at *
    generalize decide (X.op % 8 = 5) = dd at *
    clear e149 e5 e24 hjb h3 h hp hpl hsucc hb hwr o0 o1
    go_enter Try.func16, Try.ntmps16
    go_wp2_with (first
      | (go_at_call 30; refine (HP.out _ H.out).mono ?_; rintro e w1 ⟨rfl, rfl⟩)
      | (go_at_call 31; refine (HJ2.out _).mono ?_; rintro e w1 ⟨rfl, rfl⟩))
    go_ret
    exact HZ2.out _ _ _ rfl b1 (by first | rfl | simp)
  case false =>
  have HJ2 := Lib.hid (fun W => HJN.out W hjb)
  by_cases e149 : X.op = 149
  · have HZ2 := Lib.hid (HZ.out · · (by rw [HJ.out, if_pos e149]))
    have g : (X.op == 149) = true := by simpa using e149
    clear e149 hjb h hp hpl hsucc hb hwr o0 o1
    go_enter Try.func16, Try.ntmps16
    go_wp2_with (first
      | (go_at_call 30; refine (HP.out _ H.out).mono ?_; rintro e w1 ⟨rfl, rfl⟩)
      | (go_at_call 31; refine (HJ2.out _).mono ?_; rintro e w1 ⟨rfl, rfl⟩))
    go_ret
    exact HZ2.out _ _ rfl b1
  have g149 : (X.op == 149) = false := by simpa using e149
  by_cases e5 : X.op = 5
  · have HZ2 := Lib.hid (HN.out · · _ 1 · (by rw [HJ.out, if_neg e149, if_pos e5]) rfl)
    have g : (X.op == 5) = true := by simpa using e5
    clear e149 e5 hjb h hp hpl hsucc hb hwr o0 o1
    go_enter Try.func16, Try.ntmps16
    go_wp2_with (first
      | (go_at_call 30; refine (HP.out _ H.out).mono ?_; rintro e w1 ⟨rfl, rfl⟩)
      | (go_at_call 31; refine (HJ2.out _).mono ?_; rintro e w1 ⟨rfl, rfl⟩))
    go_ret
    exact HZ2.out _ _ _ rfl b1 (by first | rfl | simp)
  have g5 : (X.op == 5) = false := by simpa using e5
  by_cases e24 : X.op = 24
  · have HZ2 := Lib.hid (HN.out · · _ 1 · (by rw [HJ.out, if_neg e149, if_neg e5, if_pos e24]) rfl)
    have g : (X.op == 24) = true := by simpa using e24
    clear e149 e5 e24 hjb h hp hpl hsucc hb hwr o0 o1
    go_enter Try.func16, Try.ntmps16
    go_wp2_with (first
      | (go_at_call 30; refine (HP.out _ H.out).mono ?_; rintro e w1 ⟨rfl, rfl⟩)
      | (go_at_call 31; refine (HJ2.out _).mono ?_; rintro e w1 ⟨rfl, rfl⟩))
    go_ret
    exact HZ2.out _ _ _ (by first | rfl | (simp; omega)) b1 (by first | rfl | simp)
  have g24 : (X.op == 24) = false := by simpa using e24
  have HZ2 := Lib.hid (HN.out · · _ 1 · (by rw [HJ.out, if_neg e149, if_neg e5, if_neg e24, if_neg (by rw [hjb]; simp)]) rfl)
  clear e149 e5 e24 hjb h hp hpl hsucc hb hwr o0 o1
  go_enter Try.func16, Try.ntmps16
  go_wp2_with (first
    | (go_at_call 30; refine (HP.out _ H.out).mono ?_; rintro e w1 ⟨rfl, rfl⟩)
    | (go_at_call 31; refine (HJ2.out _).mono ?_; rintro e w1 ⟨rfl, rfl⟩))
  go_ret
  exact HZ2.out _ _ _ rfl b1 (by first | rfl | simp)
set_option maxRecDepth 100000 in
set_option maxHeartbeats 4000000 in
theorem psucc_new (q : Option Addr) (qc : Nat) (l : List In) (i : Int) (w : World) (h : InsAt w q l) :
    Calls Try.prog 36 #[.slice q l.length qc, .int .i64 i] w (SuccQ l i w) := by
  have HP := Lib.hid (fun W hW => place_any q qc l i W hW)
  cases hp : placeB l i
  · have HS := Lib.hid (fun w' e he hb => succ_nilQ (l := l) (i := i) (w := w) (w' := w') (e := e) (by unfold succL; rw [if_neg (by rw [hp]; simp)]) he hb)
    rw [hp] at HP
    have hs := h.small
    have H := Lib.hid h
    generalize l.length = N at *
    clear h hp
    go_enter Try.func36, Try.ntmps36
    go_wp2_with (go_at_call 44; refine (HP.out _ H.out).mono ?_; rintro e w1 ⟨rfl, rfl⟩)
    go_ret
    exact HS.out _ _ rfl (Below.refl _ _)
  · obtain ⟨⟨i0, i1⟩, _⟩ := placeB_true.1 hp
    obtain ⟨j, rfl⟩ := Int.eq_ofNat_of_zero_le i0
    have hj : j < l.length := by omega
    have hs := h.small
    have hsucc : succL l (j : Int) = nexts (l.getD j z) j := by
      unfold succL
      rw [if_pos hp]
      rfl
    rw [hp] at HP
    have hb := h.bd j hj
    obtain ⟨b, o, rfl, hbl, d0, d1, d2, d3, d4, d5⟩ := h.cells j hj
    have H := Lib.hid h
    have HN := Lib.hid (fun W e xs n cs hl hn hc hB he => succ_newQ (l := l) (i := (j : Int)) (w := w) (W := W) (e := e) (t := 3) (xs := xs) (n := n) (cs := cs) hl hn hc hB he)
    have HZ := Lib.hid (fun w' e hl he hb => succ_nilQ (l := l) (i := (j : Int)) (w := w) (w' := w') (e := e) hl he hb)
    have HJ := Lib.hid hsucc
    generalize l.getD j z = X at *
    obtain ⟨o0, o1⟩ := hb.op
    obtain ⟨f0, f1⟩ := hb.off
    have HJY := Lib.hid (fun W h => jump_yes X.op W o0 o1 h)
    have HJN := Lib.hid (fun W h => jump_no X.op W o0 o1 h)
    unfold nexts at HJ
    have hwr : wrI ((j : Int) + 1 + X.off) = wrap64 ((j : Int) + 1 + X.off) := by unfold wrI wrap64; rw [IntKind.wrap_i64]
    rw [hwr] at HJ
    generalize l.length = N at *
    clear h hp hsucc hb i0 hwr o0 o1
    by_cases e149 : X.op = 149
    · have HZ2 := Lib.hid (HZ.out · · (by rw [HJ.out, if_pos e149]))
      have g : (X.op == 149) = true := by simpa using e149
      clear e149
      go_enter Try.func36, Try.ntmps36
      go_wp2_with (go_at_call 44; refine (HP.out _ H.out).mono ?_; rintro e w1 ⟨rfl, rfl⟩)
      go_ret
      exact HZ2.out _ _ rfl (Below.refl _ _)
    have g149 : (X.op == 149) = false := by simpa using e149
    by_cases e5 : X.op = 5
    · have HZ2 := Lib.hid (HN.out · · _ 1 · (by rw [HJ.out, if_neg e149, if_pos e5]) rfl)
      have g : (X.op == 5) = true := by simpa using e5
      clear e149 e5
      go_enter Try.func36, Try.ntmps36
      go_wp2_with (go_at_call 44; refine (HP.out _ H.out).mono ?_; rintro e w1 ⟨rfl, rfl⟩)
      go_ret
      exact HZ2.out _ _ _ rfl (Below.refl _ _) rfl
    have g5 : (X.op == 5) = false := by simpa using e5
    by_cases e24 : X.op = 24
    · have HZ2 := Lib.hid (HN.out · · _ 1 · (by rw [HJ.out, if_neg e149, if_neg e5, if_pos e24]) rfl)
      have g : (X.op == 24) = true := by simpa using e24
      clear e149 e5 e24
      go_enter Try.func36, Try.ntmps36
      go_wp2_with (go_at_call 44; refine (HP.out _ H.out).mono ?_; rintro e w1 ⟨rfl, rfl⟩)
      go_ret
      exact HZ2.out _ _ _ (by first | rfl | (simp; omega)) (Below.refl _ _) rfl
    have g24 : (X.op == 24) = false := by simpa using e24
    cases hj : jmpB X.op
    · have HZ2 := Lib.hid (HN.out · · _ 1 · (by rw [HJ.out, if_neg e149, if_neg e5, if_neg e24, if_neg (by rw [hj]; simp)]) rfl)
      have HJ2 := Lib.hid (fun W => HJN.out W hj)
      clear e149 e5 e24 hj
      go_enter Try.func36, Try.ntmps36
      go_wp2_with (first
        | (go_at_call 44; refine (HP.out _ H.out).mono ?_; rintro e w1 ⟨rfl, rfl⟩)
        | (go_at_call 45; refine (HJ2.out _).mono ?_; rintro e w1 ⟨rfl, rfl⟩))
      go_ret
      exact HZ2.out _ _ _ rfl (Below.refl _ _) rfl
    · have HZ2 := Lib.hid (HN.out · · _ 2 · (by rw [HJ.out, if_neg e149, if_neg e5, if_neg e24, if_pos hj]) rfl)
      have HJ2 := Lib.hid (fun W => HJY.out W hj)
      generalize X.op - X.op % 16 = hh at *
      generalize decide (X.op % 8 = 5) = dd at *
      clear e149 e5 e24 hj
      go_enter Try.func36, Try.ntmps36
      go_wp2_with (first
        | (go_at_call 44; refine (HP.out _ H.out).mono ?_; rintro e w1 ⟨rfl, rfl⟩)
        | (go_at_call 45; refine (HJ2.out _).mono ?_; rintro e w1 ⟨rfl, rfl⟩))
      go_ret
      exact HZ2.out _ _ _ rfl (Below.refl _ _) rfl
end Go.Proofs.Ytlpijnnlmgoihaa
