/- Contracts of Succ on both sides. -/
import Derived.Test.YtnpnpjpmklmklaaS1
namespace Go.Proofs.Ytnpnpjpmklmklaa
open Go.RowKit M

set_option maxRecDepth 100000 in
set_option maxHeartbeats 4000000 in
theorem succ_any (q : Option Addr) (qc : Nat) (l : List In) (i : Int) (w : World) (h : InsAt w q l) :
    Calls Try.prog 20 #[.slice q l.length qc, .int .i64 i] w (SuccP l i w) := by
  have HP := Lib.hid (fun W hW => place_any q qc l i W hW)
  cases hp : placeB l i
  · have HS := Lib.hid (fun w' e he hb => succ_nil (l := l) (i := i) (w := w) (w' := w') (e := e) (by unfold succL; rw [if_neg (by rw [hp]; simp)]) he hb)
    rw [hp] at HP
    have hs := h.small
    have H := Lib.hid h
    generalize l.length = N at *
    clear h hp
    go_enter Try.func20, Try.ntmps20
    go_wp2_with (go_at_call 37; refine (HP.out _ H.out).mono ?_; rintro e w1 ⟨rfl, rfl⟩)
    go_ret
    exact HS.out _ _ rfl (Below.refl _ _)
  · obtain ⟨⟨i0, i1⟩, _⟩ := placeB_true.1 hp
    obtain ⟨j, rfl⟩ := Int.eq_ofNat_of_zero_le i0
    have hj : j < l.length := by omega
    have hs := h.small
    have hsucc : succL l (j : Int) = nexts (l.getD j z) j := by
      unfold succL
      rw [if_pos hp]
      rfl
    rw [hp] at HP
    have hb := h.bd j hj
    obtain ⟨b, o, rfl, hbl, d0, d1, d2, d3, d4, d5⟩ := h.cells j hj
    have H := Lib.hid h
    have HN := Lib.hid (fun W e xs n cs hl hn hc hB he => succ_new (l := l) (i := (j : Int)) (w := w) (W := W) (e := e) (t := 3) (xs := xs) (n := n) (cs := cs) hl hn hc hB he)
    have HZ := Lib.hid (fun w' e hl he hb => succ_nil (l := l) (i := (j : Int)) (w := w) (w' := w') (e := e) hl he hb)
    have HJ := Lib.hid hsucc
    generalize l.getD j z = X at *
    obtain ⟨o0, o1⟩ := hb.op
    obtain ⟨f0, f1⟩ := hb.off
    have HJY := Lib.hid (fun W h => jump_yes X.op W o0 o1 h)
    have HJN := Lib.hid (fun W h => jump_no X.op W o0 o1 h)
    unfold nexts at HJ
    have hwr : wrI ((j : Int) + 1 + X.off) = wrap64 ((j : Int) + 1 + X.off) := by unfold wrI wrap64; rw [IntKind.wrap_i64]
    rw [hwr] at HJ
    generalize l.length = N at *
    clear h hp hsucc hb i0 hwr o0 o1
    by_cases e149 : X.op = 149
    · have HZ2 := Lib.hid (HZ.out · · (by rw [HJ.out, if_pos e149]))
      have g : (X.op == 149) = true := by simpa using e149
      clear e149
      go_enter Try.func20, Try.ntmps20
      go_wp2_with (go_at_call 37; refine (HP.out _ H.out).mono ?_; rintro e w1 ⟨rfl, rfl⟩)
      go_ret
      exact HZ2.out _ _ rfl (Below.refl _ _)
    have g149 : (X.op == 149) = false := by simpa using e149
    by_cases e5 : X.op = 5
    · have HZ2 := Lib.hid (HN.out · · _ 1 · (by rw [HJ.out, if_neg e149, if_pos e5]) rfl)
      have g : (X.op == 5) = true := by simpa using e5
      clear e149 e5
      go_enter Try.func20, Try.ntmps20
      go_wp2_with (go_at_call 37; refine (HP.out _ H.out).mono ?_; rintro e w1 ⟨rfl, rfl⟩)
      go_ret
      exact HZ2.out _ _ _ rfl (Below.refl _ _) rfl
    have g5 : (X.op == 5) = false := by simpa using e5
    by_cases e24 : X.op = 24
    · have HZ2 := Lib.hid (HN.out · · _ 1 · (by rw [HJ.out, if_neg e149, if_neg e5, if_pos e24]) rfl)
      have g : (X.op == 24) = true := by simpa using e24
      clear e149 e5 e24
      go_enter Try.func20, Try.ntmps20
      go_wp2_with (go_at_call 37; refine (HP.out _ H.out).mono ?_; rintro e w1 ⟨rfl, rfl⟩)
      go_ret
      exact HZ2.out _ _ _ (by first | rfl | (simp; omega)) (Below.refl _ _) rfl
    have g24 : (X.op == 24) = false := by simpa using e24
    cases hj : jmpB X.op
    · have HZ2 := Lib.hid (HN.out · · _ 1 · (by rw [HJ.out, if_neg e149, if_neg e5, if_neg e24, if_neg (by rw [hj]; simp)]) rfl)
      have HJ2 := Lib.hid (fun W => HJN.out W hj)
      clear e149 e5 e24 hj
      go_enter Try.func20, Try.ntmps20
      go_wp2_with (first
        | (go_at_call 37; refine (HP.out _ H.out).mono ?_; rintro e w1 ⟨rfl, rfl⟩)
        | (go_at_call 10; refine (HJ2.out _).mono ?_; rintro e w1 ⟨rfl, rfl⟩))
      go_ret
      exact HZ2.out _ _ _ rfl (Below.refl _ _) rfl
    · have HZ2 := Lib.hid (HN.out · · _ 2 · (by rw [HJ.out, if_neg e149, if_neg e5, if_neg e24, if_pos hj]) rfl)
      have HJ2 := Lib.hid (fun W => HJY.out W hj)
      generalize X.op - X.op % 16 = hh at *
      generalize decide (X.op % 8 = 5) = dd at *
      clear e149 e5 e24 hj
      go_enter Try.func20, Try.ntmps20
      go_wp2_with (first
        | (go_at_call 37; refine (HP.out _ H.out).mono ?_; rintro e w1 ⟨rfl, rfl⟩)
        | (go_at_call 10; refine (HJ2.out _).mono ?_; rintro e w1 ⟨rfl, rfl⟩))
      go_ret
      exact HZ2.out _ _ _ rfl (Below.refl _ _) rfl
end Go.Proofs.Ytnpnpjpmklmklaa
