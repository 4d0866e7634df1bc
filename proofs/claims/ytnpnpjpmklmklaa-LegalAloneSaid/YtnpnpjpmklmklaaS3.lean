/- Contract of the document's own Succ; of Ints; of blank. -/
import Derived.Test.YtnpnpjpmklmklaaS2
namespace Go.Proofs.Ytnpnpjpmklmklaa
open Go.RowKit M

set_option maxRecDepth 100000 in
set_option maxHeartbeats 4000000 in
theorem rsucc_any (q : Option Addr) (qc : Nat) (l : List In) (i : Int) (w : World) (h : InsAt w q l) :
    Calls Try.prog 21 #[.slice q l.length qc, .int .i64 i] w (SuccP l i w) := by
  have HP := Lib.hid (fun W hW => rhole_any q qc l i W hW)
  by_cases hin : 0 ≤ i ∧ i < l.length
  case neg =>
    have HS := Lib.hid (fun w' e he hb => succ_nil (l := l) (i := i) (w := w) (w' := w') (e := e) (by unfold succL; rw [if_neg (by rw [placeB_true]; exact fun h => hin h.1)]) he hb)
    have hs := h.small
    have H := Lib.hid h
    generalize l.length = N at *
    clear h
    by_cases i0 : i < 0
    · clear hin
      go_enter Try.func21, Try.ntmps21
      go_wp2
      go_ret
      exact HS.out _ _ rfl (Below.refl _ _)
    · have i1 : (N : Int) ≤ i := by omega
      have i2 : 0 ≤ i := by omega
      clear hin
      go_enter Try.func21, Try.ntmps21
      go_wp2
      go_ret
      exact HS.out _ _ rfl (Below.refl _ _)
  case pos =>
  obtain ⟨i0, i1⟩ := hin
  cases hp : holeB l i
  case true =>
    have HS := Lib.hid (fun w' e he hb => succ_nil (l := l) (i := i) (w := w) (w' := w') (e := e) (by unfold succL; rw [if_neg (by rw [placeB_true]; intro h; rw [hp] at h; exact absurd h.2 (by simp))]) he hb)
    rw [hp] at HP
    have hs := h.small
    have H := Lib.hid h
    generalize l.length = N at *
    clear h hp
    go_enter Try.func21, Try.ntmps21
    go_wp2_with (go_at_call 22; refine (HP.out _ H.out).mono ?_; rintro e w1 ⟨rfl, rfl⟩)
    go_ret
    exact HS.out _ _ rfl (Below.refl _ _)
  case false =>
  have hpl : placeB l i = true := placeB_true.2 ⟨⟨i0, i1⟩, hp⟩
  obtain ⟨j, rfl⟩ := Int.eq_ofNat_of_zero_le i0
  have hj : j < l.length := by omega
  have hs := h.small
  have hsucc : succL l (j : Int) = nexts (l.getD j z) j := by
    unfold succL
    rw [if_pos hpl]
    rfl
  rw [hp] at HP
  have hb := h.bd j hj
  obtain ⟨b, o, rfl, hbl, d0, d1, d2, d3, d4, d5⟩ := h.cells j hj
  have H := Lib.hid h
  have HN := Lib.hid (fun W e xs n cs hl hn hc hB he => succ_new (l := l) (i := (j : Int)) (w := w) (W := W) (e := e) (t := 3) (xs := xs) (n := n) (cs := cs) hl hn hc hB he)
  have HZ := Lib.hid (fun w' e hl he hb => succ_nil (l := l) (i := (j : Int)) (w := w) (w' := w') (e := e) hl he hb)
  have HJ := Lib.hid hsucc
  generalize l.getD j z = X at *
  obtain ⟨o0, o1⟩ := hb.op
  obtain ⟨f0, f1⟩ := hb.off
  have HJY := Lib.hid (fun W h => rjump_yes X.op W o0 o1 h)
  have HJN := Lib.hid (fun W h => rjump_no X.op W o0 o1 h)
  unfold nexts at HJ
  have hwr : wrI ((j : Int) + 1 + X.off) = wrap64 ((j : Int) + 1 + X.off) := by unfold wrI wrap64; rw [IntKind.wrap_i64]
  rw [hwr] at HJ
  generalize l.length = N at *
  cases hjb : jmpB X.op
  case true =>
    have h3 := jmpB_true.1 hjb
    have e149 : ¬ X.op = 149 := by omega
    have e5 : ¬ X.op = 5 := by omega
    have e24 : ¬ X.op = 24 := by omega
    have g149 : (X.op == 149) = false := by simpa using e149
    have g5 : (X.op == 5) = false := by simpa using e5
    have HZ2 := Lib.hid (HN.out · · _ 2 · (by rw [HJ.out, if_neg e149, if_neg e5, if_neg e24, if_pos hjb]) rfl)
    have HJ2 := Lib.hid (fun W => HJY.out W hjb)
    generalize X.op - X.op % 16 = hh at *
    generalize decide (X.op % 8 = 5) = dd at *
    clear e149 e5 e24 hjb h3 h hp hpl hsucc hb hwr o0 o1
    go_enter Try.func21, Try.ntmps21
    go_wp2_with (first
      | (go_at_call 22; refine (HP.out _ H.out).mono ?_; rintro e w1 ⟨rfl, rfl⟩)
      | (go_at_call 11; refine (HJ2.out _).mono ?_; rintro e w1 ⟨rfl, rfl⟩))
    go_ret
    exact HZ2.out _ _ _ rfl b1 (by first | rfl | simp)
  case false =>
  have HJ2 := Lib.hid (fun W => HJN.out W hjb)
  by_cases e149 : X.op = 149
  · have HZ2 := Lib.hid (HZ.out · · (by rw [HJ.out, if_pos e149]))
    have g : (X.op == 149) = true := by simpa using e149
    clear e149 hjb h hp hpl hsucc hb hwr o0 o1
    go_enter Try.func21, Try.ntmps21
    go_wp2_with (first
      | (go_at_call 22; refine (HP.out _ H.out).mono ?_; rintro e w1 ⟨rfl, rfl⟩)
      | (go_at_call 11; refine (HJ2.out _).mono ?_; rintro e w1 ⟨rfl, rfl⟩))
    go_ret
    exact HZ2.out _ _ rfl b1
  have g149 : (X.op == 149) = false := by simpa using e149
  by_cases e5 : X.op = 5
  · have HZ2 := Lib.hid (HN.out · · _ 1 · (by rw [HJ.out, if_neg e149, if_pos e5]) rfl)
    have g : (X.op == 5) = true := by simpa using e5
    clear e149 e5 hjb h hp hpl hsucc hb hwr o0 o1
    go_enter Try.func21, Try.ntmps21
    go_wp2_with (first
      | (go_at_call 22; refine (HP.out _ H.out).mono ?_; rintro e w1 ⟨rfl, rfl⟩)
      | (go_at_call 11; refine (HJ2.out _).mono ?_; rintro e w1 ⟨rfl, rfl⟩))
    go_ret
    exact HZ2.out _ _ _ rfl b1 (by first | rfl | simp)
  have g5 : (X.op == 5) = false := by simpa using e5
  by_cases e24 : X.op = 24
  · have HZ2 := Lib.hid (HN.out · · _ 1 · (by rw [HJ.out, if_neg e149, if_neg e5, if_pos e24]) rfl)
    have g : (X.op == 24) = true := by simpa using e24
    clear e149 e5 e24 hjb h hp hpl hsucc hb hwr o0 o1
    go_enter Try.func21, Try.ntmps21
    go_wp2_with (first
      | (go_at_call 22; refine (HP.out _ H.out).mono ?_; rintro e w1 ⟨rfl, rfl⟩)
      | (go_at_call 11; refine (HJ2.out _).mono ?_; rintro e w1 ⟨rfl, rfl⟩))
    go_ret
    exact HZ2.out _ _ _ (by first | rfl | (simp; omega)) b1 (by first | rfl | simp)
  have g24 : (X.op == 24) = false := by simpa using e24
  have HZ2 := Lib.hid (HN.out · · _ 1 · (by rw [HJ.out, if_neg e149, if_neg e5, if_neg e24, if_neg (by rw [hjb]; simp)]) rfl)
  clear e149 e5 e24 hjb h hp hpl hsucc hb hwr o0 o1
  go_enter Try.func21, Try.ntmps21
  go_wp2_with (first
    | (go_at_call 22; refine (HP.out _ H.out).mono ?_; rintro e w1 ⟨rfl, rfl⟩)
    | (go_at_call 11; refine (HJ2.out _).mono ?_; rintro e w1 ⟨rfl, rfl⟩))
  go_ret
  exact HZ2.out _ _ _ rfl b1 (by first | rfl | simp)
set_option maxHeartbeats 1000000 in
theorem ints_eq (p q : Option Addr) (c d : Nat) (a : List Int) (w : World) (h1 : NumsAt .i64 w p a) (h2 : NumsAt .i64 w q a) :
    Calls Try.prog 19 #[.slice p a.length c, .slice q a.length d] w fun e w' => e = .returned (.bool true) ∧ Below w.heap.size w w' := by
  have hs := h1.small
  have H1 := Lib.hid h1
  have H2 := Lib.hid h2
  obtain ⟨N, hN⟩ : ∃ N, a.length = N := ⟨_, rfl⟩
  rw [hN] at hs ⊢
  have HN := Lib.hid hN
  clear hN h1 h2
  go_enter Try.func19, Try.ntmps19
  go_wp2
  go_loopw [5] (fun i wr => ∃ k : Nat, k ≤ N ∧ i = .int .i64 k ∧ Below w.heap.size w wr) (fun i _ => N - (intOf i).toNat)
  case atStart => exact ⟨0, Nat.zero_le _, rfl, Below.refl _ _⟩
  case round =>
    obtain ⟨k, hk, rfl, hb⟩ := hrel
    have HB := Lib.hid hb
    by_cases hlt : k < N
    · obtain ⟨b1, o1, rfl, hl1, c0⟩ := (H1.out.below hb).cells k (by rw [HN.out]; exact hlt)
      obtain ⟨b2, o2, rfl, hl2, d0⟩ := (H2.out.below hb).cells k (by rw [HN.out]; exact hlt)
      clear hb
      generalize a.getD k 0 = X at *
      go_wp2_with fail
      go_quiet (fail)
      go_wp2
      go_roundw
      case rel => exact ⟨k + 1, by omega, by go_num, below_drewN HB.out _⟩
      case measure => simp [intOf]; omega
    · clear hb
      go_wp2
      go_ret
      exact ⟨rfl, HB.out⟩
theorem eq_zero36 (x : In) (w : World) : (binOp .eql 36 (.agg #[.int .i64 x.op, .int .i64 x.dst, .int .i64 x.src, .int .i64 x.off, .int .i64 x.imm, .int .u64 x.wide]) (.agg #[.int .i64 0, .int .i64 0, .int .i64 0, .int .i64 0, .int .i64 0, .int .u64 0])).run Try.prog w = .ok (.bool (eqB x z)) w := eq36 x z w
theorem eq_r (x : In) (w : World) : (Op.equalIn 10000 36 (.agg #[.int .i64 x.op, .int .i64 x.dst, .int .i64 x.src, .int .i64 x.off, .int .i64 x.imm, .int .u64 x.wide]) (.agg #[.int .i64 0, .int .i64 0, .int .i64 0, .int .i64 0, .int .i64 0, .int .u64 0])).run Try.prog w = .ok (eqB x z) w := by
  have h := eq_zero36 x w
  rw [run_eql_struct] at h
  revert h
  generalize (Op.equalIn 10000 36 _ _).run Try.prog w = r
  intro h
  cases r with
  | ok b w1 => simp [Result.andThen] at h; obtain ⟨h1, h2⟩ := h; subst h1 h2; rfl
  | halt a w1 => simp [Result.andThen] at h
set_option maxHeartbeats 1000000 in
theorem blank_any (q : Option Addr) (qc : Nat) (l : List In) (i : Nat) (w : World) (h : InsAt w q l) :
    Calls Try.prog 39 #[.slice q l.length qc, .int .i64 i] w fun e w' => e = .returned (.bool (blankB l i)) ∧ w = w' := by
  have hs := h.small
  unfold blankB
  by_cases hi : i < l.length
  · obtain ⟨b, o, rfl, hbl, d0, d1, d2, d3, d4, d5⟩ := h.cells i hi
    rw [decide_eq_true (show ((i : Int) < (l.length : Int)) by omega), Bool.true_and, Int.toNat_natCast]
    have heq := fun W => eq_r (l.getD i z) W
    generalize l.getD i z = X at *
    generalize l.length = N at *
    clear h
    go_enter Try.func39, Try.ntmps39
    go_wp2
    go_ret
    exact ⟨by simp, rfl⟩
  · rw [decide_eq_false (show ¬ ((i : Int) < (l.length : Int)) by omega), Bool.false_and]
    generalize l.length = N at *
    clear h
    go_enter Try.func39, Try.ntmps39
    go_wp2
    go_ret
    exact ⟨rfl, rfl⟩
end Go.Proofs.Ytnpnpjpmklmklaa
