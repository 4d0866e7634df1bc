/- Plain facts on places, on where one may go on, and on which programs may be. -/
import Derived.Test.YtlpijnnlmgoihaaM2

/- Plain facts on places, on where one may go on, and on which programs may be. -/
namespace Go.Proofs.Ytlpijnnlmgoihaa
open Go.RowKit M

def placeB (l : List In) (i : Int) : Bool := decide (0 ≤ i ∧ i < l.length) && !holeB l i
theorem placeB_true {l : List In} {i : Int} : placeB l i = true ↔ (0 ≤ i ∧ i < l.length) ∧ holeB l i = false := by
  unfold placeB; simp
def wrI (n : Int) : Int := IntKind.i64.wrap n
def nexts (x : In) (i : Int) : List Int :=
  if x.op = 149 then [] else if x.op = 5 then [wrI (i + 1 + x.off)] else if x.op = 24 then [i + 2] else if jmpB x.op = true then [i + 1, wrI (i + 1 + x.off)] else [i + 1]
def succL (l : List In) (i : Int) : List Int := if placeB l i = true then nexts (l.getD i.toNat z) i else []
theorem nexts_le (x : In) (i : Int) : (nexts x i).length ≤ 2 := by
  unfold nexts
  repeat' split
  all_goals simp
theorem succL_le (l : List In) (i : Int) : (succL l i).length ≤ 2 := by
  unfold succL
  split
  · exact nexts_le _ _
  · simp
def blankB (l : List In) (i : Int) : Bool := decide (i < l.length) && eqB (l.getD i.toNat z) z
def wideOk (l : List In) (i : Nat) : Bool := !((l.getD i z).op == 24) || blankB l ((i : Int) + 1)
def mayB (l : List In) (i : Nat) : Bool := (insB (l.getD i z) && wideOk l i) && (succL l i).all (placeB l)
def badI (l : List In) (i : Nat) : Bool := !holeB l i && !mayB l i
def checkS (l : List In) : Int × Int :=
  if 4096 < l.length then (0, 31) else if l.length = 0 then (0, 40) else
    match (List.range l.length).find? (badI l) with
    | some i => ((i : Int), 40)
    | none => (0, 0)
theorem check_bad {l : List In} {k : Nat} (h1 : l.length ≤ 4096) (hk : k < l.length) (hb : badI l k = true) (hj : ∀ j, j < k → badI l j = false) : checkS l = ((k : Int), 40) := by
  have hf : (List.range l.length).find? (badI l) = some k := by
    rw [List.find?_range_eq_some]
    exact ⟨hb, List.mem_range.2 hk, fun j h => by rw [hj j h]; rfl⟩
  unfold checkS
  rw [if_neg (by omega), if_neg (by omega), hf]
theorem check_good {l : List In} (h1 : l.length ≤ 4096) (h0 : ¬ l.length = 0) (hj : ∀ j, j < l.length → badI l j = false) : checkS l = (0, 0) := by
  have hf : (List.range l.length).find? (badI l) = none := by
    rw [List.find?_eq_none]
    intro j h
    rw [hj j (List.mem_range.1 h)]
    simp
  unfold checkS
  rw [if_neg (by omega), if_neg h0, hf]
theorem check_ok {l : List In} (h : (checkS l).2 = 0) : l.length ≤ 4096 ∧ ¬ l.length = 0 ∧ ∀ j, j < l.length → badI l j = false := by
  unfold checkS at h
  split at h
  · simp at h
  · split at h
    · simp at h
    · split at h
      · simp at h
      · rename_i h1 h0 _ hf
        rw [List.find?_eq_none] at hf
        refine ⟨by omega, h0, fun j hj => ?_⟩
        have := hf j (List.mem_range.2 hj)
        simpa using this
theorem holeB_nat {l : List In} {i : Nat} (hi : i < l.length) : holeB l (i : Int) = hR (opL l) i := by
  unfold holeB
  rw [decide_eq_true ⟨by omega, by omega⟩, Bool.true_and, Int.toNat_natCast]
theorem may_place {l : List In} (h : ∀ j, j < l.length → badI l j = false) {i : Int} (hp : placeB l i = true) : ∀ n ∈ succL l i, placeB l n = true := by
  obtain ⟨⟨h0, h1⟩, hh⟩ := placeB_true.1 hp
  obtain ⟨j, rfl⟩ := Int.eq_ofNat_of_zero_le h0
  have hb := h j (by omega)
  unfold badI at hb
  rw [hh] at hb
  have hm : mayB l j = true := by simpa using hb
  unfold mayB at hm
  rw [Bool.and_eq_true] at hm
  intro n hn
  exact List.all_eq_true.1 hm.2 n hn
theorem next_none {l : List In} {i : Int} (hp : placeB l i = true) (h : (succL l i).length = 0) : (l.getD i.toNat z).op = 149 := by
  unfold succL at h
  rw [if_pos hp] at h
  unfold nexts at h
  repeat' split at h
  all_goals simp at h
  assumption
end Go.Proofs.Ytlpijnnlmgoihaa

/- Contracts of isPlace, blank, and Succ on both sides. -/
namespace Go.Proofs.Ytlpijnnlmgoihaa
open Go.RowKit M

set_option maxHeartbeats 1000000 in
theorem place_any (q : Option Addr) (qc : Nat) (l : List In) (i : Int) (w : World) (h : InsAt w q l) :
    Calls Try.prog 44 #[.slice q l.length qc, .int .i64 i] w fun e w' => e = .returned (.bool (placeB l i)) ∧ w = w' := by
  have HH := Lib.hid (fun W hW => hole_any q qc l i W hW)
  have hs := h.small
  have H := Lib.hid h
  unfold placeB
  generalize holeB l i = v at *
  generalize l.length = N at *
  clear h
  by_cases h0 : 0 ≤ i
  · by_cases h1 : i < N
    · rw [decide_eq_true ⟨h0, h1⟩, Bool.true_and]
      go_enter Try.func44, Try.ntmps44
      go_wp2_with (go_at_call 32; refine (HH.out _ H.out).mono ?_; rintro e w1 ⟨rfl, rfl⟩)
      go_ret
      exact ⟨rfl, rfl⟩
    · rw [decide_eq_false (show ¬ (0 ≤ i ∧ i < (N : Int)) by omega), Bool.false_and]
      go_enter Try.func44, Try.ntmps44
      go_wp2
      go_ret
      exact ⟨rfl, rfl⟩
  · rw [decide_eq_false (show ¬ (0 ≤ i ∧ i < (N : Int)) by omega), Bool.false_and]
    go_enter Try.func44, Try.ntmps44
    go_wp2
    go_ret
    exact ⟨rfl, rfl⟩
def SuccP (l : List In) (i : Int) (w : World) (e : Ending) (w' : World) : Prop :=
  ∃ p cap, e = .returned (.slice p (succL l i).length cap) ∧ NumsAt .i64 w' p (succL l i) ∧ Below w.heap.size w w'
theorem nums_nil (w : World) (p : Option Addr) : NumsAt .i64 w p [] := ⟨Nat.zero_le _, fun _ h => absurd h (Nat.not_lt_zero _)⟩
theorem succ_nil {l : List In} {i : Int} {w w' : World} {e : Ending} (hl : succL l i = []) (he : e = .returned (.slice none 0 0)) (hb : Below w.heap.size w w') : SuccP l i w e w' := by
  unfold SuccP
  rw [hl]
  exact ⟨none, 0, he, nums_nil _ _, hb⟩
theorem succ_new {l : List In} {i : Int} {w W : World} {e : Ending} {t : TypeId} {xs : List Int} {n : Nat} {cs : Array Value} (hl : succL l i = xs) (hn : xs.length = n) (hc : cs = (xs.map (Value.int .i64)).toArray) (hB : Below w.heap.size w W) (he : e = .returned (.slice (some ⟨W.heap.size, 0, none⟩) n n)) :
    SuccP l i w e (W.alloc (.cells cs t)) := by
  unfold SuccP
  have h2 := succL_le l i
  rw [hl] at h2 ⊢
  exact ⟨some ⟨W.heap.size, 0, none⟩, n, by rw [he, hn], nums_new W t xs cs hc (by omega), hB.alloc hB.size _⟩
end Go.Proofs.Ytlpijnnlmgoihaa

/- Contracts of Succ on both sides. -/
namespace Go.Proofs.Ytlpijnnlmgoihaa
open Go.RowKit M

set_option maxRecDepth 100000 in
set_option maxHeartbeats 4000000 in
theorem succ_any (q : Option Addr) (qc : Nat) (l : List In) (i : Int) (w : World) (h : InsAt w q l) :
    Calls Try.prog 36 #[.slice q l.length qc, .int .i64 i] w (SuccP l i w) := by
  have HP := Lib.hid (fun W hW => place_any q qc l i W hW)
  cases hp : placeB l i
  · have HS := Lib.hid (fun w' e he hb => succ_nil (l := l) (i := i) (w := w) (w' := w') (e := e) (by unfold succL; rw [if_neg (by rw [hp]; simp)]) he hb)
    rw [hp] at HP
    have hs := h.small
    have H := Lib.hid h
    generalize l.length = N at *
    clear h hp
    go_enter Try.func36, Try.ntmps36
    go_wp2_with (go_at_call 44; refine (HP.out _ H.out).mono ?_; rintro e w1 ⟨rfl, rfl⟩)
    go_ret
    exact HS.out _ _ rfl (Below.refl _ _)
  · obtain ⟨⟨i0, i1⟩, _⟩ := placeB_true.1 hp
    obtain ⟨j, rfl⟩ := Int.eq_ofNat_of_zero_le i0
    have hj : j < l.length := by omega
    have hs := h.small
    have hsucc : succL l (j : Int) = nexts (l.getD j z) j := by
      unfold succL
      rw [if_pos hp]
      rfl
    rw [hp] at HP
    have hb := h.bd j hj
    obtain ⟨b, o, rfl, hbl, d0, d1, d2, d3, d4, d5⟩ := h.cells j hj
    have H := Lib.hid h
    have HN := Lib.hid (fun W e xs n cs hl hn hc hB he => succ_new (l := l) (i := (j : Int)) (w := w) (W := W) (e := e) (t := 3) (xs := xs) (n := n) (cs := cs) hl hn hc hB he)
    have HZ := Lib.hid (fun w' e hl he hb => succ_nil (l := l) (i := (j : Int)) (w := w) (w' := w') (e := e) hl he hb)
    have HJ := Lib.hid hsucc
    generalize l.getD j z = X at *
    obtain ⟨o0, o1⟩ := hb.op
    obtain ⟨f0, f1⟩ := hb.off
    have HJY := Lib.hid (fun W h => jump_yes X.op W o0 o1 h)
    have HJN := Lib.hid (fun W h => jump_no X.op W o0 o1 h)
    unfold nexts at HJ
    have hwr : wrI ((j : Int) + 1 + X.off) = wrap64 ((j : Int) + 1 + X.off) := by unfold wrI wrap64; rw [IntKind.wrap_i64]
    rw [hwr] at HJ
    generalize l.length = N at *
    clear h hp hsucc hb i0 hwr o0 o1
    by_cases e149 : X.op = 149
    · have HZ2 := Lib.hid (HZ.out · · (by rw [HJ.out, if_pos e149]))
      have g : (X.op == 149) = true := by simpa using e149
      clear e149
      go_enter Try.func36, Try.ntmps36
      go_wp2_with (go_at_call 44; refine (HP.out _ H.out).mono ?_; rintro e w1 ⟨rfl, rfl⟩)
      go_ret
      exact HZ2.out _ _ rfl (Below.refl _ _)
    have g149 : (X.op == 149) = false := by simpa using e149
    by_cases e5 : X.op = 5
    · have HZ2 := Lib.hid (HN.out · · _ 1 · (by rw [HJ.out, if_neg e149, if_pos e5]) rfl)
      have g : (X.op == 5) = true := by simpa using e5
      clear e149 e5
      go_enter Try.func36, Try.ntmps36
      go_wp2_with (go_at_call 44; refine (HP.out _ H.out).mono ?_; rintro e w1 ⟨rfl, rfl⟩)
      go_ret
      exact HZ2.out _ _ _ rfl (Below.refl _ _) rfl
    have g5 : (X.op == 5) = false := by simpa using e5
    by_cases e24 : X.op = 24
    · have HZ2 := Lib.hid (HN.out · · _ 1 · (by rw [HJ.out, if_neg e149, if_neg e5, if_pos e24]) rfl)
      have g : (X.op == 24) = true := by simpa using e24
      clear e149 e5 e24
      go_enter Try.func36, Try.ntmps36
      go_wp2_with (go_at_call 44; refine (HP.out _ H.out).mono ?_; rintro e w1 ⟨rfl, rfl⟩)
      go_ret
      exact HZ2.out _ _ _ (by first | rfl | (simp; omega)) (Below.refl _ _) rfl
    have g24 : (X.op == 24) = false := by simpa using e24
    cases hj : jmpB X.op
    · have HZ2 := Lib.hid (HN.out · · _ 1 · (by rw [HJ.out, if_neg e149, if_neg e5, if_neg e24, if_neg (by rw [hj]; simp)]) rfl)
      have HJ2 := Lib.hid (fun W => HJN.out W hj)
      clear e149 e5 e24 hj
      go_enter Try.func36, Try.ntmps36
      go_wp2_with (first
        | (go_at_call 44; refine (HP.out _ H.out).mono ?_; rintro e w1 ⟨rfl, rfl⟩)
        | (go_at_call 45; refine (HJ2.out _).mono ?_; rintro e w1 ⟨rfl, rfl⟩))
      go_ret
      exact HZ2.out _ _ _ rfl (Below.refl _ _) rfl
    · have HZ2 := Lib.hid (HN.out · · _ 2 · (by rw [HJ.out, if_neg e149, if_neg e5, if_neg e24, if_pos hj]) rfl)
      have HJ2 := Lib.hid (fun W => HJY.out W hj)
      generalize X.op - X.op % 16 = hh at *
      generalize decide (X.op % 8 = 5) = dd at *
      clear e149 e5 e24 hj
      go_enter Try.func36, Try.ntmps36
      go_wp2_with (first
        | (go_at_call 44; refine (HP.out _ H.out).mono ?_; rintro e w1 ⟨rfl, rfl⟩)
        | (go_at_call 45; refine (HJ2.out _).mono ?_; rintro e w1 ⟨rfl, rfl⟩))
      go_ret
      exact HZ2.out _ _ _ rfl (Below.refl _ _) rfl
end Go.Proofs.Ytlpijnnlmgoihaa

/- Contract of the document's own Succ; of Ints; of blank. -/
namespace Go.Proofs.Ytlpijnnlmgoihaa
open Go.RowKit M

set_option maxRecDepth 100000 in
set_option maxHeartbeats 4000000 in
theorem rsucc_any (q : Option Addr) (qc : Nat) (l : List In) (i : Int) (w : World) (h : InsAt w q l) :
    Calls Try.prog 16 #[.slice q l.length qc, .int .i64 i] w (SuccP l i w) := by
  have HP := Lib.hid (fun W hW => rhole_any q qc l i W hW)
  by_cases hin : 0 ≤ i ∧ i < l.length
  case neg =>
    have HS := Lib.hid (fun w' e he hb => succ_nil (l := l) (i := i) (w := w) (w' := w') (e := e) (by unfold succL; rw [if_neg (by rw [placeB_true]; exact fun h => hin h.1)]) he hb)
    have hs := h.small
    have H := Lib.hid h
    generalize l.length = N at *
    clear h
    by_cases i0 : i < 0
    · clear hin
      go_enter Try.func16, Try.ntmps16
      go_wp2
      go_ret
      exact HS.out _ _ rfl (Below.refl _ _)
    · have i1 : (N : Int) ≤ i := by omega
      have i2 : 0 ≤ i := by omega
      clear hin
      go_enter Try.func16, Try.ntmps16
      go_wp2
      go_ret
      exact HS.out _ _ rfl (Below.refl _ _)
  case pos =>
  obtain ⟨i0, i1⟩ := hin
  cases hp : holeB l i
  case true =>
    have HS := Lib.hid (fun w' e he hb => succ_nil (l := l) (i := i) (w := w) (w' := w') (e := e) (by unfold succL; rw [if_neg (by rw [placeB_true]; intro h; rw [hp] at h; exact absurd h.2 (by simp))]) he hb)
    rw [hp] at HP
    have hs := h.small
    have H := Lib.hid h
    generalize l.length = N at *
    clear h hp
    go_enter Try.func16, Try.ntmps16
    go_wp2_with (go_at_call 30; refine (HP.out _ H.out).mono ?_; rintro e w1 ⟨rfl, rfl⟩)
    go_ret
    exact HS.out _ _ rfl (Below.refl _ _)
  case false =>
  have hpl : placeB l i = true := placeB_true.2 ⟨⟨i0, i1⟩, hp⟩
  obtain ⟨j, rfl⟩ := Int.eq_ofNat_of_zero_le i0
  have hj : j < l.length := by omega
  have hs := h.small
  have hsucc : succL l (j : Int) = nexts (l.getD j z) j := by
    unfold succL
    rw [if_pos hpl]
    rfl
  rw [hp] at HP
  have hb := h.bd j hj
  obtain ⟨b, o, rfl, hbl, d0, d1, d2, d3, d4, d5⟩ := h.cells j hj
  have H := Lib.hid h
  have HN := Lib.hid (fun W e xs n cs hl hn hc hB he => succ_new (l := l) (i := (j : Int)) (w := w) (W := W) (e := e) (t := 3) (xs := xs) (n := n) (cs := cs) hl hn hc hB he)
  have HZ := Lib.hid (fun w' e hl he hb => succ_nil (l := l) (i := (j : Int)) (w := w) (w' := w') (e := e) hl he hb)
  have HJ := Lib.hid hsucc
  generalize l.getD j z = X at *
  obtain ⟨o0, o1⟩ := hb.op
  obtain ⟨f0, f1⟩ := hb.off
  have HJY := Lib.hid (fun W h => rjump_yes X.op W o0 o1 h)
  have HJN := Lib.hid (fun W h => rjump_no X.op W o0 o1 h)
  unfold nexts at HJ
  have hwr : wrI ((j : Int) + 1 + X.off) = wrap64 ((j : Int) + 1 + X.off) := by unfold wrI wrap64; rw [IntKind.wrap_i64]
  rw [hwr] at HJ
  generalize l.length = N at *
  cases hjb : jmpB X.op
  case true =>
    have h3 := jmpB_true.1 hjb
    have e149 : ¬ X.op = 149 := by omega
    have e5 : ¬ X.op = 5 := by omega
    have e24 : ¬ X.op = 24 := by omega
    have g149 : (X.op == 149) = false := by simpa using e149
    have g5 : (X.op == 5) = false := by simpa using e5
    have HZ2 := Lib.hid (HN.out · · _ 2 · (by rw [HJ.out, if_neg e149, if_neg e5, if_neg e24, if_pos hjb]) rfl)
    have HJ2 := Lib.hid (fun W => HJY.out W hjb)
    generalize X.op - X.op % 16 = hh at *
    generalize decide (X.op % 8 = 5) = dd at *
    clear e149 e5 e24 hjb h3 h hp hpl hsucc hb hwr o0 o1
    go_enter Try.func16, Try.ntmps16
    go_wp2_with (first
      | (go_at_call 30; refine (HP.out _ H.out).mono ?_; rintro e w1 ⟨rfl, rfl⟩)
      | (go_at_call 31; refine (HJ2.out _).mono ?_; rintro e w1 ⟨rfl, rfl⟩))
    go_ret
    exact HZ2.out _ _ _ rfl b1 (by first | rfl | simp)
  case false =>
  have HJ2 := Lib.hid (fun W => HJN.out W hjb)
  by_cases e149 : X.op = 149
  · have HZ2 := Lib.hid (HZ.out · · (by rw [HJ.out, if_pos e149]))
    have g : (X.op == 149) = true := by simpa using e149
    clear e149 hjb h hp hpl hsucc hb hwr o0 o1
    go_enter Try.func16, Try.ntmps16
    go_wp2_with (first
      | (go_at_call 30; refine (HP.out _ H.out).mono ?_; rintro e w1 ⟨rfl, rfl⟩)
      | (go_at_call 31; refine (HJ2.out _).mono ?_; rintro e w1 ⟨rfl, rfl⟩))
    go_ret
    exact HZ2.out _ _ rfl b1
  have g149 : (X.op == 149) = false := by simpa using e149
  by_cases e5 : X.op = 5
  · have HZ2 := Lib.hid (HN.out · · _ 1 · (by rw [HJ.out, if_neg e149, if_pos e5]) rfl)
    have g : (X.op == 5) = true := by simpa using e5
    clear e149 e5 hjb h hp hpl hsucc hb hwr o0 o1
    go_enter Try.func16, Try.ntmps16
    go_wp2_with (first
      | (go_at_call 30; refine (HP.out _ H.out).mono ?_; rintro e w1 ⟨rfl, rfl⟩)
      | (go_at_call 31; refine (HJ2.out _).mono ?_; rintro e w1 ⟨rfl, rfl⟩))
    go_ret
    exact HZ2.out _ _ _ rfl b1 (by first | rfl | simp)
  have g5 : (X.op == 5) = false := by simpa using e5
  by_cases e24 : X.op = 24
  · have HZ2 := Lib.hid (HN.out · · _ 1 · (by rw [HJ.out, if_neg e149, if_neg e5, if_pos e24]) rfl)
    have g : (X.op == 24) = true := by simpa using e24
    clear e149 e5 e24 hjb h hp hpl hsucc hb hwr o0 o1
    go_enter Try.func16, Try.ntmps16
    go_wp2_with (first
      | (go_at_call 30; refine (HP.out _ H.out).mono ?_; rintro e w1 ⟨rfl, rfl⟩)
      | (go_at_call 31; refine (HJ2.out _).mono ?_; rintro e w1 ⟨rfl, rfl⟩))
    go_ret
    exact HZ2.out _ _ _ (by first | rfl | (simp; omega)) b1 (by first | rfl | simp)
  have g24 : (X.op == 24) = false := by simpa using e24
  have HZ2 := Lib.hid (HN.out · · _ 1 · (by rw [HJ.out, if_neg e149, if_neg e5, if_neg e24, if_neg (by rw [hjb]; simp)]) rfl)
  clear e149 e5 e24 hjb h hp hpl hsucc hb hwr o0 o1
  go_enter Try.func16, Try.ntmps16
  go_wp2_with (first
    | (go_at_call 30; refine (HP.out _ H.out).mono ?_; rintro e w1 ⟨rfl, rfl⟩)
    | (go_at_call 31; refine (HJ2.out _).mono ?_; rintro e w1 ⟨rfl, rfl⟩))
  go_ret
  exact HZ2.out _ _ _ rfl b1 (by first | rfl | simp)
set_option maxHeartbeats 1000000 in
theorem ints_eq (p q : Option Addr) (c d : Nat) (a : List Int) (w : World) (h1 : NumsAt .i64 w p a) (h2 : NumsAt .i64 w q a) :
    Calls Try.prog 10 #[.slice p a.length c, .slice q a.length d] w fun e w' => e = .returned (.bool true) ∧ Below w.heap.size w w' := by
  have hs := h1.small
  have H1 := Lib.hid h1
  have H2 := Lib.hid h2
  obtain ⟨N, hN⟩ : ∃ N, a.length = N := ⟨_, rfl⟩
  rw [hN] at hs ⊢
  have HN := Lib.hid hN
  clear hN h1 h2
  go_enter Try.func10, Try.ntmps10
  go_wp2
  go_loopw [5] (fun i wr => ∃ k : Nat, k ≤ N ∧ i = .int .i64 k ∧ Below w.heap.size w wr) (fun i _ => N - (intOf i).toNat)
  case atStart => exact ⟨0, Nat.zero_le _, rfl, Below.refl _ _⟩
  case round =>
    obtain ⟨k, hk, rfl, hb⟩ := hrel
    have HB := Lib.hid hb
    by_cases hlt : k < N
    · obtain ⟨b1, o1, rfl, hl1, c0⟩ := (H1.out.below hb).cells k (by rw [HN.out]; exact hlt)
      obtain ⟨b2, o2, rfl, hl2, d0⟩ := (H2.out.below hb).cells k (by rw [HN.out]; exact hlt)
      clear hb
      generalize a.getD k 0 = X at *
      go_wp2_with fail
      go_quiet (fail)
      go_wp2
      go_roundw
      case rel => exact ⟨k + 1, by omega, by go_num, below_drewN HB.out _⟩
      case measure => simp [intOf]; omega
    · clear hb
      go_wp2
      go_ret
      exact ⟨rfl, HB.out⟩
theorem eq_zero36 (x : In) (w : World) : (binOp .eql 55 (.agg #[.int .i64 x.op, .int .i64 x.dst, .int .i64 x.src, .int .i64 x.off, .int .i64 x.imm, .int .u64 x.wide]) (.agg #[.int .i64 0, .int .i64 0, .int .i64 0, .int .i64 0, .int .i64 0, .int .u64 0])).run Try.prog w = .ok (.bool (eqB x z)) w := eq36 x z w
theorem eq_r (x : In) (w : World) : (Op.equalIn 10000 55 (.agg #[.int .i64 x.op, .int .i64 x.dst, .int .i64 x.src, .int .i64 x.off, .int .i64 x.imm, .int .u64 x.wide]) (.agg #[.int .i64 0, .int .i64 0, .int .i64 0, .int .i64 0, .int .i64 0, .int .u64 0])).run Try.prog w = .ok (eqB x z) w := by
  have h := eq_zero36 x w
  rw [run_eql_struct] at h
  revert h
  generalize (Op.equalIn 10000 55 _ _).run Try.prog w = r
  intro h
  cases r with
  | ok b w1 => simp [Result.andThen] at h; obtain ⟨h1, h2⟩ := h; subst h1 h2; rfl
  | halt a w1 => simp [Result.andThen] at h
set_option maxHeartbeats 1000000 in
theorem blank_any (q : Option Addr) (qc : Nat) (l : List In) (i : Nat) (w : World) (h : InsAt w q l) :
    Calls Try.prog 43 #[.slice q l.length qc, .int .i64 i] w fun e w' => e = .returned (.bool (blankB l i)) ∧ w = w' := by
  have hs := h.small
  unfold blankB
  by_cases hi : i < l.length
  · obtain ⟨b, o, rfl, hbl, d0, d1, d2, d3, d4, d5⟩ := h.cells i hi
    rw [decide_eq_true (show ((i : Int) < (l.length : Int)) by omega), Bool.true_and, Int.toNat_natCast]
    have heq := fun W => eq_r (l.getD i z) W
    generalize l.getD i z = X at *
    generalize l.length = N at *
    clear h
    go_enter Try.func43, Try.ntmps43
    go_wp2
    go_ret
    exact ⟨by simp, rfl⟩
  · rw [decide_eq_false (show ¬ ((i : Int) < (l.length : Int)) by omega), Bool.false_and]
    generalize l.length = N at *
    clear h
    go_enter Try.func43, Try.ntmps43
    go_wp2
    go_ret
    exact ⟨rfl, rfl⟩
end Go.Proofs.Ytlpijnnlmgoihaa
