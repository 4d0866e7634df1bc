/- Bounds: the law on meets and joins. -/
import Derived.Test.YtaolcmmdefchmaaLD
namespace Go.Proofs.Ytaolcmmdefchmaa
open Go.RowKit
attribute [local go_sem] b_and b_or b_xor b_andNot b_low b_top b_most b_signed b_unsigned b_zero b_eq s_eq b_nzero b_neq s_neq b_max b_min s_max s_min
attribute [local go_sem ↓] Go.wp_at_zero Go.wp_at_succ

theorem AB.drew {n : Nat} {a b : Bd} {w W : World} (h : AB n a b w W) : AB n a b w W.drew := h.next (Below.refl _ _).drew
structure A3 (n k : Nat) (a b c : Bd) (w W : World) : Prop where
  ab : AB n a b w W
  three : Box W k (bv c)
theorem A3.low {n k : Nat} {a b c : Bd} {w W : World} (h : A3 n k a b c w W) : Below n w W := h.ab.low
theorem A3.next {n k : Nat} {a b c : Bd} {w W W' : World} (h : A3 n k a b c w W) (hb : Below W.heap.size W W') : A3 n k a b c w W' := ⟨h.ab.next hb, h.three.next hb⟩
theorem A3.drew {n k : Nat} {a b c : Bd} {w W : World} (h : A3 n k a b c w W) : A3 n k a b c w W.drew := h.next (Below.refl _ _).drew
theorem A3.facts {n k : Nat} {a b c : Bd} {w W : World} (h : A3 n k a b c w W) : ((W.cell? ⟨n, 0, none⟩ = some (.int .u64 (U a.ul)) ∧ W.cell? ⟨n, 1, none⟩ = some (.int .u64 (U a.uh)) ∧ W.cell? ⟨n, 2, none⟩ = some (.int .i64 (S a.sl)) ∧ W.cell? ⟨n, 3, none⟩ = some (.int .i64 (S a.sh)) ∧ W.cell? ⟨n, 4, none⟩ = some (.int .u64 (U a.t.v)) ∧ W.cell? ⟨n, 5, none⟩ = some (.int .u64 (U a.t.m))) ∧ (W.cell? ⟨n + 1, 0, none⟩ = some (.int .u64 (U b.ul)) ∧ W.cell? ⟨n + 1, 1, none⟩ = some (.int .u64 (U b.uh)) ∧ W.cell? ⟨n + 1, 2, none⟩ = some (.int .i64 (S b.sl)) ∧ W.cell? ⟨n + 1, 3, none⟩ = some (.int .i64 (S b.sh)) ∧ W.cell? ⟨n + 1, 4, none⟩ = some (.int .u64 (U b.t.v)) ∧ W.cell? ⟨n + 1, 5, none⟩ = some (.int .u64 (U b.t.m))) ∧ n + 1 < W.heap.size) ∧ (W.cell? ⟨k, 0, none⟩ = some (.int .u64 (U c.ul)) ∧ W.cell? ⟨k, 1, none⟩ = some (.int .u64 (U c.uh)) ∧ W.cell? ⟨k, 2, none⟩ = some (.int .i64 (S c.sl)) ∧ W.cell? ⟨k, 3, none⟩ = some (.int .i64 (S c.sh)) ∧ W.cell? ⟨k, 4, none⟩ = some (.int .u64 (U c.t.v)) ∧ W.cell? ⟨k, 5, none⟩ = some (.int .u64 (U c.t.m))) ∧ k < W.heap.size := ⟨h.ab.facts, h.three.six.1, h.three.lt⟩
theorem A3.new {n : Nat} {a b : Bd} {w W : World} (h : AB n a b w W) (c : Bd) (t : TypeId) : A3 n W.heap.size a b c w (W.alloc (.cells #[.int .u64 (U c.ul), .int .u64 (U c.uh), .int .i64 (S c.sl), .int .i64 (S c.sh), .int .u64 (U c.t.v), .int .u64 (U c.t.m)] t)) :=
  ⟨h.next b1, Box.new W (bv c) t rfl⟩
structure A4 (n k l : Nat) (a b c d : Bd) (w W : World) : Prop where
  abc : A3 n k a b c w W
  four : Box W l (bv d)
theorem A4.low {n k l : Nat} {a b c d : Bd} {w W : World} (h : A4 n k l a b c d w W) : Below n w W := h.abc.ab.low
theorem A4.next {n k l : Nat} {a b c d : Bd} {w W W' : World} (h : A4 n k l a b c d w W) (hb : Below W.heap.size W W') : A4 n k l a b c d w W' := ⟨h.abc.next hb, h.four.next hb⟩
theorem A4.drew {n k l : Nat} {a b c d : Bd} {w W : World} (h : A4 n k l a b c d w W) : A4 n k l a b c d w W.drew := h.next (Below.refl _ _).drew
theorem A4.facts {n k l : Nat} {a b c d : Bd} {w W : World} (h : A4 n k l a b c d w W) : (((W.cell? ⟨n, 0, none⟩ = some (.int .u64 (U a.ul)) ∧ W.cell? ⟨n, 1, none⟩ = some (.int .u64 (U a.uh)) ∧ W.cell? ⟨n, 2, none⟩ = some (.int .i64 (S a.sl)) ∧ W.cell? ⟨n, 3, none⟩ = some (.int .i64 (S a.sh)) ∧ W.cell? ⟨n, 4, none⟩ = some (.int .u64 (U a.t.v)) ∧ W.cell? ⟨n, 5, none⟩ = some (.int .u64 (U a.t.m))) ∧ (W.cell? ⟨n + 1, 0, none⟩ = some (.int .u64 (U b.ul)) ∧ W.cell? ⟨n + 1, 1, none⟩ = some (.int .u64 (U b.uh)) ∧ W.cell? ⟨n + 1, 2, none⟩ = some (.int .i64 (S b.sl)) ∧ W.cell? ⟨n + 1, 3, none⟩ = some (.int .i64 (S b.sh)) ∧ W.cell? ⟨n + 1, 4, none⟩ = some (.int .u64 (U b.t.v)) ∧ W.cell? ⟨n + 1, 5, none⟩ = some (.int .u64 (U b.t.m))) ∧ n + 1 < W.heap.size) ∧ (W.cell? ⟨k, 0, none⟩ = some (.int .u64 (U c.ul)) ∧ W.cell? ⟨k, 1, none⟩ = some (.int .u64 (U c.uh)) ∧ W.cell? ⟨k, 2, none⟩ = some (.int .i64 (S c.sl)) ∧ W.cell? ⟨k, 3, none⟩ = some (.int .i64 (S c.sh)) ∧ W.cell? ⟨k, 4, none⟩ = some (.int .u64 (U c.t.v)) ∧ W.cell? ⟨k, 5, none⟩ = some (.int .u64 (U c.t.m))) ∧ k < W.heap.size) ∧ (W.cell? ⟨l, 0, none⟩ = some (.int .u64 (U d.ul)) ∧ W.cell? ⟨l, 1, none⟩ = some (.int .u64 (U d.uh)) ∧ W.cell? ⟨l, 2, none⟩ = some (.int .i64 (S d.sl)) ∧ W.cell? ⟨l, 3, none⟩ = some (.int .i64 (S d.sh)) ∧ W.cell? ⟨l, 4, none⟩ = some (.int .u64 (U d.t.v)) ∧ W.cell? ⟨l, 5, none⟩ = some (.int .u64 (U d.t.m))) ∧ l < W.heap.size := ⟨h.abc.facts, h.four.six.1, h.four.lt⟩
theorem A4.new {n k : Nat} {a b c : Bd} {w W : World} (h : A3 n k a b c w W) (d : Bd) (t : TypeId) : A4 n k W.heap.size a b c d w (W.alloc (.cells #[.int .u64 (U d.ul), .int .u64 (U d.uh), .int .i64 (S d.sl), .int .i64 (S d.sh), .int .u64 (U d.t.v), .int .u64 (U d.t.m)] t)) :=
  ⟨h.next b1, Box.new W (bv d) t rfl⟩
/-- what the law asks, of Bools -/
theorem meets_none {a b : Bd} {x : B} (ha : bcheck a = true) (hb : bcheck b = true) (h : bmeet a b = none) (h1 : bin a x = true) : bin b x = false := by
  cases h2 : bin b x with
  | false => rfl
  | true =>
    obtain ⟨m, hm, _⟩ := (bmeet_in ha hb).1 ⟨h1, h2⟩
    rw [h] at hm; cases hm
theorem meets_some {a b m : Bd} {x : B} (ha : bcheck a = true) (hb : bcheck b = true) (h : bmeet a b = some m) : bin m x = (bin a x && bin b x) := by
  rw [Bool.eq_iff_iff, Bool.and_eq_true]
  constructor
  · intro hm; exact (bmeet_in ha hb).2 ⟨m, h, hm⟩
  · intro hab
    obtain ⟨m', hm, hx⟩ := (bmeet_in ha hb).1 hab
    rw [h] at hm; cases hm; exact hx
theorem ways_none {a b : Bd} {x : B} (ha : bcheck a = true) (hb : bcheck b = true) (h : bmeet a b = none) :
    (bin a x = true ∧ bin b x = false ∧ bin (bjoin a b) x = true) ∨ (bin a x = false ∧ bin b x = true ∧ bin (bjoin a b) x = true) ∨ bin a x = false ∧ bin b x = false := by
  cases h1 : bin a x with
  | true => exact .inl ⟨rfl, meets_none ha hb h h1, bjoin_in (.inl h1)⟩
  | false => cases h2 : bin b x with
    | true => exact .inr (.inl ⟨rfl, rfl, bjoin_in (.inr h2)⟩)
    | false => exact .inr (.inr ⟨rfl, rfl⟩)
theorem ways_some {a b m : Bd} {x : B} (ha : bcheck a = true) (hb : bcheck b = true) (h : bmeet a b = some m) :
    (bin a x = true ∧ bin b x = true ∧ bin m x = true ∧ bin (bjoin a b) x = true) ∨ (bin a x = true ∧ bin b x = false ∧ bin m x = false ∧ bin (bjoin a b) x = true) ∨ (bin a x = false ∧ bin b x = true ∧ bin m x = false ∧ bin (bjoin a b) x = true) ∨ bin a x = false ∧ bin b x = false ∧ bin m x = false := by
  have hm := meets_some (x := x) ha hb h
  cases h1 : bin a x with
  | true => cases h2 : bin b x with
    | true => exact .inl ⟨rfl, rfl, by rw [hm, h1, h2]; rfl, bjoin_in (.inl h1)⟩
    | false => exact .inr (.inl ⟨rfl, rfl, by rw [hm, h1, h2]; rfl, bjoin_in (.inl h1)⟩)
  | false => cases h2 : bin b x with
    | true => exact .inr (.inr (.inl ⟨rfl, rfl, by rw [hm, h1, h2]; rfl, bjoin_in (.inr h2)⟩))
    | false => exact .inr (.inr (.inr ⟨rfl, rfl, by rw [hm, h1, h2]; rfl⟩))
set_option maxRecDepth 100000 in
set_option maxHeartbeats 4000000 in
theorem meets_law (a b : Bd) (x : B) (w : World) : Calls Try.prog 7 #[.agg #[.int .u64 (U a.ul), .int .u64 (U a.uh), .int .i64 (S a.sl), .int .i64 (S a.sh), .int .u64 (U a.t.v), .int .u64 (U a.t.m)], .agg #[.int .u64 (U b.ul), .int .u64 (U b.uh), .int .i64 (S b.sl), .int .i64 (S b.sh), .int .u64 (U b.t.v), .int .u64 (U b.t.m)], .int .u64 (U x)] w fun e w' => e = .returned (.bool true) ∧ Below w.heap.size w w' := by
  have HN := Lib.hid (AB.new w a b 26 26)
  have F := HN.out.facts
  cases hca : bcheck a
  case' true => cases hcb : bcheck b
  case' true.true =>
    have HM := Lib.hid (fun W => bmeet_any a b W)
    have HJ := Lib.hid (fun W => bjoin_any a b W)
    have hw := bjoin_within hca hcb
    have HZ := Lib.hid (fun (h : bmeet a b = none) => ways_none (x := x) hca hcb h)
    have HS := Lib.hid (fun m (h : bmeet a b = some m) => ways_some (x := x) hca hcb h)
    generalize bjoin a b = j at *
    have hw1 := hw.1
    have hw2 := hw.2
    clear hw
    cases ho : bmeet a b with
    | none =>
      have hz := HZ.out ho
      rw [ho] at HM
      simp only [tidyV] at HM
      clear ho HZ HS
      rcases hz with ⟨ha, hbx, hj⟩ | ⟨ha, hbx, hj⟩ | ⟨ha, hbx⟩
      all_goals
        go_enter Try.func7, Try.ntmps7
        go_wp2_with (first
          | (go_at_call 19; (with_reducible refine (bcheck_any _ _).mono ?_); rintro e w1 ⟨rfl, hb⟩; have H' := Lib.hid (HN.out.next hb); clear hb HN F; have HN := H'; clear H'; have F := HN.out.facts)
          | (go_at_call 27; (with_reducible refine (HM.out _).mono ?_); rintro e w1 ⟨rfl, hb⟩; have H' := Lib.hid (A3.new (HN.out.next hb) bzero 26); clear hb HN F; have HN := H'; clear H'; have F := HN.out.facts))
        go_region_held3 (fun W => ((W.cell? ⟨w.heap.size, 0, none⟩ = some (.int .u64 (U a.ul)) ∧ W.cell? ⟨w.heap.size, 1, none⟩ = some (.int .u64 (U a.uh)) ∧ W.cell? ⟨w.heap.size, 2, none⟩ = some (.int .i64 (S a.sl)) ∧ W.cell? ⟨w.heap.size, 3, none⟩ = some (.int .i64 (S a.sh)) ∧ W.cell? ⟨w.heap.size, 4, none⟩ = some (.int .u64 (U a.t.v)) ∧ W.cell? ⟨w.heap.size, 5, none⟩ = some (.int .u64 (U a.t.m))) ∧ (W.cell? ⟨w.heap.size + 1, 0, none⟩ = some (.int .u64 (U b.ul)) ∧ W.cell? ⟨w.heap.size + 1, 1, none⟩ = some (.int .u64 (U b.uh)) ∧ W.cell? ⟨w.heap.size + 1, 2, none⟩ = some (.int .i64 (S b.sl)) ∧ W.cell? ⟨w.heap.size + 1, 3, none⟩ = some (.int .i64 (S b.sh)) ∧ W.cell? ⟨w.heap.size + 1, 4, none⟩ = some (.int .u64 (U b.t.v)) ∧ W.cell? ⟨w.heap.size + 1, 5, none⟩ = some (.int .u64 (U b.t.m))) ∧ w.heap.size + 1 < W.heap.size) ∧ (W.cell? ⟨w1.heap.size, 0, none⟩ = some (.int .u64 (U bzero.ul)) ∧ W.cell? ⟨w1.heap.size, 1, none⟩ = some (.int .u64 (U bzero.uh)) ∧ W.cell? ⟨w1.heap.size, 2, none⟩ = some (.int .i64 (S bzero.sl)) ∧ W.cell? ⟨w1.heap.size, 3, none⟩ = some (.int .i64 (S bzero.sh)) ∧ W.cell? ⟨w1.heap.size, 4, none⟩ = some (.int .u64 (U bzero.t.v)) ∧ W.cell? ⟨w1.heap.size, 5, none⟩ = some (.int .u64 (U bzero.t.m))) ∧ w1.heap.size < W.heap.size)
          (first | with_reducible exact F | with_reducible exact HN.out.drew.facts)
          (first | (go_at_call 14; (with_reducible refine (bin_any _ _ _).mono ?_); rintro e w1 ⟨rfl, hb⟩; (first | have H' := Lib.hid (HN.out.next hb) | have H' := Lib.hid (HN.out.drew.next hb)); clear hb HN F; have HN := H'; clear H'; have F := HN.out.facts))
        all_goals
          go_wp2_with (first
            | (go_at_call 14; (with_reducible refine (bin_any _ _ _).mono ?_); rintro e w1 ⟨rfl, hb⟩; have H' := Lib.hid (HN.out.next hb); clear hb HN F; have HN := H'; clear H'; have F := HN.out.facts)
            | (go_at_call 16; (with_reducible refine (HJ.out _).mono ?_); rintro e w2 ⟨rfl, hb⟩; have H' := Lib.hid (A4.new (HN.out.next hb) j 26); clear hb HN F; have HN := H'; clear H'; have F := HN.out.facts)
            | (go_at_call 15; (with_reducible refine (bwithin_any _ _ _).mono ?_); rintro e w1 ⟨rfl, hb⟩; have H' := Lib.hid (HN.out.next hb); clear hb HN F; have HN := H'; clear H'; have F := HN.out.facts)
            | (go_at_call 17; (with_reducible refine (heads_any _).mono ?_); rintro e w1 ⟨rfl, hb⟩; have H' := Lib.hid (HN.out.next hb); clear hb HN F; have HN := H'; clear H'; have F := HN.out.facts))
          go_ret
          exact ⟨rfl, HN.out.low⟩
    | some m =>
      have hz := HS.out m ho
      rw [ho] at HM
      simp only [tidyV] at HM
      clear ho HZ HS
      rcases hz with ⟨ha, hbx, hm, hj⟩ | ⟨ha, hbx, hm, hj⟩ | ⟨ha, hbx, hm, hj⟩ | ⟨ha, hbx, hm⟩
      all_goals
        go_enter Try.func7, Try.ntmps7
        go_wp2_with (first
          | (go_at_call 19; (with_reducible refine (bcheck_any _ _).mono ?_); rintro e w1 ⟨rfl, hb⟩; have H' := Lib.hid (HN.out.next hb); clear hb HN F; have HN := H'; clear H'; have F := HN.out.facts)
          | (go_at_call 27; (with_reducible refine (HM.out _).mono ?_); rintro e w1 ⟨rfl, hb⟩; have H' := Lib.hid (A3.new (HN.out.next hb) m 26); clear hb HN F; have HN := H'; clear H'; have F := HN.out.facts))
        go_region_held3 (fun W => ((W.cell? ⟨w.heap.size, 0, none⟩ = some (.int .u64 (U a.ul)) ∧ W.cell? ⟨w.heap.size, 1, none⟩ = some (.int .u64 (U a.uh)) ∧ W.cell? ⟨w.heap.size, 2, none⟩ = some (.int .i64 (S a.sl)) ∧ W.cell? ⟨w.heap.size, 3, none⟩ = some (.int .i64 (S a.sh)) ∧ W.cell? ⟨w.heap.size, 4, none⟩ = some (.int .u64 (U a.t.v)) ∧ W.cell? ⟨w.heap.size, 5, none⟩ = some (.int .u64 (U a.t.m))) ∧ (W.cell? ⟨w.heap.size + 1, 0, none⟩ = some (.int .u64 (U b.ul)) ∧ W.cell? ⟨w.heap.size + 1, 1, none⟩ = some (.int .u64 (U b.uh)) ∧ W.cell? ⟨w.heap.size + 1, 2, none⟩ = some (.int .i64 (S b.sl)) ∧ W.cell? ⟨w.heap.size + 1, 3, none⟩ = some (.int .i64 (S b.sh)) ∧ W.cell? ⟨w.heap.size + 1, 4, none⟩ = some (.int .u64 (U b.t.v)) ∧ W.cell? ⟨w.heap.size + 1, 5, none⟩ = some (.int .u64 (U b.t.m))) ∧ w.heap.size + 1 < W.heap.size) ∧ (W.cell? ⟨w1.heap.size, 0, none⟩ = some (.int .u64 (U m.ul)) ∧ W.cell? ⟨w1.heap.size, 1, none⟩ = some (.int .u64 (U m.uh)) ∧ W.cell? ⟨w1.heap.size, 2, none⟩ = some (.int .i64 (S m.sl)) ∧ W.cell? ⟨w1.heap.size, 3, none⟩ = some (.int .i64 (S m.sh)) ∧ W.cell? ⟨w1.heap.size, 4, none⟩ = some (.int .u64 (U m.t.v)) ∧ W.cell? ⟨w1.heap.size, 5, none⟩ = some (.int .u64 (U m.t.m))) ∧ w1.heap.size < W.heap.size)
          (first | with_reducible exact F | with_reducible exact HN.out.drew.facts)
          (first | (go_at_call 14; (with_reducible refine (bin_any _ _ _).mono ?_); rintro e w1 ⟨rfl, hb⟩; (first | have H' := Lib.hid (HN.out.next hb) | have H' := Lib.hid (HN.out.drew.next hb)); clear hb HN F; have HN := H'; clear H'; have F := HN.out.facts))
        all_goals
          go_wp2_with (first
            | (go_at_call 14; (with_reducible refine (bin_any _ _ _).mono ?_); rintro e w1 ⟨rfl, hb⟩; have H' := Lib.hid (HN.out.next hb); clear hb HN F; have HN := H'; clear H'; have F := HN.out.facts)
            | (go_at_call 16; (with_reducible refine (HJ.out _).mono ?_); rintro e w2 ⟨rfl, hb⟩; have H' := Lib.hid (A4.new (HN.out.next hb) j 26); clear hb HN F; have HN := H'; clear H'; have F := HN.out.facts)
            | (go_at_call 15; (with_reducible refine (bwithin_any _ _ _).mono ?_); rintro e w1 ⟨rfl, hb⟩; have H' := Lib.hid (HN.out.next hb); clear hb HN F; have HN := H'; clear H'; have F := HN.out.facts)
            | (go_at_call 17; (with_reducible refine (heads_any _).mono ?_); rintro e w1 ⟨rfl, hb⟩; have H' := Lib.hid (HN.out.next hb); clear hb HN F; have HN := H'; clear H'; have F := HN.out.facts))
          go_ret
          exact ⟨rfl, HN.out.low⟩
  all_goals
    go_enter Try.func7, Try.ntmps7
    go_wp2_with (first
      | (go_at_call 19; (with_reducible refine (bcheck_any _ _).mono ?_); rintro e w1 ⟨rfl, hb⟩; have H' := Lib.hid (HN.out.next hb); clear hb HN F; have HN := H'; clear H'; have F := HN.out.facts)
      | (go_at_call 17; (with_reducible refine (heads_any _).mono ?_); rintro e w1 ⟨rfl, hb⟩; have H' := Lib.hid (HN.out.next hb); clear hb HN F; have HN := H'; clear H'; have F := HN.out.facts))
    go_ret
    exact ⟨rfl, HN.out.low⟩
end Go.Proofs.Ytaolcmmdefchmaa
