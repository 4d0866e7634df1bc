/- Bounds: the law on tidying; the law on what is cut. -/
import Derived.Test.YtaolcmmdefchmaaLB
namespace Go.Proofs.Ytaolcmmdefchmaa
open Go.RowKit
attribute [local go_sem] b_and b_or b_xor b_andNot b_low b_top b_most b_signed b_unsigned b_zero b_eq s_eq b_nzero b_neq s_neq b_max b_min s_max s_min
attribute [local go_sem ↓] Go.wp_at_zero Go.wp_at_succ

/-- two bounds boxed somewhere, all else as it was -/
structure A2 (n m : Nat) (a b : Bd) (w W : World) : Prop where
  low : Below n w W
  one : Box W n (bv a)
  two : Box W m (bv b)
theorem A2.next {n m : Nat} {a b : Bd} {w W W' : World} (h : A2 n m a b w W) (hb : Below W.heap.size W W') : A2 n m a b w W' :=
  ⟨h.low.trans (hb.mono (Nat.le_of_lt h.one.lt)), h.one.next hb, h.two.next hb⟩
theorem A2.facts {n m : Nat} {a b : Bd} {w W : World} (h : A2 n m a b w W) : (W.cell? ⟨n, 0, none⟩ = some (.int .u64 (U a.ul)) ∧ W.cell? ⟨n, 1, none⟩ = some (.int .u64 (U a.uh)) ∧ W.cell? ⟨n, 2, none⟩ = some (.int .i64 (S a.sl)) ∧ W.cell? ⟨n, 3, none⟩ = some (.int .i64 (S a.sh)) ∧ W.cell? ⟨n, 4, none⟩ = some (.int .u64 (U a.t.v)) ∧ W.cell? ⟨n, 5, none⟩ = some (.int .u64 (U a.t.m))) ∧ (W.cell? ⟨m, 0, none⟩ = some (.int .u64 (U b.ul)) ∧ W.cell? ⟨m, 1, none⟩ = some (.int .u64 (U b.uh)) ∧ W.cell? ⟨m, 2, none⟩ = some (.int .i64 (S b.sl)) ∧ W.cell? ⟨m, 3, none⟩ = some (.int .i64 (S b.sh)) ∧ W.cell? ⟨m, 4, none⟩ = some (.int .u64 (U b.t.v)) ∧ W.cell? ⟨m, 5, none⟩ = some (.int .u64 (U b.t.m))) := ⟨h.one.six.1, h.two.six.1⟩
theorem A2.sizes {n m : Nat} {a b : Bd} {w W : World} (h : A2 n m a b w W) : n < W.heap.size ∧ m < W.heap.size := ⟨h.one.lt, h.two.lt⟩
theorem A2.new {n : Nat} {a : Bd} {w W : World} (h : A1 n a w W) (c : Bd) (t : TypeId) : A2 n W.heap.size a c w (W.alloc (.cells #[.int .u64 (U c.ul), .int .u64 (U c.uh), .int .i64 (S c.sl), .int .i64 (S c.sh), .int .u64 (U c.t.v), .int .u64 (U c.t.m)] t)) :=
  ⟨h.low.alloc (Nat.le_of_lt h.one.lt) _, h.one.alloc _, Box.new W (bv c) t rfl⟩
theorem A2.drew {n m : Nat} {a b : Bd} {w W : World} (h : A2 n m a b w W) : A2 n m a b w W.drew := h.next (Below.refl _ _).drew
set_option maxRecDepth 100000 in
set_option maxHeartbeats 2000000 in
theorem tidies_law (a : Bd) (x : B) (w : World) : Calls Try.prog 6 #[.agg #[.int .u64 (U a.ul), .int .u64 (U a.uh), .int .i64 (S a.sl), .int .i64 (S a.sh), .int .u64 (U a.t.v), .int .u64 (U a.t.m)], .int .u64 (U x)] w fun e w' => e = .returned (.bool true) ∧ Below w.heap.size w w' := by
  have HN := Lib.hid (A1.new w a 26)
  have F := HN.out.facts
  cases hca : bcheck a with
  | false =>
    go_enter Try.func6, Try.ntmps6
    go_wp2_with (first
      | (go_at_call 19; (with_reducible refine (bcheck_any _ _).mono ?_); rintro e w1 ⟨rfl, hb⟩; have H' := Lib.hid (HN.out.next hb); clear hb HN F; have HN := H'; clear H'; have F := HN.out.facts)
      | (go_at_call 17; (with_reducible refine (heads_any _).mono ?_); rintro e w1 ⟨rfl, hb⟩; have H' := Lib.hid (HN.out.next hb); clear hb HN F; have HN := H'; clear H'))
    go_ret
    exact ⟨rfl, HN.out.low⟩
  | true =>
    have HT := Lib.hid (fun W => btidy_any a W)
    have ht := (bcheck_iff.1 hca).2
    cases ho : tidy a with
    | none =>
      have hx := tidy_none ht ho x
      rw [ho] at HT
      simp only [tidyV] at HT
      clear ho ht
      go_enter Try.func6, Try.ntmps6
      go_wp2_with (first
        | (go_at_call 19; (with_reducible refine (bcheck_any _ _).mono ?_); rintro e w1 ⟨rfl, hb⟩; have H' := Lib.hid (HN.out.next hb); clear hb HN F; have HN := H'; clear H'; have F := HN.out.facts)
        | (go_at_call 12; (with_reducible refine (HT.out _).mono ?_); rintro e w1 ⟨rfl, hb⟩; have H' := Lib.hid (A2.new (HN.out.next hb) bzero 26); clear hb HN F; have HN := H'; clear H'; have F := HN.out.facts.1)
        | (go_at_call 14; (with_reducible refine (bin_any _ _ _).mono ?_); rintro e w1 ⟨rfl, hb⟩; have H' := Lib.hid (HN.out.next hb); clear hb HN F; have HN := H'; clear H'; have F := HN.out.facts)
        | (go_at_call 17; (with_reducible refine (heads_any _).mono ?_); rintro e w1 ⟨rfl, hb⟩; have H' := Lib.hid (HN.out.next hb); clear hb HN F; have HN := H'; clear H'))
      go_ret
      exact ⟨rfl, HN.out.low⟩
    | some c =>
      obtain ⟨hcc, hin⟩ := tidy_some ht ho
      have hy := hin x
      rw [ho] at HT
      simp only [tidyV] at HT
      clear ho ht hin
      cases hx : bin a x
      all_goals
        rw [hx] at hy
        go_enter Try.func6, Try.ntmps6
        go_wp2_with (first
          | (go_at_call 19; (with_reducible refine (bcheck_any _ _).mono ?_); rintro e w1 ⟨rfl, hb⟩; have H' := Lib.hid (HN.out.next hb); clear hb HN F; have HN := H'; clear H'; have F := HN.out.facts)
          | (go_at_call 12; (with_reducible refine (HT.out _).mono ?_); rintro e w1 ⟨rfl, hb⟩; have H' := Lib.hid (A2.new (HN.out.next hb) c 26); clear hb HN F; have HN := H'; clear H'; have F := HN.out.facts; have hz := HN.out.sizes))
        go_region_held3 (fun W => (W.cell? ⟨w.heap.size, 0, none⟩ = some (.int .u64 (U a.ul)) ∧ W.cell? ⟨w.heap.size, 1, none⟩ = some (.int .u64 (U a.uh)) ∧ W.cell? ⟨w.heap.size, 2, none⟩ = some (.int .i64 (S a.sl)) ∧ W.cell? ⟨w.heap.size, 3, none⟩ = some (.int .i64 (S a.sh)) ∧ W.cell? ⟨w.heap.size, 4, none⟩ = some (.int .u64 (U a.t.v)) ∧ W.cell? ⟨w.heap.size, 5, none⟩ = some (.int .u64 (U a.t.m))) ∧ (W.cell? ⟨w1.heap.size, 0, none⟩ = some (.int .u64 (U c.ul)) ∧ W.cell? ⟨w1.heap.size, 1, none⟩ = some (.int .u64 (U c.uh)) ∧ W.cell? ⟨w1.heap.size, 2, none⟩ = some (.int .i64 (S c.sl)) ∧ W.cell? ⟨w1.heap.size, 3, none⟩ = some (.int .i64 (S c.sh)) ∧ W.cell? ⟨w1.heap.size, 4, none⟩ = some (.int .u64 (U c.t.v)) ∧ W.cell? ⟨w1.heap.size, 5, none⟩ = some (.int .u64 (U c.t.m))))
          (first | with_reducible exact F | with_reducible exact HN.out.drew.facts)
          (first
          | (go_at_call 14; (with_reducible refine (bin_any _ _ _).mono ?_); rintro e w2 ⟨rfl, hb⟩; (first | have H' := Lib.hid (HN.out.next hb) | have H' := Lib.hid (HN.out.drew.next hb)); clear hb HN F; have HN := H'; clear H'; have F := HN.out.facts)
          | (go_at_call 19; (with_reducible refine (bcheck_any _ _).mono ?_); rintro e w2 ⟨rfl, hb⟩; (first | have H' := Lib.hid (HN.out.next hb) | have H' := Lib.hid (HN.out.drew.next hb)); clear hb HN F; have HN := H'; clear H'; have F := HN.out.facts)
          | (go_at_call 17; (with_reducible refine (heads_any _).mono ?_); rintro e w2 ⟨rfl, hb⟩; (first | have H' := Lib.hid (HN.out.next hb) | have H' := Lib.hid (HN.out.drew.next hb)); clear hb HN F; have HN := H'; clear H'; have F := HN.out.facts))
        all_goals
          go_wp2
          go_ret
          exact ⟨rfl, HN.out.low⟩
end Go.Proofs.Ytaolcmmdefchmaa
