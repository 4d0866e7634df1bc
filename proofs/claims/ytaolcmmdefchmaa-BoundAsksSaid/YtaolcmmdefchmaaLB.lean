/- Bounds: the laws on what is within, on what is cut. -/
import Derived.Test.YtaolcmmdefchmaaLA
namespace Go.Proofs.Ytaolcmmdefchmaa
open Go.RowKit
attribute [local go_sem] b_and b_or b_xor b_andNot b_low b_top b_most b_signed b_unsigned b_zero b_eq s_eq b_nzero b_neq s_neq b_max b_min s_max s_min
attribute [local go_sem ↓] Go.wp_at_zero Go.wp_at_succ

/-- two bounds boxed, all else as it was -/
structure AB (n : Nat) (a b : Bd) (w W : World) : Prop where
  low : Below n w W
  one : Box W n (bv a)
  two : Box W (n + 1) (bv b)
theorem AB.next {n : Nat} {a b : Bd} {w W W' : World} (h : AB n a b w W) (hb : Below W.heap.size W W') : AB n a b w W' :=
  ⟨h.low.trans (hb.mono (Nat.le_of_lt h.one.lt)), h.one.next hb, h.two.next hb⟩
theorem AB.facts {n : Nat} {a b : Bd} {w W : World} (h : AB n a b w W) : (W.cell? ⟨n, 0, none⟩ = some (.int .u64 (U a.ul)) ∧ W.cell? ⟨n, 1, none⟩ = some (.int .u64 (U a.uh)) ∧ W.cell? ⟨n, 2, none⟩ = some (.int .i64 (S a.sl)) ∧ W.cell? ⟨n, 3, none⟩ = some (.int .i64 (S a.sh)) ∧ W.cell? ⟨n, 4, none⟩ = some (.int .u64 (U a.t.v)) ∧ W.cell? ⟨n, 5, none⟩ = some (.int .u64 (U a.t.m))) ∧ (W.cell? ⟨n + 1, 0, none⟩ = some (.int .u64 (U b.ul)) ∧ W.cell? ⟨n + 1, 1, none⟩ = some (.int .u64 (U b.uh)) ∧ W.cell? ⟨n + 1, 2, none⟩ = some (.int .i64 (S b.sl)) ∧ W.cell? ⟨n + 1, 3, none⟩ = some (.int .i64 (S b.sh)) ∧ W.cell? ⟨n + 1, 4, none⟩ = some (.int .u64 (U b.t.v)) ∧ W.cell? ⟨n + 1, 5, none⟩ = some (.int .u64 (U b.t.m))) ∧ n + 1 < W.heap.size := ⟨h.one.six.1, h.two.six.1, h.two.lt⟩
theorem AB.new (w : World) (a b : Bd) (t t' : TypeId) : AB w.heap.size a b w ((w.alloc (.cells #[.int .u64 (U a.ul), .int .u64 (U a.uh), .int .i64 (S a.sl), .int .i64 (S a.sh), .int .u64 (U a.t.v), .int .u64 (U a.t.m)] t)).alloc (.cells #[.int .u64 (U b.ul), .int .u64 (U b.uh), .int .i64 (S b.sl), .int .i64 (S b.sh), .int .u64 (U b.t.v), .int .u64 (U b.t.m)] t')) :=
  ⟨b2, (Box.new w (bv a) t rfl).alloc _, Box.new _ (bv b) t' (by simp)⟩
/-- one bound boxed, all else as it was -/
structure A1 (n : Nat) (a : Bd) (w W : World) : Prop where
  low : Below n w W
  one : Box W n (bv a)
theorem A1.next {n : Nat} {a : Bd} {w W W' : World} (h : A1 n a w W) (hb : Below W.heap.size W W') : A1 n a w W' :=
  ⟨h.low.trans (hb.mono (Nat.le_of_lt h.one.lt)), h.one.next hb⟩
theorem A1.facts {n : Nat} {a : Bd} {w W : World} (h : A1 n a w W) : (W.cell? ⟨n, 0, none⟩ = some (.int .u64 (U a.ul)) ∧ W.cell? ⟨n, 1, none⟩ = some (.int .u64 (U a.uh)) ∧ W.cell? ⟨n, 2, none⟩ = some (.int .i64 (S a.sl)) ∧ W.cell? ⟨n, 3, none⟩ = some (.int .i64 (S a.sh)) ∧ W.cell? ⟨n, 4, none⟩ = some (.int .u64 (U a.t.v)) ∧ W.cell? ⟨n, 5, none⟩ = some (.int .u64 (U a.t.m))) ∧ n < W.heap.size := ⟨h.one.six.1, h.one.lt⟩
theorem A1.new (w : World) (a : Bd) (t : TypeId) : A1 w.heap.size a w (w.alloc (.cells #[.int .u64 (U a.ul), .int .u64 (U a.uh), .int .i64 (S a.sl), .int .i64 (S a.sh), .int .u64 (U a.t.v), .int .u64 (U a.t.m)] t)) := ⟨b1, Box.new w (bv a) t rfl⟩
set_option maxRecDepth 100000 in
set_option maxHeartbeats 2000000 in
theorem holds_law (a b : Bd) (x : B) (w : World) : Calls Try.prog 9 #[.agg #[.int .u64 (U a.ul), .int .u64 (U a.uh), .int .i64 (S a.sl), .int .i64 (S a.sh), .int .u64 (U a.t.v), .int .u64 (U a.t.m)], .agg #[.int .u64 (U b.ul), .int .u64 (U b.uh), .int .i64 (S b.sl), .int .i64 (S b.sh), .int .u64 (U b.t.v), .int .u64 (U b.t.m)], .int .u64 (U x)] w fun e w' => e = .returned (.bool true) ∧ Below w.heap.size w w' := by
  have HN := Lib.hid (AB.new w a b 26 26)
  have F := HN.out.facts
  have HI := Lib.hid (fun (h1 : bwithin a b = true) (h2 : bin b x = true) => bwithin_in h1 h2)
  cases hca : bcheck a
  case' true => cases hcb : bcheck b
  case' true.true => cases hw : bwithin a b
  case' true.true.true => cases hx : bin b x
  case' true.true.true.true => have hy := HI.out hw hx
  all_goals
    clear HI
    go_enter Try.func9, Try.ntmps9
    go_wp2_with (first
      | (go_at_call 19; (with_reducible refine (bcheck_any _ _).mono ?_); rintro e w1 ⟨rfl, hb⟩; have H' := Lib.hid (HN.out.next hb); clear hb HN F; have HN := H'; clear H'; have F := HN.out.facts)
      | (go_at_call 15; (with_reducible refine (bwithin_any _ _ _).mono ?_); rintro e w1 ⟨rfl, hb⟩; have H' := Lib.hid (HN.out.next hb); clear hb HN F; have HN := H'; clear H'; have F := HN.out.facts)
      | (go_at_call 14; (with_reducible refine (bin_any _ _ _).mono ?_); rintro e w1 ⟨rfl, hb⟩; have H' := Lib.hid (HN.out.next hb); clear hb HN F; have HN := H'; clear H'; have F := HN.out.facts)
      | (go_at_call 17; (with_reducible refine (heads_any _).mono ?_); rintro e w1 ⟨rfl, hb⟩; have H' := Lib.hid (HN.out.next hb); clear hb HN F; have HN := H'; clear H'))
    go_ret
    exact ⟨rfl, HN.out.low⟩
end Go.Proofs.Ytaolcmmdefchmaa
