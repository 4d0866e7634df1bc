/- Bounds: the laws on what is cut, on meets and joins. -/
import Derived.Test.YtaolcmmdefchmaaLC
namespace Go.Proofs.Ytaolcmmdefchmaa
open Go.RowKit
attribute [local go_sem] b_and b_or b_xor b_andNot b_low b_top b_most b_signed b_unsigned b_zero b_eq s_eq b_nzero b_neq s_neq b_max b_min s_max s_min
attribute [local go_sem ↓] Go.wp_at_zero Go.wp_at_succ

theorem A1.drew {n : Nat} {a : Bd} {w W : World} (h : A1 n a w W) : A1 n a w W.drew := h.next (Below.refl _ _).drew
theorem low_U {b : Bd} (h : b.uh.toNat ≤ 4294967295) : U b.uh ≤ 4294967295 := by unfold U; omega
set_option maxRecDepth 100000 in
set_option maxHeartbeats 2000000 in
theorem lows_law (a : Bd) (x : B) (w : World) : Calls Try.prog 8 #[.agg #[.int .u64 (U a.ul), .int .u64 (U a.uh), .int .i64 (S a.sl), .int .i64 (S a.sh), .int .u64 (U a.t.v), .int .u64 (U a.t.m)], .int .u64 (U x)] w fun e w' => e = .returned (.bool true) ∧ Below w.heap.size w w' := by
  have HN := Lib.hid (A1.new w a 26)
  have F := HN.out.facts
  have HW := Lib.hid (fun (h1 : bcheck a = true) (h2 : bin a x = true) => blow_in h1 h2)
  have HL := Lib.hid (fun W => blow_any a W)
  generalize blow a = l at *
  cases hca : bcheck a
  case' true => cases hx : bin a x
  case' true.true =>
    have h1 := (HW.out hca hx).1
    have h2 := low_U (HW.out hca hx).2
  all_goals
    clear HW
    go_enter Try.func8, Try.ntmps8
    go_wp2_with (first
      | (go_at_call 19; (with_reducible refine (bcheck_any _ _).mono ?_); rintro e w1 ⟨rfl, hb⟩; have H' := Lib.hid (HN.out.next hb); clear hb HN F; have HN := H'; clear H'; have F := HN.out.facts)
      | (go_at_call 30; (with_reducible refine (HL.out _).mono ?_); rintro e w1 ⟨rfl, hb⟩; have H' := Lib.hid (A2.new (HN.out.next hb) l 26); clear hb HN F; have HN := H'; clear H'; have F := HN.out.facts)
      | (go_at_call 14; (with_reducible refine (bin_any _ _ _).mono ?_); rintro e w1 ⟨rfl, hb⟩; have H' := Lib.hid (HN.out.next hb); clear hb HN F; have HN := H'; clear H'; have F := HN.out.facts)
      | (go_at_call 17; (with_reducible refine (heads_any _).mono ?_); rintro e w1 ⟨rfl, hb⟩; have H' := Lib.hid (HN.out.next hb); clear hb HN F; have HN := H'; clear H'; have F := HN.out.facts))
    go_ret
    exact ⟨rfl, HN.out.low⟩
end Go.Proofs.Ytaolcmmdefchmaa
