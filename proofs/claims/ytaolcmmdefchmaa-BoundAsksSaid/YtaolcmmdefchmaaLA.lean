/- Bounds: what the laws ask at any rate. -/
import Derived.Test.YtaolcmmdefchmaaWZ
namespace Go.Proofs.Ytaolcmmdefchmaa
open Go.RowKit
attribute [local go_sem] b_and b_or b_xor b_andNot b_low b_top b_most b_signed b_unsigned b_zero b_eq s_eq b_nzero b_neq s_neq b_max b_min s_max s_min
attribute [local go_sem ↓] Go.wp_at_zero Go.wp_at_succ

theorem hd_tidy (W : World) : Calls Try.prog 12 #[.agg #[.int .u64 0, .int .u64 5, .int .i64 (-3), .int .i64 9, .int .u64 0, .int .u64 18446744073709551615]] W fun e w' => e = .returned (.tuple #[.agg #[.int .u64 0, .int .u64 5, .int .i64 0, .int .i64 5, .int .u64 0, .int .u64 7], .bool true]) ∧ Below W.heap.size W w' := by
  have h := btidy_any ⟨0#64, 5#64, 18446744073709551613#64, 9#64, banyT⟩ W
  rw [heads8.1] at h
  exact h
theorem hd_meet (W : World) : Calls Try.prog 27 #[.agg #[.int .u64 (U (bconst 1#64).ul), .int .u64 (U (bconst 1#64).uh), .int .i64 (S (bconst 1#64).sl), .int .i64 (S (bconst 1#64).sh), .int .u64 (U (bconst 1#64).t.v), .int .u64 (U (bconst 1#64).t.m)], .agg #[.int .u64 (U (bconst 2#64).ul), .int .u64 (U (bconst 2#64).uh), .int .i64 (S (bconst 2#64).sl), .int .i64 (S (bconst 2#64).sh), .int .u64 (U (bconst 2#64).t.v), .int .u64 (U (bconst 2#64).t.m)]] W fun e w' => e = .returned (.tuple #[.agg #[.int .u64 0, .int .u64 0, .int .i64 0, .int .i64 0, .int .u64 0, .int .u64 0], .bool false]) ∧ Below W.heap.size W w' := by
  have h := bmeet_any (bconst 1#64) (bconst 2#64) W
  rw [heads8.2.1] at h
  exact h
theorem hd_value (W : World) : Calls Try.prog 11 #[.agg #[.int .u64 (U (bconst 7#64).ul), .int .u64 (U (bconst 7#64).uh), .int .i64 (S (bconst 7#64).sl), .int .i64 (S (bconst 7#64).sh), .int .u64 (U (bconst 7#64).t.v), .int .u64 (U (bconst 7#64).t.m)]] W fun e w' => e = .returned (.tuple #[.int .u64 7, .bool true]) ∧ Below W.heap.size W w' := by
  have h := bvalue_any (bconst 7#64) W
  rw [show bvalue (bconst 7#64) = (7#64, true) from by decide +kernel] at h
  exact h
theorem hd_c (n : Int) (x : B) (h : U x = n) (W : World) : Calls Try.prog 10 #[.int .u64 n] W fun e w' => e = .returned (.agg #[.int .u64 (U (bconst x).ul), .int .u64 (U (bconst x).uh), .int .i64 (S (bconst x).sl), .int .i64 (S (bconst x).sh), .int .u64 (U (bconst x).t.v), .int .u64 (U (bconst x).t.m)]) ∧ Below W.heap.size W w' := by
  subst h; exact bconst_any x W
theorem hd_in (n : Int) (x : B) (v : Bool) (h : U x = n) (hv : bin (bupto 255#64) x = v) (W : World) : Calls Try.prog 14 #[.agg #[.int .u64 (U (bupto 255#64).ul), .int .u64 (U (bupto 255#64).uh), .int .i64 (S (bupto 255#64).sl), .int .i64 (S (bupto 255#64).sh), .int .u64 (U (bupto 255#64).t.v), .int .u64 (U (bupto 255#64).t.m)], .int .u64 n] W fun e w' => e = .returned (.bool v) ∧ Below W.heap.size W w' := by
  subst h; subst hv; exact bin_any _ x W
set_option maxRecDepth 100000 in
set_option maxHeartbeats 1000000 in
theorem heads_any (w : World) : Calls Try.prog 17 #[] w fun e w' => e = .returned (.bool true) ∧ Below w.heap.size w w' := by
  have HT := Lib.hid (fun W => hd_tidy W)
  have HM := Lib.hid (fun W => hd_meet W)
  have HV := Lib.hid (fun W => hd_value W)
  have H1 := Lib.hid (fun W => hd_c 1 1#64 rfl W)
  have H2 := Lib.hid (fun W => hd_c 2 2#64 rfl W)
  have H7 := Lib.hid (fun W => hd_c 7 7#64 rfl W)
  have I1 := Lib.hid (fun W => hd_in 255 255#64 true rfl heads8.2.2.1 W)
  have I2 := Lib.hid (fun W => hd_in 256 256#64 false rfl heads8.2.2.2 W)
  have HS := Lib.hid (fun W => bsize_any 1 W)
  rw [show bsize 1 = bupto 255#64 from rfl] at HS
  have HA := Lib.hid (fun W => bany_any W)
  have HR := Lib.hid (fun W => rbany_any W)
  have he := eqD bany bany
  rw [decide_eq_true (rfl : bany = bany)] at he
  generalize bconst 1#64 = c1 at *
  generalize bconst 2#64 = c2 at *
  generalize bconst 7#64 = c7 at *
  generalize bupto 255#64 = cu at *
  generalize bany = ca at *
  go_enter Try.func17, Try.ntmps17
  go_wp2_with (first
    | (go_at_call 12; refine (HT.out _).mono ?_; rintro e w1 ⟨rfl, hb⟩; have B1 := Lib.hid hb; have X1 := Lib.hid (Box.new w1 [.int .u64 0, .int .u64 5, .int .i64 0, .int .i64 5, .int .u64 0, .int .u64 7] 26 rfl); clear hb HT)
    | (go_at_call 10; refine (H1.out _).mono ?_; rintro e w2 ⟨rfl, hb⟩; have B2 := Lib.hid (bnext B1.out (bl1 hb).1); have X2 := Lib.hid (X1.out.next hb); clear hb H1 X1)
    | (go_at_call 10; refine (H2.out _).mono ?_; rintro e w3 ⟨rfl, hb⟩; have B3 := Lib.hid (bnext B2.out hb); have X3 := Lib.hid (X2.out.next hb); clear hb H2 X2)
    | (go_at_call 27; refine (HM.out _).mono ?_; rintro e w4 ⟨rfl, hb⟩; have B4 := Lib.hid (bnext B3.out hb); have X4 := Lib.hid (X3.out.next hb); clear hb HM X3)
    | (go_at_call 10; refine (H7.out _).mono ?_; rintro e w5 ⟨rfl, hb⟩; have B5 := Lib.hid (bnext B4.out (bl1 hb).1); have X5 := Lib.hid ((X4.out.alloc _).next hb); clear hb H7 X4)
    | (go_at_call 11; refine (HV.out _).mono ?_; rintro e w6 ⟨rfl, hb⟩; have B6 := Lib.hid (bnext B5.out hb); have X6 := (X5.out.next hb).six; clear hb HV X5; obtain ⟨f1, f2, f3⟩ := X6)
    | (go_at_call 13; refine (HA.out _).mono ?_; rintro e w7 ⟨rfl, hb⟩; have B7 := Lib.hid (bnext B6.out hb); clear hb HA f1 f2 f3)
    | (go_at_call 40; refine (HR.out _).mono ?_; rintro e w8 ⟨rfl, hb⟩; have B8 := Lib.hid (bnext B7.out hb); clear hb HR)
    | (go_at_call 14; have _t := B11.out; refine (I2.out _).mono ?_; rintro e w12 ⟨rfl, hb⟩; have B12 := Lib.hid (bnext B11.out hb); clear hb)
    | (go_at_call 24; have _t := B10.out; refine (HS.out _).mono ?_; rintro e w11 ⟨rfl, hb⟩; have B11 := Lib.hid (bnext B10.out hb); clear hb)
    | (go_at_call 14; refine (I1.out _).mono ?_; rintro e w10 ⟨rfl, hb⟩; have B10 := Lib.hid (bnext B9.out hb); clear hb)
    | (go_at_call 24; refine (HS.out _).mono ?_; rintro e w9 ⟨rfl, hb⟩; have B9 := Lib.hid (bnext B8.out hb); clear hb))
  go_ret
  exact ⟨rfl, B12.out⟩
end Go.Proofs.Ytaolcmmdefchmaa
