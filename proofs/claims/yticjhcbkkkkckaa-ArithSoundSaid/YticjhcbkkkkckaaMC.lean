/- Bounds reckoned: the law that nothing is left out. -/
import Derived.Test.YticjhcbkkkkckaaMB
namespace Go.Proofs.Yticjhcbkkkkckaa
open Go.RowKit
attribute [local go_sem] b_and b_or b_xor b_andNot b_low b_top b_most b_signed b_unsigned b_zero b_eq s_eq b_nzero b_neq s_neq b_max b_min s_max s_min
attribute [local go_sem ↓] Go.wp_at_zero Go.wp_at_succ

set_option maxRecDepth 100000 in
set_option maxHeartbeats 2000000 in
theorem sound_no (op : Int) (hw : (Lit.int .i64 op).wf = true) (a b : Bd) (x y : B) (wide : Bool) (ho : isOp op = false) (w : World) : Calls Try.prog 4 #[.int .i64 op, .agg #[.int .u64 (U a.ul), .int .u64 (U a.uh), .int .i64 (S a.sl), .int .i64 (S a.sh), .int .u64 (U a.t.v), .int .u64 (U a.t.m)], .agg #[.int .u64 (U b.ul), .int .u64 (U b.uh), .int .i64 (S b.sl), .int .i64 (S b.sh), .int .u64 (U b.t.v), .int .u64 (U b.t.m)], .int .u64 (U x), .int .u64 (U y), .bool wide] w fun e w' => e = .returned (.bool true) ∧ Below w.heap.size w w' := by
  have HN := Lib.hid (St.ab w a b 26 26)
  have F := HN.out.f2
  have HK := Lib.hid (fun W => aalu_any op hw a b wide W)
  have H0 := Lib.hid (fun W => ralu_any op x y wide W)
  have HX := Lib.hid (fun W => rbcheck_any a W)
  have HY := Lib.hid (fun W => rbcheck_any b W)
  have HI := Lib.hid (fun W => rbin_any a x W)
  have HJ := Lib.hid (fun W => rbin_any b y W)
  rw [ho] at HK H0
  generalize aluB op a b wide = k at *
  generalize aluU op x y wide = v at *
  clear ho
  go_enter Try.func4, Try.ntmps4
  go_wp2_with (first
    | (go_at_call 8; (with_reducible refine (HK.out _).mono ?_); rintro e w1 ⟨rfl, hb⟩; have H' := Lib.hid ((HN.out.next hb).new k 26); clear hb HN F; have HN := H'; clear H'; have F := HN.out.f3)
    | (go_at_call 11; (with_reducible refine (H0.out _).mono ?_); rintro e w6 ⟨rfl, rfl⟩)
    | (go_at_call 10; (with_reducible refine (heads_any _).mono ?_); rintro e w9 ⟨rfl, hb⟩; have H' := Lib.hid (HN.out.next hb); clear hb HN F; have HN := H'; clear H'; have F := HN.out.f3))
  go_ret
  exact ⟨rfl, HN.out.low⟩
set_option maxRecDepth 100000 in
set_option maxHeartbeats 2000000 in
theorem sound_a (op : Int) (hw : (Lit.int .i64 op).wf = true) (a b : Bd) (x y : B) (wide : Bool) (ho : isOp op = true) (ha : bcheck a = false) (w : World) : Calls Try.prog 4 #[.int .i64 op, .agg #[.int .u64 (U a.ul), .int .u64 (U a.uh), .int .i64 (S a.sl), .int .i64 (S a.sh), .int .u64 (U a.t.v), .int .u64 (U a.t.m)], .agg #[.int .u64 (U b.ul), .int .u64 (U b.uh), .int .i64 (S b.sl), .int .i64 (S b.sh), .int .u64 (U b.t.v), .int .u64 (U b.t.m)], .int .u64 (U x), .int .u64 (U y), .bool wide] w fun e w' => e = .returned (.bool true) ∧ Below w.heap.size w w' := by
  have HN := Lib.hid (St.ab w a b 26 26)
  have F := HN.out.f2
  have HK := Lib.hid (fun W => aalu_any op hw a b wide W)
  have H0 := Lib.hid (fun W => ralu_any op x y wide W)
  have HX := Lib.hid (fun W => rbcheck_any a W)
  have HY := Lib.hid (fun W => rbcheck_any b W)
  have HI := Lib.hid (fun W => rbin_any a x W)
  have HJ := Lib.hid (fun W => rbin_any b y W)
  rw [ho] at HK H0
  rw [ha] at HX
  generalize aluB op a b wide = k at *
  generalize aluU op x y wide = v at *
  clear ho ha
  go_enter Try.func4, Try.ntmps4
  go_wp2_with (first
    | (go_at_call 8; (with_reducible refine (HK.out _).mono ?_); rintro e w1 ⟨rfl, hb⟩; have H' := Lib.hid ((HN.out.next hb).new k 26); clear hb HN F; have HN := H'; clear H'; have F := HN.out.f3)
    | (go_at_call 11; (with_reducible refine (H0.out _).mono ?_); rintro e w6 ⟨rfl, rfl⟩)
    | (go_at_call 12; (with_reducible refine (HX.out _).mono ?_); rintro e w2 ⟨rfl, hb⟩; have H' := Lib.hid (HN.out.next hb); clear hb HN F; have HN := H'; clear H'; have F := HN.out.f3)
    | (go_at_call 10; (with_reducible refine (heads_any _).mono ?_); rintro e w9 ⟨rfl, hb⟩; have H' := Lib.hid (HN.out.next hb); clear hb HN F; have HN := H'; clear H'; have F := HN.out.f3))
  go_ret
  exact ⟨rfl, HN.out.low⟩
set_option maxRecDepth 100000 in
set_option maxHeartbeats 2000000 in
theorem sound_b (op : Int) (hw : (Lit.int .i64 op).wf = true) (a b : Bd) (x y : B) (wide : Bool) (ho : isOp op = true) (ha : bcheck a = true) (hb : bcheck b = false) (w : World) : Calls Try.prog 4 #[.int .i64 op, .agg #[.int .u64 (U a.ul), .int .u64 (U a.uh), .int .i64 (S a.sl), .int .i64 (S a.sh), .int .u64 (U a.t.v), .int .u64 (U a.t.m)], .agg #[.int .u64 (U b.ul), .int .u64 (U b.uh), .int .i64 (S b.sl), .int .i64 (S b.sh), .int .u64 (U b.t.v), .int .u64 (U b.t.m)], .int .u64 (U x), .int .u64 (U y), .bool wide] w fun e w' => e = .returned (.bool true) ∧ Below w.heap.size w w' := by
  have HN := Lib.hid (St.ab w a b 26 26)
  have F := HN.out.f2
  have HK := Lib.hid (fun W => aalu_any op hw a b wide W)
  have H0 := Lib.hid (fun W => ralu_any op x y wide W)
  have HX := Lib.hid (fun W => rbcheck_any a W)
  have HY := Lib.hid (fun W => rbcheck_any b W)
  have HI := Lib.hid (fun W => rbin_any a x W)
  have HJ := Lib.hid (fun W => rbin_any b y W)
  rw [ho] at HK H0
  rw [ha] at HX
  rw [hb] at HY
  generalize aluB op a b wide = k at *
  generalize aluU op x y wide = v at *
  clear ho ha hb
  go_enter Try.func4, Try.ntmps4
  go_wp2_with (first
    | (go_at_call 8; (with_reducible refine (HK.out _).mono ?_); rintro e w1 ⟨rfl, hb⟩; have H' := Lib.hid ((HN.out.next hb).new k 26); clear hb HN F; have HN := H'; clear H'; have F := HN.out.f3)
    | (go_at_call 11; (with_reducible refine (H0.out _).mono ?_); rintro e w6 ⟨rfl, rfl⟩)
    | (go_at_call 12; (with_reducible refine (HY.out _).mono ?_); rintro e w3 ⟨rfl, hb⟩; have H' := Lib.hid (HN.out.next hb); clear hb HN F; have HN := H'; clear H'; have F := HN.out.f3)
    | (go_at_call 12; (with_reducible refine (HX.out _).mono ?_); rintro e w2 ⟨rfl, hb⟩; have H' := Lib.hid (HN.out.next hb); clear hb HN F; have HN := H'; clear H'; have F := HN.out.f3)
    | (go_at_call 10; (with_reducible refine (heads_any _).mono ?_); rintro e w9 ⟨rfl, hb⟩; have H' := Lib.hid (HN.out.next hb); clear hb HN F; have HN := H'; clear H'; have F := HN.out.f3))
  go_ret
  exact ⟨rfl, HN.out.low⟩
set_option maxRecDepth 100000 in
set_option maxHeartbeats 2000000 in
theorem sound_x (op : Int) (hw : (Lit.int .i64 op).wf = true) (a b : Bd) (x y : B) (wide : Bool) (ho : isOp op = true) (ha : bcheck a = true) (hb : bcheck b = true) (hx : bin a x = false) (w : World) : Calls Try.prog 4 #[.int .i64 op, .agg #[.int .u64 (U a.ul), .int .u64 (U a.uh), .int .i64 (S a.sl), .int .i64 (S a.sh), .int .u64 (U a.t.v), .int .u64 (U a.t.m)], .agg #[.int .u64 (U b.ul), .int .u64 (U b.uh), .int .i64 (S b.sl), .int .i64 (S b.sh), .int .u64 (U b.t.v), .int .u64 (U b.t.m)], .int .u64 (U x), .int .u64 (U y), .bool wide] w fun e w' => e = .returned (.bool true) ∧ Below w.heap.size w w' := by
  have HN := Lib.hid (St.ab w a b 26 26)
  have F := HN.out.f2
  have HK := Lib.hid (fun W => aalu_any op hw a b wide W)
  have H0 := Lib.hid (fun W => ralu_any op x y wide W)
  have HX := Lib.hid (fun W => rbcheck_any a W)
  have HY := Lib.hid (fun W => rbcheck_any b W)
  have HI := Lib.hid (fun W => rbin_any a x W)
  have HJ := Lib.hid (fun W => rbin_any b y W)
  rw [ho] at HK H0
  rw [ha] at HX
  rw [hb] at HY
  rw [hx] at HI
  generalize aluB op a b wide = k at *
  generalize aluU op x y wide = v at *
  clear ho ha hb hx
  go_enter Try.func4, Try.ntmps4
  go_wp2_with (first
    | (go_at_call 8; (with_reducible refine (HK.out _).mono ?_); rintro e w1 ⟨rfl, hb⟩; have H' := Lib.hid ((HN.out.next hb).new k 26); clear hb HN F; have HN := H'; clear H'; have F := HN.out.f3)
    | (go_at_call 11; (with_reducible refine (H0.out _).mono ?_); rintro e w6 ⟨rfl, rfl⟩)
    | (go_at_call 13; (with_reducible refine (HI.out _).mono ?_); rintro e w4 ⟨rfl, hb⟩; have H' := Lib.hid (HN.out.next hb); clear hb HN F; have HN := H'; clear H'; have F := HN.out.f3)
    | (go_at_call 12; (with_reducible refine (HY.out _).mono ?_); rintro e w3 ⟨rfl, hb⟩; have H' := Lib.hid (HN.out.next hb); clear hb HN F; have HN := H'; clear H'; have F := HN.out.f3)
    | (go_at_call 12; (with_reducible refine (HX.out _).mono ?_); rintro e w2 ⟨rfl, hb⟩; have H' := Lib.hid (HN.out.next hb); clear hb HN F; have HN := H'; clear H'; have F := HN.out.f3)
    | (go_at_call 10; (with_reducible refine (heads_any _).mono ?_); rintro e w9 ⟨rfl, hb⟩; have H' := Lib.hid (HN.out.next hb); clear hb HN F; have HN := H'; clear H'; have F := HN.out.f3))
  go_ret
  exact ⟨rfl, HN.out.low⟩
set_option maxRecDepth 100000 in
set_option maxHeartbeats 2000000 in
theorem sound_y (op : Int) (hw : (Lit.int .i64 op).wf = true) (a b : Bd) (x y : B) (wide : Bool) (ho : isOp op = true) (ha : bcheck a = true) (hb : bcheck b = true) (hx : bin a x = true) (hy : bin b y = false) (w : World) : Calls Try.prog 4 #[.int .i64 op, .agg #[.int .u64 (U a.ul), .int .u64 (U a.uh), .int .i64 (S a.sl), .int .i64 (S a.sh), .int .u64 (U a.t.v), .int .u64 (U a.t.m)], .agg #[.int .u64 (U b.ul), .int .u64 (U b.uh), .int .i64 (S b.sl), .int .i64 (S b.sh), .int .u64 (U b.t.v), .int .u64 (U b.t.m)], .int .u64 (U x), .int .u64 (U y), .bool wide] w fun e w' => e = .returned (.bool true) ∧ Below w.heap.size w w' := by
  have HN := Lib.hid (St.ab w a b 26 26)
  have F := HN.out.f2
  have HK := Lib.hid (fun W => aalu_any op hw a b wide W)
  have H0 := Lib.hid (fun W => ralu_any op x y wide W)
  have HX := Lib.hid (fun W => rbcheck_any a W)
  have HY := Lib.hid (fun W => rbcheck_any b W)
  have HI := Lib.hid (fun W => rbin_any a x W)
  have HJ := Lib.hid (fun W => rbin_any b y W)
  rw [ho] at HK H0
  rw [ha] at HX
  rw [hb] at HY
  rw [hx] at HI
  rw [hy] at HJ
  generalize aluB op a b wide = k at *
  generalize aluU op x y wide = v at *
  clear ho ha hb hx hy
  go_enter Try.func4, Try.ntmps4
  go_wp2_with (first
    | (go_at_call 8; (with_reducible refine (HK.out _).mono ?_); rintro e w1 ⟨rfl, hb⟩; have H' := Lib.hid ((HN.out.next hb).new k 26); clear hb HN F; have HN := H'; clear H'; have F := HN.out.f3)
    | (go_at_call 11; (with_reducible refine (H0.out _).mono ?_); rintro e w6 ⟨rfl, rfl⟩)
    | (go_at_call 13; (with_reducible refine (HJ.out _).mono ?_); rintro e w5 ⟨rfl, hb⟩; have H' := Lib.hid (HN.out.next hb); clear hb HN F; have HN := H'; clear H'; have F := HN.out.f3)
    | (go_at_call 13; (with_reducible refine (HI.out _).mono ?_); rintro e w4 ⟨rfl, hb⟩; have H' := Lib.hid (HN.out.next hb); clear hb HN F; have HN := H'; clear H'; have F := HN.out.f3)
    | (go_at_call 12; (with_reducible refine (HY.out _).mono ?_); rintro e w3 ⟨rfl, hb⟩; have H' := Lib.hid (HN.out.next hb); clear hb HN F; have HN := H'; clear H'; have F := HN.out.f3)
    | (go_at_call 12; (with_reducible refine (HX.out _).mono ?_); rintro e w2 ⟨rfl, hb⟩; have H' := Lib.hid (HN.out.next hb); clear hb HN F; have HN := H'; clear H'; have F := HN.out.f3)
    | (go_at_call 10; (with_reducible refine (heads_any _).mono ?_); rintro e w9 ⟨rfl, hb⟩; have H' := Lib.hid (HN.out.next hb); clear hb HN F; have HN := H'; clear H'; have F := HN.out.f3))
  go_ret
  exact ⟨rfl, HN.out.low⟩
set_option maxRecDepth 100000 in
set_option maxHeartbeats 2000000 in
theorem sound_in (op : Int) (hw : (Lit.int .i64 op).wf = true) (a b : Bd) (x y : B) (wide : Bool) (ho : isOp op = true) (ha : bcheck a = true) (hb : bcheck b = true) (hx : bin a x = true) (hy : bin b y = true) (w : World) : Calls Try.prog 4 #[.int .i64 op, .agg #[.int .u64 (U a.ul), .int .u64 (U a.uh), .int .i64 (S a.sl), .int .i64 (S a.sh), .int .u64 (U a.t.v), .int .u64 (U a.t.m)], .agg #[.int .u64 (U b.ul), .int .u64 (U b.uh), .int .i64 (S b.sl), .int .i64 (S b.sh), .int .u64 (U b.t.v), .int .u64 (U b.t.m)], .int .u64 (U x), .int .u64 (U y), .bool wide] w fun e w' => e = .returned (.bool true) ∧ Below w.heap.size w w' := by
  have HN := Lib.hid (St.ab w a b 26 26)
  have F := HN.out.f2
  have HK := Lib.hid (fun W => aalu_any op hw a b wide W)
  have H0 := Lib.hid (fun W => ralu_any op x y wide W)
  have HX := Lib.hid (fun W => rbcheck_any a W)
  have HY := Lib.hid (fun W => rbcheck_any b W)
  have HI := Lib.hid (fun W => rbin_any a x W)
  have HJ := Lib.hid (fun W => rbin_any b y W)
  have hk := aluB_check op a b wide
  have hv := aluB_in (wide := wide) ho ha hb hx hy
  have he : aluU op x y wide = aluW op x y wide := if_pos ho
  rw [he, ho] at H0
  rw [ho] at HK
  have HC := Lib.hid (fun W => rbcheck_any (aluB op a b wide) W)
  have HV := Lib.hid (fun W => rbin_any (aluB op a b wide) (aluW op x y wide) W)
  rw [hk] at HC
  rw [hv] at HV
  rw [ha] at HX
  rw [hb] at HY
  rw [hx] at HI
  rw [hy] at HJ
  clear ho ha hb hx hy hk hv he
  generalize aluB op a b wide = k at *
  generalize aluW op x y wide = v at *
  go_enter Try.func4, Try.ntmps4
  go_wp2_with (first
    | (go_at_call 8; (with_reducible refine (HK.out _).mono ?_); rintro e w1 ⟨rfl, hb⟩; have H' := Lib.hid ((HN.out.next hb).new k 26); clear hb HN F; have HN := H'; clear H'; have F := HN.out.f3)
    | (go_at_call 11; (with_reducible refine (H0.out _).mono ?_); rintro e w6 ⟨rfl, rfl⟩)
    | (go_at_call 13; (with_reducible refine (HV.out _).mono ?_); rintro e w7 ⟨rfl, hb⟩; have H' := Lib.hid (HN.out.next hb); clear hb HN F; have HN := H'; clear H'; have F := HN.out.f3)
    | (go_at_call 12; (with_reducible refine (HC.out _).mono ?_); rintro e w8 ⟨rfl, hb⟩; have H' := Lib.hid (HN.out.next hb); clear hb HN F; have HN := H'; clear H'; have F := HN.out.f3)
    | (go_at_call 13; (with_reducible refine (HJ.out _).mono ?_); rintro e w5 ⟨rfl, hb⟩; have H' := Lib.hid (HN.out.next hb); clear hb HN F; have HN := H'; clear H'; have F := HN.out.f3)
    | (go_at_call 13; (with_reducible refine (HI.out _).mono ?_); rintro e w4 ⟨rfl, hb⟩; have H' := Lib.hid (HN.out.next hb); clear hb HN F; have HN := H'; clear H'; have F := HN.out.f3)
    | (go_at_call 12; (with_reducible refine (HY.out _).mono ?_); rintro e w3 ⟨rfl, hb⟩; have H' := Lib.hid (HN.out.next hb); clear hb HN F; have HN := H'; clear H'; have F := HN.out.f3)
    | (go_at_call 12; (with_reducible refine (HX.out _).mono ?_); rintro e w2 ⟨rfl, hb⟩; have H' := Lib.hid (HN.out.next hb); clear hb HN F; have HN := H'; clear H'; have F := HN.out.f3)
    | (go_at_call 10; (with_reducible refine (heads_any _).mono ?_); rintro e w9 ⟨rfl, hb⟩; have H' := Lib.hid (HN.out.next hb); clear hb HN F; have HN := H'; clear H'; have F := HN.out.f3))
  go_ret
  exact ⟨rfl, HN.out.low⟩
theorem sound_law (op : Int) (hw : (Lit.int .i64 op).wf = true) (a b : Bd) (x y : B) (wide : Bool) (w : World) : Calls Try.prog 4 #[.int .i64 op, .agg #[.int .u64 (U a.ul), .int .u64 (U a.uh), .int .i64 (S a.sl), .int .i64 (S a.sh), .int .u64 (U a.t.v), .int .u64 (U a.t.m)], .agg #[.int .u64 (U b.ul), .int .u64 (U b.uh), .int .i64 (S b.sl), .int .i64 (S b.sh), .int .u64 (U b.t.v), .int .u64 (U b.t.m)], .int .u64 (U x), .int .u64 (U y), .bool wide] w fun e w' => e = .returned (.bool true) ∧ Below w.heap.size w w' := by
  cases ho : isOp op with
  | false => exact sound_no op hw a b x y wide ho w
  | true => cases ha : bcheck a with
    | false => exact sound_a op hw a b x y wide ho ha w
    | true => cases hb : bcheck b with
      | false => exact sound_b op hw a b x y wide ho ha hb w
      | true => cases hx : bin a x with
        | false => exact sound_x op hw a b x y wide ho ha hb hx w
        | true => cases hy : bin b y with
          | false => exact sound_y op hw a b x y wide ho ha hb hx hy w
          | true => exact sound_in op hw a b x y wide ho ha hb hx hy w
end Go.Proofs.Yticjhcbkkkkckaa
