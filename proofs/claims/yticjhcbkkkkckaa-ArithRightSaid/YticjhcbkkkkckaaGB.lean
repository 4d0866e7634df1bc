/- Package arith: bits of both; one of them. -/
import Derived.Test.YticjhcbkkkkckaaGA
import Derived.RegionTactic
import Derived.ChangeAlike
import Derived.Deep.RegionHeld3
import Derived.Test.YticjhcbkkkkckaaNS
import Derived.Deep.QuietTactic

/- Package arith: bits of both; one of them. -/
namespace Go.Proofs.Yticjhcbkkkkckaa
open Go.RowKit
attribute [local go_sem] b_and b_or b_xor b_andNot b_low b_top b_most b_signed b_unsigned b_zero b_eq s_eq b_nzero b_neq s_neq b_max b_min s_max s_min
attribute [local go_sem ↓] Go.wp_at_zero Go.wp_at_succ
attribute [local go_sem] b_add b_sub b_mul b_neg b_two s_add s_sub b_div b_quo
set_option maxRecDepth 100000 in
set_option maxHeartbeats 1000000 in
theorem aand_any (a b : Bd) (g : Bool) (w : World) : Calls Try.prog 35 #[.agg #[.int .u64 (U a.ul), .int .u64 (U a.uh), .int .i64 (S a.sl), .int .i64 (S a.sh), .int .u64 (U a.t.v), .int .u64 (U a.t.m), .int .u64 (U b.ul), .int .u64 (U b.uh), .int .i64 (S b.sl), .int .i64 (S b.sh), .int .u64 (U b.t.v), .int .u64 (U b.t.m), .bool g]] w fun e w' => e = .returned (.agg #[.int .u64 (U (andB a b).ul), .int .u64 (U (andB a b).uh), .int .i64 (S (andB a b).sl), .int .i64 (S (andB a b).sh), .int .u64 (U (andB a b).t.v), .int .u64 (U (andB a b).t.m)]) ∧ Below w.heap.size w w' := by
  have HT := Lib.hid (fun W => tand_any a.t b.t W)
  have HH := Lib.hid (fun W => having_any (tand a.t b.t) W)
  have HE : Hid (andB a b = ⟨(havB (tand a.t b.t)).ul, umin a.uh b.uh, (havB (tand a.t b.t)).sl, (havB (tand a.t b.t)).sh, (havB (tand a.t b.t)).t⟩) := Lib.hid rfl
  rw [HE.out]
  clear HE
  generalize havB (tand a.t b.t) = c at *
  generalize tand a.t b.t = t at *
  have HN := Lib.hid (Oz.start w a b g 46 26)
  have F := HN.out.f
  go_enter Try.func35, Try.ntmps35
  go_wp2_with (first
    | (go_at_call 69; (with_reducible refine (HT.out _).mono ?_); rintro e w1 ⟨rfl, hb⟩; have H' := Lib.hid (HN.out.next hb); clear hb HN F; have HN := H'; clear H'; have F := HN.out.f; have B2 := Lib.hid HN.out.low)
    | (go_at_call 60; (with_reducible refine (HH.out _).mono ?_); rintro e w2 ⟨rfl, hb⟩; have H' := Lib.hid (HN.out.next hb); clear hb HN F; have HN := H'; clear H'; have F := HN.out.f; have B2 := Lib.hid HN.out.low))
  exact bodyPost_ret (by simp [results, Try.results35, go_sem, F]) rfl ⟨rfl, by repeat (first | with_reducible exact B2.out | with_reducible exact B2.out.drew | with_reducible refine Below.setCell ?_ (by first | (simp; omega) | simp) _ | with_reducible refine Below.alloc ?_ (by have := B2.out.size; simp; omega) _ | with_reducible refine Below.drew ?_)⟩
set_option maxRecDepth 100000 in
set_option maxHeartbeats 1000000 in
theorem aor_any (a b : Bd) (g : Bool) (w : World) : Calls Try.prog 36 #[.agg #[.int .u64 (U a.ul), .int .u64 (U a.uh), .int .i64 (S a.sl), .int .i64 (S a.sh), .int .u64 (U a.t.v), .int .u64 (U a.t.m), .int .u64 (U b.ul), .int .u64 (U b.uh), .int .i64 (S b.sl), .int .i64 (S b.sh), .int .u64 (U b.t.v), .int .u64 (U b.t.m), .bool g]] w fun e w' => e = .returned (.agg #[.int .u64 (U (orB a b).ul), .int .u64 (U (orB a b).uh), .int .i64 (S (orB a b).sl), .int .i64 (S (orB a b).sh), .int .u64 (U (orB a b).t.v), .int .u64 (U (orB a b).t.m)]) ∧ Below w.heap.size w w' := by
  have HT := Lib.hid (fun W => tor_any a.t b.t W)
  have HH := Lib.hid (fun W => having_any (tor a.t b.t) W)
  have HE : Hid (orB a b = ⟨umax a.ul b.ul, (havB (tor a.t b.t)).uh, (havB (tor a.t b.t)).sl, (havB (tor a.t b.t)).sh, (havB (tor a.t b.t)).t⟩) := Lib.hid rfl
  rw [HE.out]
  clear HE
  generalize havB (tor a.t b.t) = c at *
  generalize tor a.t b.t = t at *
  have HN := Lib.hid (Oz.start w a b g 46 26)
  have F := HN.out.f
  go_enter Try.func36, Try.ntmps36
  go_wp2_with (first
    | (go_at_call 70; (with_reducible refine (HT.out _).mono ?_); rintro e w1 ⟨rfl, hb⟩; have H' := Lib.hid (HN.out.next hb); clear hb HN F; have HN := H'; clear H'; have F := HN.out.f; have B2 := Lib.hid HN.out.low)
    | (go_at_call 60; (with_reducible refine (HH.out _).mono ?_); rintro e w2 ⟨rfl, hb⟩; have H' := Lib.hid (HN.out.next hb); clear hb HN F; have HN := H'; clear H'; have F := HN.out.f; have B2 := Lib.hid HN.out.low))
  exact bodyPost_ret (by simp [results, Try.results36, go_sem, F]) rfl ⟨rfl, by repeat (first | with_reducible exact B2.out | with_reducible exact B2.out.drew | with_reducible refine Below.setCell ?_ (by first | (simp; omega) | simp) _ | with_reducible refine Below.alloc ?_ (by have := B2.out.size; simp; omega) _ | with_reducible refine Below.drew ?_)⟩
set_option maxRecDepth 100000 in
set_option maxHeartbeats 1000000 in
theorem axor_any (a b : Bd) (g : Bool) (w : World) : Calls Try.prog 37 #[.agg #[.int .u64 (U a.ul), .int .u64 (U a.uh), .int .i64 (S a.sl), .int .i64 (S a.sh), .int .u64 (U a.t.v), .int .u64 (U a.t.m), .int .u64 (U b.ul), .int .u64 (U b.uh), .int .i64 (S b.sl), .int .i64 (S b.sh), .int .u64 (U b.t.v), .int .u64 (U b.t.m), .bool g]] w fun e w' => e = .returned (.agg #[.int .u64 (U (xorB a b).ul), .int .u64 (U (xorB a b).uh), .int .i64 (S (xorB a b).sl), .int .i64 (S (xorB a b).sh), .int .u64 (U (xorB a b).t.v), .int .u64 (U (xorB a b).t.m)]) ∧ Below w.heap.size w w' := by
  have HT := Lib.hid (fun W => txor_any a.t b.t W)
  have HH := Lib.hid (fun W => having_any (txor a.t b.t) W)
  have HE : Hid (xorB a b = havB (txor a.t b.t)) := Lib.hid rfl
  rw [HE.out]
  clear HE
  generalize havB (txor a.t b.t) = c at *
  generalize txor a.t b.t = t at *
  have HN := Lib.hid (Oz.start w a b g 46 26)
  have F := HN.out.f
  go_enter Try.func37, Try.ntmps37
  go_wp2_with (first
    | (go_at_call 71; (with_reducible refine (HT.out _).mono ?_); rintro e w1 ⟨rfl, hb⟩; have H' := Lib.hid (HN.out.next hb); clear hb HN F; have HN := H'; clear H'; have F := HN.out.f; have B2 := Lib.hid HN.out.low)
    | (go_at_call 60; (with_reducible refine (HH.out _).mono ?_); rintro e w2 ⟨rfl, hb⟩; have H' := Lib.hid (HN.out.next hb); clear hb HN F; have HN := H'; clear H'; have F := HN.out.f; have B2 := Lib.hid HN.out.low))
  exact bodyPost_ret (by simp [results, Try.results37, go_sem, F]) rfl ⟨rfl, by repeat (first | with_reducible exact B2.out | with_reducible exact B2.out.drew | with_reducible refine Below.setCell ?_ (by first | (simp; omega) | simp) _ | with_reducible refine Below.alloc ?_ (by have := B2.out.size; simp; omega) _ | with_reducible refine Below.drew ?_)⟩
set_option maxRecDepth 100000 in
set_option maxHeartbeats 1000000 in
theorem amov_any (a b : Bd) (g : Bool) (w : World) : Calls Try.prog 42 #[.agg #[.int .u64 (U a.ul), .int .u64 (U a.uh), .int .i64 (S a.sl), .int .i64 (S a.sh), .int .u64 (U a.t.v), .int .u64 (U a.t.m), .int .u64 (U b.ul), .int .u64 (U b.uh), .int .i64 (S b.sl), .int .i64 (S b.sh), .int .u64 (U b.t.v), .int .u64 (U b.t.m), .bool g]] w fun e w' => e = .returned (.agg #[.int .u64 (U b.ul), .int .u64 (U b.uh), .int .i64 (S b.sl), .int .i64 (S b.sh), .int .u64 (U b.t.v), .int .u64 (U b.t.m)]) ∧ Below w.heap.size w w' := by
  go_enter Try.func42, Try.ntmps42
  go_wp2_with fail
  exact bodyPost_ret (v := .agg #[.int .u64 (U b.ul), .int .u64 (U b.uh), .int .i64 (S b.sl), .int .i64 (S b.sh), .int .u64 (U b.t.v), .int .u64 (U b.t.m)]) (by simp [results, Try.results42, go_sem]) rfl ⟨rfl, b2⟩
end Go.Proofs.Yticjhcbkkkkckaa

/- Package arith: quotients. -/
namespace Go.Proofs.Yticjhcbkkkkckaa
open Go.RowKit
attribute [local go_sem] b_and b_or b_xor b_andNot b_low b_top b_most b_signed b_unsigned b_zero b_eq s_eq b_nzero b_neq s_neq b_max b_min s_max s_min
attribute [local go_sem ↓] Go.wp_at_zero Go.wp_at_succ
attribute [local go_sem] b_add b_sub b_mul b_neg b_two s_add s_sub b_div b_quo
set_option maxRecDepth 100000 in
set_option maxHeartbeats 1000000 in
theorem adiv_yes (a b : Bd) (h : b.ul = b.uh) (h2 : 0 < b.ul.toNat) (g : Bool) (w : World) : Calls Try.prog 33 #[.agg #[.int .u64 (U a.ul), .int .u64 (U a.uh), .int .i64 (S a.sl), .int .i64 (S a.sh), .int .u64 (U a.t.v), .int .u64 (U a.t.m), .int .u64 (U b.ul), .int .u64 (U b.uh), .int .i64 (S b.sl), .int .i64 (S b.sh), .int .u64 (U b.t.v), .int .u64 (U b.t.m), .bool g]] w fun e w' => e = .returned (.agg #[.int .u64 (U (fromB (a.ul / b.ul) (a.uh / b.ul)).ul), .int .u64 (U (fromB (a.ul / b.ul) (a.uh / b.ul)).uh), .int .i64 (S (fromB (a.ul / b.ul) (a.uh / b.ul)).sl), .int .i64 (S (fromB (a.ul / b.ul) (a.uh / b.ul)).sh), .int .u64 (U (fromB (a.ul / b.ul) (a.uh / b.ul)).t.v), .int .u64 (U (fromB (a.ul / b.ul) (a.uh / b.ul)).t.m)]) ∧ Below w.heap.size w w' := by
  have HV := Lib.hid (fun W => bvalue_any b W)
  rw [val_1 h] at HV
  have HH := Lib.hid (fun W => from_any (a.ul / b.ul) (a.uh / b.ul) W)
  generalize fromB (a.ul / b.ul) (a.uh / b.ul) = c at *
  have hc : 0 < U b.ul := by unfold U; omega
  have hn : ¬ U b.ul = 0 := by omega
  clear h h2
  have HN := Lib.hid (Oz.start w a b g 46 26)
  have F := HN.out.fo.ops
  have G := HN.out.fz.six0
  go_enter Try.func33, Try.ntmps33
  go_wp2_with (first
    | (go_at_call 67; (with_reducible refine (HV.out _).mono ?_); rintro e w1 ⟨rfl, hb⟩; (first | have H' := Lib.hid (HN.out.next hb) | have H' := Lib.hid (HN.out.drew.next hb)); clear hb HN F G; have HN := H'; clear H'; have F := HN.out.fo.ops; have G := HN.out.fz.six0))
  go_region_held3 (fun W => ((W.cell? ⟨w.heap.size, 0, none⟩ = some (.int .u64 (U a.ul)) ∧ W.cell? ⟨w.heap.size, 1, none⟩ = some (.int .u64 (U a.uh)) ∧ W.cell? ⟨w.heap.size, 2, none⟩ = some (.int .i64 (S a.sl)) ∧ W.cell? ⟨w.heap.size, 3, none⟩ = some (.int .i64 (S a.sh)) ∧ W.cell? ⟨w.heap.size, 4, none⟩ = some (.int .u64 (U a.t.v)) ∧ W.cell? ⟨w.heap.size, 5, none⟩ = some (.int .u64 (U a.t.m))) ∧ (W.cell? ⟨w.heap.size, 6, none⟩ = some (.int .u64 (U b.ul)) ∧ W.cell? ⟨w.heap.size, 7, none⟩ = some (.int .u64 (U b.uh)) ∧ W.cell? ⟨w.heap.size, 8, none⟩ = some (.int .i64 (S b.sl)) ∧ W.cell? ⟨w.heap.size, 9, none⟩ = some (.int .i64 (S b.sh)) ∧ W.cell? ⟨w.heap.size, 10, none⟩ = some (.int .u64 (U b.t.v)) ∧ W.cell? ⟨w.heap.size, 11, none⟩ = some (.int .u64 (U b.t.m)) ∧ W.cell? ⟨w.heap.size, 12, none⟩ = some (.bool g)) ∧ w.heap.size < W.heap.size))
    (first | with_reducible exact F | with_reducible exact HN.out.drew.fo.ops | with_reducible exact (HN.out.fo.far6 (by omega)).ops | with_reducible exact (HN.out.drew.fo.far6 (by omega)).ops)
    (first
    | (go_at_call 68; (with_reducible refine (HH.out _).mono ?_); rintro e w2 ⟨rfl, hb⟩; (first | have H' := Lib.hid (HN.out.next hb) | have H' := Lib.hid (HN.out.drew.next hb)); clear hb HN F G; have HN := H'; clear H'; have F := HN.out.fo.ops; have G := HN.out.fz.six0))
  all_goals
    go_wp2_with fail
    exact bodyPost_ret (by simp [results, Try.results33, go_sem, G]) rfl ⟨rfl, by repeat (first | with_reducible exact HN.out.low | with_reducible exact HN.out.low.drew | with_reducible exact HN.out.drew.low | with_reducible refine Below.setCell ?_ (by first | (simp; omega) | simp) _)⟩
set_option maxRecDepth 100000 in
set_option maxHeartbeats 1000000 in
theorem adiv_zero (a b : Bd) (h : b.ul = b.uh) (h2 : ¬ 0 < b.ul.toNat) (g : Bool) (w : World) : Calls Try.prog 33 #[.agg #[.int .u64 (U a.ul), .int .u64 (U a.uh), .int .i64 (S a.sl), .int .i64 (S a.sh), .int .u64 (U a.t.v), .int .u64 (U a.t.m), .int .u64 (U b.ul), .int .u64 (U b.uh), .int .i64 (S b.sl), .int .i64 (S b.sh), .int .u64 (U b.t.v), .int .u64 (U b.t.m), .bool g]] w fun e w' => e = .returned (.agg #[.int .u64 (U (fromB 0#64 a.uh).ul), .int .u64 (U (fromB 0#64 a.uh).uh), .int .i64 (S (fromB 0#64 a.uh).sl), .int .i64 (S (fromB 0#64 a.uh).sh), .int .u64 (U (fromB 0#64 a.uh).t.v), .int .u64 (U (fromB 0#64 a.uh).t.m)]) ∧ Below w.heap.size w w' := by
  have HV := Lib.hid (fun W => bvalue_any b W)
  rw [val_1 h] at HV
  have hc : ¬ 0 < U b.ul := by unfold U; omega
  clear h h2
  have HH := Lib.hid (fun W => from_any 0#64 a.uh W)
  rw [U_0] at HH
  generalize fromB 0#64 a.uh = c at *
  have HN := Lib.hid (Oz.start w a b g 46 26)
  have F := HN.out.f
  go_enter Try.func33, Try.ntmps33
  go_wp2_with (first
    | (go_at_call 67; (with_reducible refine (HV.out _).mono ?_); rintro e w1 ⟨rfl, hb⟩; have H' := Lib.hid (HN.out.next hb); clear hb HN F; have HN := H'; clear H'; have F := HN.out.f; have B2 := Lib.hid HN.out.low)
    | (go_at_call 68; (with_reducible refine (HH.out _).mono ?_); rintro e w2 ⟨rfl, hb⟩; have H' := Lib.hid (HN.out.next hb); clear hb HN F; have HN := H'; clear H'; have F := HN.out.f; have B2 := Lib.hid HN.out.low))
  exact bodyPost_ret (by simp [results, Try.results33, go_sem, F]) rfl ⟨rfl, by repeat (first | with_reducible exact B2.out | with_reducible exact B2.out.drew | with_reducible refine Below.setCell ?_ (by first | (simp; omega) | simp) _ | with_reducible refine Below.alloc ?_ (by have := B2.out.size; simp; omega) _ | with_reducible refine Below.drew ?_)⟩
set_option maxRecDepth 100000 in
set_option maxHeartbeats 1000000 in
theorem adiv_no (a b : Bd) (h : ¬ b.ul = b.uh) (g : Bool) (w : World) : Calls Try.prog 33 #[.agg #[.int .u64 (U a.ul), .int .u64 (U a.uh), .int .i64 (S a.sl), .int .i64 (S a.sh), .int .u64 (U a.t.v), .int .u64 (U a.t.m), .int .u64 (U b.ul), .int .u64 (U b.uh), .int .i64 (S b.sl), .int .i64 (S b.sh), .int .u64 (U b.t.v), .int .u64 (U b.t.m), .bool g]] w fun e w' => e = .returned (.agg #[.int .u64 (U (fromB 0#64 a.uh).ul), .int .u64 (U (fromB 0#64 a.uh).uh), .int .i64 (S (fromB 0#64 a.uh).sl), .int .i64 (S (fromB 0#64 a.uh).sh), .int .u64 (U (fromB 0#64 a.uh).t.v), .int .u64 (U (fromB 0#64 a.uh).t.m)]) ∧ Below w.heap.size w w' := by
  have HV := Lib.hid (fun W => bvalue_any b W)
  rw [val_0 h] at HV
  clear h
  have HH := Lib.hid (fun W => from_any 0#64 a.uh W)
  rw [U_0] at HH
  generalize fromB 0#64 a.uh = c at *
  have HN := Lib.hid (Oz.start w a b g 46 26)
  have F := HN.out.f
  go_enter Try.func33, Try.ntmps33
  go_wp2_with (first
    | (go_at_call 67; (with_reducible refine (HV.out _).mono ?_); rintro e w1 ⟨rfl, hb⟩; have H' := Lib.hid (HN.out.next hb); clear hb HN F; have HN := H'; clear H'; have F := HN.out.f; have B2 := Lib.hid HN.out.low)
    | (go_at_call 68; (with_reducible refine (HH.out _).mono ?_); rintro e w2 ⟨rfl, hb⟩; have H' := Lib.hid (HN.out.next hb); clear hb HN F; have HN := H'; clear H'; have F := HN.out.f; have B2 := Lib.hid HN.out.low))
  exact bodyPost_ret (by simp [results, Try.results33, go_sem, F]) rfl ⟨rfl, by repeat (first | with_reducible exact B2.out | with_reducible exact B2.out.drew | with_reducible refine Below.setCell ?_ (by first | (simp; omega) | simp) _ | with_reducible refine Below.alloc ?_ (by have := B2.out.size; simp; omega) _ | with_reducible refine Below.drew ?_)⟩
theorem adiv_any (a b : Bd) (g : Bool) (w : World) : Calls Try.prog 33 #[.agg #[.int .u64 (U a.ul), .int .u64 (U a.uh), .int .i64 (S a.sl), .int .i64 (S a.sh), .int .u64 (U a.t.v), .int .u64 (U a.t.m), .int .u64 (U b.ul), .int .u64 (U b.uh), .int .i64 (S b.sl), .int .i64 (S b.sh), .int .u64 (U b.t.v), .int .u64 (U b.t.m), .bool g]] w fun e w' => e = .returned (.agg #[.int .u64 (U (divB a b).ul), .int .u64 (U (divB a b).uh), .int .i64 (S (divB a b).sl), .int .i64 (S (divB a b).sh), .int .u64 (U (divB a b).t.v), .int .u64 (U (divB a b).t.m)]) ∧ Below w.heap.size w w' := by
  have e1 : divB a b = if b.ul = b.uh ∧ 0 < b.ul.toNat then fromB (a.ul / b.ul) (a.uh / b.ul) else fromB 0#64 a.uh := rfl
  rw [e1]
  by_cases h : b.ul = b.uh
  · by_cases h2 : 0 < b.ul.toNat
    · rw [if_pos ⟨h, h2⟩]; exact adiv_yes a b h h2 g w
    · rw [if_neg (fun x => h2 x.2)]; exact adiv_zero a b h h2 g w
  · rw [if_neg (fun x => h x.1)]; exact adiv_no a b h g w
end Go.Proofs.Yticjhcbkkkkckaa

/- Package arith: the negative. -/
namespace Go.Proofs.Yticjhcbkkkkckaa
open Go.RowKit
attribute [local go_sem] b_and b_or b_xor b_andNot b_low b_top b_most b_signed b_unsigned b_zero b_eq s_eq b_nzero b_neq s_neq b_max b_min s_max s_min
attribute [local go_sem ↓] Go.wp_at_zero Go.wp_at_succ
attribute [local go_sem] b_add b_sub b_mul b_neg b_two s_add s_sub b_div b_quo
theorem bzero_const (W : World) : Calls Try.prog 74 #[.int .u64 0] W fun e w' => e = .returned (.agg #[.int .u64 (U (bconst 0#64).ul), .int .u64 (U (bconst 0#64).uh), .int .i64 (S (bconst 0#64).sl), .int .i64 (S (bconst 0#64).sh), .int .u64 (U (bconst 0#64).t.v), .int .u64 (U (bconst 0#64).t.m)]) ∧ Below W.heap.size W w' := bconst_any 0#64 W
set_option maxRecDepth 100000 in
set_option maxHeartbeats 1000000 in
theorem aneg_any (a b : Bd) (g : Bool) (w : World) : Calls Try.prog 41 #[.agg #[.int .u64 (U a.ul), .int .u64 (U a.uh), .int .i64 (S a.sl), .int .i64 (S a.sh), .int .u64 (U a.t.v), .int .u64 (U a.t.m), .int .u64 (U b.ul), .int .u64 (U b.uh), .int .i64 (S b.sl), .int .i64 (S b.sh), .int .u64 (U b.t.v), .int .u64 (U b.t.m), .bool g]] w fun e w' => e = .returned (.agg #[.int .u64 (U (subB (bconst 0#64) a).ul), .int .u64 (U (subB (bconst 0#64) a).uh), .int .i64 (S (subB (bconst 0#64) a).sl), .int .i64 (S (subB (bconst 0#64) a).sh), .int .u64 (U (subB (bconst 0#64) a).t.v), .int .u64 (U (subB (bconst 0#64) a).t.m)]) ∧ Below w.heap.size w w' := by
  have HZ := Lib.hid (fun W => bzero_const W)
  have HC := Lib.hid (fun W => asub_any (bconst 0#64) a g W)
  generalize subB (bconst 0#64) a = c at *
  generalize bconst 0#64 = z at *
  have HN := Lib.hid (Oz.start w a b g 46 26)
  have F := HN.out.fo.ops
  have G := HN.out.fz.six0
  go_enter Try.func41, Try.ntmps41
  go_wp2_with fail
  go_region_held3 (fun W => ((W.cell? ⟨w.heap.size, 0, none⟩ = some (.int .u64 (U a.ul)) ∧ W.cell? ⟨w.heap.size, 1, none⟩ = some (.int .u64 (U a.uh)) ∧ W.cell? ⟨w.heap.size, 2, none⟩ = some (.int .i64 (S a.sl)) ∧ W.cell? ⟨w.heap.size, 3, none⟩ = some (.int .i64 (S a.sh)) ∧ W.cell? ⟨w.heap.size, 4, none⟩ = some (.int .u64 (U a.t.v)) ∧ W.cell? ⟨w.heap.size, 5, none⟩ = some (.int .u64 (U a.t.m))) ∧ (W.cell? ⟨w.heap.size, 6, none⟩ = some (.int .u64 (U b.ul)) ∧ W.cell? ⟨w.heap.size, 7, none⟩ = some (.int .u64 (U b.uh)) ∧ W.cell? ⟨w.heap.size, 8, none⟩ = some (.int .i64 (S b.sl)) ∧ W.cell? ⟨w.heap.size, 9, none⟩ = some (.int .i64 (S b.sh)) ∧ W.cell? ⟨w.heap.size, 10, none⟩ = some (.int .u64 (U b.t.v)) ∧ W.cell? ⟨w.heap.size, 11, none⟩ = some (.int .u64 (U b.t.m)) ∧ W.cell? ⟨w.heap.size, 12, none⟩ = some (.bool g)) ∧ w.heap.size < W.heap.size))
    (first | with_reducible exact F | with_reducible exact HN.out.drew.fo.ops | with_reducible exact (HN.out.fo.far6 (by omega)).ops | with_reducible exact (HN.out.drew.fo.far6 (by omega)).ops)
    (first
    | (go_at_call 74; (with_reducible refine (HZ.out _).mono ?_); rintro e w1 ⟨rfl, hb⟩; (first | have H' := Lib.hid (HN.out.next hb) | have H' := Lib.hid (HN.out.drew.next hb)); clear hb HN F G; have HN := H'; clear H'; have F := HN.out.fo.ops; have G := HN.out.fz.six0)
    | (go_at_call 31; (with_reducible refine (HC.out _).mono ?_); rintro e w2 ⟨rfl, hb⟩; (first | have H' := Lib.hid (HN.out.next hb) | have H' := Lib.hid (HN.out.drew.next hb)); clear hb HN F G; have HN := H'; clear H'; have F := HN.out.fo.ops; have G := HN.out.fz.six0))
  all_goals
    go_wp2_with fail
    exact bodyPost_ret (by simp [results, Try.results41, go_sem, G]) rfl ⟨rfl, by repeat (first | with_reducible exact HN.out.low | with_reducible exact HN.out.low.drew | with_reducible exact HN.out.drew.low | with_reducible refine Below.setCell ?_ (by first | (simp; omega) | simp) _)⟩
end Go.Proofs.Yticjhcbkkkkckaa

/- Package arith: counts, shifts. -/
namespace Go.Proofs.Yticjhcbkkkkckaa
open Go.RowKit
attribute [local go_sem] b_and b_or b_xor b_andNot b_low b_top b_most b_signed b_unsigned b_zero b_eq s_eq b_nzero b_neq s_neq b_max b_min s_max s_min
attribute [local go_sem ↓] Go.wp_at_zero Go.wp_at_succ
attribute [local go_sem] b_add b_sub b_mul b_neg b_two s_add s_sub b_div b_quo
attribute [local go_sem] b_m32 b_m32w b_m64 b_m64'
theorem small_wrap (x : B) (h : x.toNat < 64) : wrap64 (U x) = ((x.toNat : Nat) : Int) := by
  unfold wrap64 U; omega
theorem m64_wrap (x : B) : wrap64 (U (m64 x)) = ((x.toNat % 64 : Nat) : Int) := by
  have := m64_nat x
  have := m64_lt x
  rw [small_wrap _ (by omega)]; omega
theorem m32_wrap (x : B) : wrap64 (U (m32 x)) = ((x.toNat % 32 : Nat) : Int) := by
  have := m32_nat x
  rw [small_wrap _ (by omega)]; omega
theorem m64_S (x : B) : S (m64 x) = ((x.toNat % 64 : Nat) : Int) := by
  have := m64_nat x
  have := two (m64 x)
  unfold S; omega
theorem m32_S (x : B) : S (m32 x) = ((x.toNat % 32 : Nat) : Int) := by
  have := m32_nat x
  have := two (m32 x)
  unfold S; omega
/-- by how much to shift -/
def cntB (b : Bd) (g : Bool) : Nat := if g = true then b.ul.toNat % 64 else b.ul.toNat % 32
theorem cntB_lt (b : Bd) (g : Bool) : cntB b g < 64 := by unfold cntB; split <;> omega
theorem sh_shrN (x : B) (n : Nat) (k : IntKind) : Op.shift .shr .u64 (U x) k (n : Int) = pure (.int .u64 (U (x >>> n))) := by
  unfold Op.shift
  rw [if_neg (by omega), Int.toNat_natCast]
  exact congrArg (fun n => pure (Value.int .u64 n)) (shr_clamp x n)
theorem sh_sarN (x : B) (n : Nat) (k : IntKind) : Op.shift .shr .i64 (S x) k (n : Int) = pure (.int .i64 (S (x.sshiftRight n))) := by
  unfold Op.shift
  rw [if_neg (by omega), Int.toNat_natCast]
  exact congrArg (fun n => pure (Value.int .i64 n)) (sar_clamp x n)
theorem sh_allN (n : Nat) (k : IntKind) : Op.shift .shr .u64 18446744073709551615 k (n : Int) = pure (.int .u64 (U (allB >>> n))) := sh_shrN allB n k
attribute [local go_sem] sh_shlN sh_shrN sh_sarN sh_allN m64_wrap m32_wrap m64_S m32_S
set_option maxRecDepth 100000 in
set_option maxHeartbeats 1000000 in
theorem count_t1 (a b : Bd) (h : b.ul = b.uh) (w : World) : Calls Try.prog 72 #[.agg #[.int .u64 (U a.ul), .int .u64 (U a.uh), .int .i64 (S a.sl), .int .i64 (S a.sh), .int .u64 (U a.t.v), .int .u64 (U a.t.m), .int .u64 (U b.ul), .int .u64 (U b.uh), .int .i64 (S b.sl), .int .i64 (S b.sh), .int .u64 (U b.t.v), .int .u64 (U b.t.m), .bool true]] w fun e w' => e = .returned (.tuple #[.int .i64 ((b.ul.toNat % 64 : Nat) : Int), .bool true]) ∧ Below w.heap.size w w' := by
  have HV := Lib.hid (fun W => bvalue_any b W)
  rw [val_1 h] at HV
  clear h
  have HN := Lib.hid ((Box.new w (ov a b true) 46 rfl))
  have F := HN.out.ops
  go_enter Try.func72, Try.ntmps72
  go_wp2_with (go_at_call 67; (with_reducible refine (HV.out _).mono ?_); rintro e w1 ⟨rfl, hb⟩; have B2 := Lib.hid (bl1 hb).1; have H' := Lib.hid (HN.out.next hb); clear hb HN F; have HN := H'; clear H'; have F := HN.out.ops)
  exact bodyPost_ret (v := .tuple #[.int .i64 ((b.ul.toNat % 64 : Nat) : Int), .bool true]) (by simp [results, Try.results72, go_sem]) rfl ⟨rfl, B2.out⟩
set_option maxRecDepth 100000 in
set_option maxHeartbeats 1000000 in
theorem count_f1 (a b : Bd) (h : b.ul = b.uh) (w : World) : Calls Try.prog 72 #[.agg #[.int .u64 (U a.ul), .int .u64 (U a.uh), .int .i64 (S a.sl), .int .i64 (S a.sh), .int .u64 (U a.t.v), .int .u64 (U a.t.m), .int .u64 (U b.ul), .int .u64 (U b.uh), .int .i64 (S b.sl), .int .i64 (S b.sh), .int .u64 (U b.t.v), .int .u64 (U b.t.m), .bool false]] w fun e w' => e = .returned (.tuple #[.int .i64 ((b.ul.toNat % 32 : Nat) : Int), .bool true]) ∧ Below w.heap.size w w' := by
  have HV := Lib.hid (fun W => bvalue_any b W)
  rw [val_1 h] at HV
  clear h
  have HN := Lib.hid ((Box.new w (ov a b false) 46 rfl))
  have F := HN.out.ops
  go_enter Try.func72, Try.ntmps72
  go_wp2_with (go_at_call 67; (with_reducible refine (HV.out _).mono ?_); rintro e w1 ⟨rfl, hb⟩; have B2 := Lib.hid (bl1 hb).1; have H' := Lib.hid (HN.out.next hb); clear hb HN F; have HN := H'; clear H'; have F := HN.out.ops)
  exact bodyPost_ret (v := .tuple #[.int .i64 ((b.ul.toNat % 32 : Nat) : Int), .bool true]) (by simp [results, Try.results72, go_sem]) rfl ⟨rfl, B2.out⟩
set_option maxRecDepth 100000 in
set_option maxHeartbeats 1000000 in
theorem count_t0 (a b : Bd) (h : ¬ b.ul = b.uh) (w : World) : Calls Try.prog 72 #[.agg #[.int .u64 (U a.ul), .int .u64 (U a.uh), .int .i64 (S a.sl), .int .i64 (S a.sh), .int .u64 (U a.t.v), .int .u64 (U a.t.m), .int .u64 (U b.ul), .int .u64 (U b.uh), .int .i64 (S b.sl), .int .i64 (S b.sh), .int .u64 (U b.t.v), .int .u64 (U b.t.m), .bool true]] w fun e w' => e = .returned (.tuple #[.int .i64 (((0#64 : B).toNat % 64 : Nat) : Int), .bool false]) ∧ Below w.heap.size w w' := by
  have HV := Lib.hid (fun W => bvalue_any b W)
  rw [val_0 h] at HV
  clear h
  have HN := Lib.hid ((Box.new w (ov a b true) 46 rfl))
  have F := HN.out.ops
  go_enter Try.func72, Try.ntmps72
  go_wp2_with (go_at_call 67; (with_reducible refine (HV.out _).mono ?_); rintro e w1 ⟨rfl, hb⟩; have B2 := Lib.hid (bl1 hb).1; have H' := Lib.hid (HN.out.next hb); clear hb HN F; have HN := H'; clear H'; have F := HN.out.ops)
  exact bodyPost_ret (v := .tuple #[.int .i64 (((0#64 : B).toNat % 64 : Nat) : Int), .bool false]) (by simp [results, Try.results72, go_sem]) rfl ⟨rfl, B2.out⟩
set_option maxRecDepth 100000 in
set_option maxHeartbeats 1000000 in
theorem count_f0 (a b : Bd) (h : ¬ b.ul = b.uh) (w : World) : Calls Try.prog 72 #[.agg #[.int .u64 (U a.ul), .int .u64 (U a.uh), .int .i64 (S a.sl), .int .i64 (S a.sh), .int .u64 (U a.t.v), .int .u64 (U a.t.m), .int .u64 (U b.ul), .int .u64 (U b.uh), .int .i64 (S b.sl), .int .i64 (S b.sh), .int .u64 (U b.t.v), .int .u64 (U b.t.m), .bool false]] w fun e w' => e = .returned (.tuple #[.int .i64 (((0#64 : B).toNat % 32 : Nat) : Int), .bool false]) ∧ Below w.heap.size w w' := by
  have HV := Lib.hid (fun W => bvalue_any b W)
  rw [val_0 h] at HV
  clear h
  have HN := Lib.hid ((Box.new w (ov a b false) 46 rfl))
  have F := HN.out.ops
  go_enter Try.func72, Try.ntmps72
  go_wp2_with (go_at_call 67; (with_reducible refine (HV.out _).mono ?_); rintro e w1 ⟨rfl, hb⟩; have B2 := Lib.hid (bl1 hb).1; have H' := Lib.hid (HN.out.next hb); clear hb HN F; have HN := H'; clear H'; have F := HN.out.ops)
  exact bodyPost_ret (v := .tuple #[.int .i64 (((0#64 : B).toNat % 32 : Nat) : Int), .bool false]) (by simp [results, Try.results72, go_sem]) rfl ⟨rfl, B2.out⟩
theorem count_1 (a b : Bd) (h : b.ul = b.uh) (g : Bool) (w : World) : Calls Try.prog 72 #[.agg #[.int .u64 (U a.ul), .int .u64 (U a.uh), .int .i64 (S a.sl), .int .i64 (S a.sh), .int .u64 (U a.t.v), .int .u64 (U a.t.m), .int .u64 (U b.ul), .int .u64 (U b.uh), .int .i64 (S b.sl), .int .i64 (S b.sh), .int .u64 (U b.t.v), .int .u64 (U b.t.m), .bool g]] w fun e w' => e = .returned (.tuple #[.int .i64 ((cntB b g : Nat) : Int), .bool true]) ∧ Below w.heap.size w w' := by
  cases g with
  | true => exact count_t1 a b h w
  | false => exact count_f1 a b h w
theorem count_0 (a b : Bd) (h : ¬ b.ul = b.uh) (g : Bool) : ∃ n : Int, ∀ w, Calls Try.prog 72 #[.agg #[.int .u64 (U a.ul), .int .u64 (U a.uh), .int .i64 (S a.sl), .int .i64 (S a.sh), .int .u64 (U a.t.v), .int .u64 (U a.t.m), .int .u64 (U b.ul), .int .u64 (U b.uh), .int .i64 (S b.sl), .int .i64 (S b.sh), .int .u64 (U b.t.v), .int .u64 (U b.t.m), .bool g]] w fun e w' => e = .returned (.tuple #[.int .i64 n, .bool false]) ∧ Below w.heap.size w w' := by
  cases g with
  | true => exact ⟨_, count_t0 a b h⟩
  | false => exact ⟨_, count_f0 a b h⟩
theorem shifted_any (op : Int) (n : Nat) (hn : n < 64) (a b : Bd) (g : Bool) (w : World) : Calls Try.prog 73 #[.agg #[.int .u64 (U a.ul), .int .u64 (U a.uh), .int .i64 (S a.sl), .int .i64 (S a.sh), .int .u64 (U a.t.v), .int .u64 (U a.t.m), .int .u64 (U b.ul), .int .u64 (U b.uh), .int .i64 (S b.sl), .int .i64 (S b.sh), .int .u64 (U b.t.v), .int .u64 (U b.t.m), .bool g], .int .i64 op, .int .i64 (n : Int)] w fun e w' => e = .returned (.agg #[.int .u64 (U (havB (tshift op a.t n)).ul), .int .u64 (U (havB (tshift op a.t n)).uh), .int .i64 (S (havB (tshift op a.t n)).sl), .int .i64 (S (havB (tshift op a.t n)).sh), .int .u64 (U (havB (tshift op a.t n)).t.v), .int .u64 (U (havB (tshift op a.t n)).t.m)]) ∧ Below w.heap.size w w' := by
  have HT := Lib.hid (fun W => tshift_any op a.t (n : Int) (by omega) (by omega) W)
  have HH := Lib.hid (fun W => having_any (tshift op a.t n) W)
  generalize havB (tshift op a.t n) = c at *
  generalize tshift op a.t n = t at *
  clear hn
  have HN := Lib.hid (Oz.start w a b g 46 26)
  have F := HN.out.f
  go_enter Try.func73, Try.ntmps73
  go_wp2_with (first
    | (go_at_call 97; (with_reducible refine (HT.out _).mono ?_); rintro e w1 ⟨rfl, hb⟩; have H' := Lib.hid (HN.out.next hb); clear hb HN F; have HN := H'; clear H'; have F := HN.out.f; have B2 := Lib.hid HN.out.low)
    | (go_at_call 60; (with_reducible refine (HH.out _).mono ?_); rintro e w2 ⟨rfl, hb⟩; have H' := Lib.hid (HN.out.next hb); clear hb HN F; have HN := H'; clear H'; have F := HN.out.f; have B2 := Lib.hid HN.out.low))
  exact bodyPost_ret (by simp [results, Try.results73, go_sem, F]) rfl ⟨rfl, by repeat (first | with_reducible exact B2.out | with_reducible exact B2.out.drew | with_reducible refine Below.setCell ?_ (by first | (simp; omega) | simp) _ | with_reducible refine Below.alloc ?_ (by have := B2.out.size; simp; omega) _ | with_reducible refine Below.drew ?_)⟩
end Go.Proofs.Yticjhcbkkkkckaa

/- Package arith: shifts of bounds. -/
namespace Go.Proofs.Yticjhcbkkkkckaa
open Go.RowKit
attribute [local go_sem] b_and b_or b_xor b_andNot b_low b_top b_most b_signed b_unsigned b_zero b_eq s_eq b_nzero b_neq s_neq b_max b_min s_max s_min
attribute [local go_sem ↓] Go.wp_at_zero Go.wp_at_succ
attribute [local go_sem] b_add b_sub b_mul b_neg b_two s_add s_sub b_div b_quo
attribute [local go_sem] sh_shlN sh_shrN sh_sarN sh_allN
theorem pow_nn (n : Nat) : (0 : Int) ≤ 2 ^ (min n 64) := Int.le_of_lt (Int.pow_pos (by omega))
theorem r_shr (x : B) (n : Nat) : U x / 2 ^ (min n 64) = U (x >>> n) := by rw [← shr_clamp, Int.fdiv_eq_ediv_of_nonneg _ (pow_nn n)]
theorem r_sar (x : B) (n : Nat) : S x / 2 ^ (min n 64) = S (x.sshiftRight n) := by rw [← sar_clamp, Int.fdiv_eq_ediv_of_nonneg _ (pow_nn n)]
theorem r_all (n : Nat) : (18446744073709551615 : Int) / 2 ^ (min n 64) = U (allB >>> n) := r_shr allB n
attribute [local go_sem] shl_clamp r_shr r_sar r_all
theorem tshift_l (a : Tn) {n : Nat} (h : n < 64) : tshift 96 a (n : Int) = tshl a n := by
  have : shN (n : Int) = n := by unfold shN; omega
  unfold tshift; rw [if_pos rfl, this]
theorem tshift_r (a : Tn) {n : Nat} (h : n < 64) : tshift 112 a (n : Int) = tshr a n := by
  have : shN (n : Int) = n := by unfold shN; omega
  unfold tshift; rw [if_neg (by decide), if_pos rfl, this]
theorem tshift_s (a : Tn) {n : Nat} (h : n < 64) : tshift 192 a (n : Int) = tsar a n := by
  have : shN (n : Int) = n := by unfold shN; omega
  unfold tshift; rw [if_neg (by decide), if_neg (by decide), if_pos rfl, this]
set_option maxRecDepth 100000 in
set_option maxHeartbeats 1000000 in
theorem alsh_1 (a b : Bd) (h : b.ul = b.uh) (g : Bool) (w : World) : Calls Try.prog 38 #[.agg #[.int .u64 (U a.ul), .int .u64 (U a.uh), .int .i64 (S a.sl), .int .i64 (S a.sh), .int .u64 (U a.t.v), .int .u64 (U a.t.m), .int .u64 (U b.ul), .int .u64 (U b.uh), .int .i64 (S b.sl), .int .i64 (S b.sh), .int .u64 (U b.t.v), .int .u64 (U b.t.m), .bool g]] w fun e w' => e = .returned (.agg #[.int .u64 (U (shlB a (cntB b g)).ul), .int .u64 (U (shlB a (cntB b g)).uh), .int .i64 (S (shlB a (cntB b g)).sl), .int .i64 (S (shlB a (cntB b g)).sh), .int .u64 (U (shlB a (cntB b g)).t.v), .int .u64 (U (shlB a (cntB b g)).t.m)]) ∧ Below w.heap.size w w' := by
  have HC := Lib.hid (fun W => count_1 a b h g W)
  have HS := Lib.hid (fun W => shifted_any 96 (cntB b g) (cntB_lt b g) a b g W)
  rw [tshift_l a.t (cntB_lt b g)] at HS
  have HE : Hid (shlB a (cntB b g) = ⟨if a.uh.toNat ≤ 18446744073709551615 / 2 ^ cntB b g then a.ul <<< cntB b g else (havB (tshl a.t (cntB b g))).ul, if a.uh.toNat ≤ 18446744073709551615 / 2 ^ cntB b g then a.uh <<< cntB b g else (havB (tshl a.t (cntB b g))).uh, (havB (tshl a.t (cntB b g))).sl, (havB (tshl a.t (cntB b g))).sh, (havB (tshl a.t (cntB b g))).t⟩) := Lib.hid rfl
  rw [HE.out]
  clear HE
  generalize cntB b g = n at *
  generalize havB (tshl a.t n) = c at *
  have hd : (allB >>> n).toNat = 18446744073709551615 / 2 ^ n := shr_nat allB n
  have HN := Lib.hid (Oz.start w a b g 46 26)
  have F := HN.out.f
  clear h
  by_cases c1 : a.uh.toNat ≤ 18446744073709551615 / 2 ^ n
  · rw [if_pos c1, if_pos c1]
    have hc : U a.uh ≤ U (allB >>> n) := by unfold U; omega
    clear c1 hd
    go_enter Try.func38, Try.ntmps38
    go_wp2_with (first
      | (go_at_call 72; (with_reducible refine (HC.out _).mono ?_); rintro e w1 ⟨rfl, hb⟩; have H' := Lib.hid (HN.out.next hb); clear hb HN F; have HN := H'; clear H'; have F := HN.out.f; have B2 := Lib.hid HN.out.low)
      | (go_at_call 73; (with_reducible refine (HS.out _).mono ?_); rintro e w2 ⟨rfl, hb⟩; have H' := Lib.hid (HN.out.next hb); clear hb HN F; have HN := H'; clear H'; have F := HN.out.f; have B2 := Lib.hid HN.out.low))
    go_region
    all_goals
      go_wp2_with fail
      go_region
      all_goals
        go_wp2_with fail
        exact bodyPost_ret (by simp [results, Try.results38, go_sem, F]) rfl ⟨rfl, by repeat (first | with_reducible exact B2.out | with_reducible exact B2.out.drew | with_reducible refine Below.setCell ?_ (by first | (simp; omega) | simp) _ | with_reducible refine Below.alloc ?_ (by have := B2.out.size; simp; omega) _ | with_reducible refine Below.drew ?_)⟩
  · rw [if_neg c1, if_neg c1]
    have hc : U (allB >>> n) < U a.uh := by unfold U; omega
    clear c1 hd
    go_enter Try.func38, Try.ntmps38
    go_wp2_with (first
      | (go_at_call 72; (with_reducible refine (HC.out _).mono ?_); rintro e w1 ⟨rfl, hb⟩; have H' := Lib.hid (HN.out.next hb); clear hb HN F; have HN := H'; clear H'; have F := HN.out.f; have B2 := Lib.hid HN.out.low)
      | (go_at_call 73; (with_reducible refine (HS.out _).mono ?_); rintro e w2 ⟨rfl, hb⟩; have H' := Lib.hid (HN.out.next hb); clear hb HN F; have HN := H'; clear H'; have F := HN.out.f; have B2 := Lib.hid HN.out.low))
    go_region
    all_goals
      go_wp2_with fail
      exact bodyPost_ret (by simp [results, Try.results38, go_sem, F]) rfl ⟨rfl, by repeat (first | with_reducible exact B2.out | with_reducible exact B2.out.drew | with_reducible refine Below.setCell ?_ (by first | (simp; omega) | simp) _ | with_reducible refine Below.alloc ?_ (by have := B2.out.size; simp; omega) _ | with_reducible refine Below.drew ?_)⟩
set_option maxRecDepth 100000 in
set_option maxHeartbeats 1000000 in
theorem alsh_0 (a b : Bd) (h : ¬ b.ul = b.uh) (g : Bool) (w : World) : Calls Try.prog 38 #[.agg #[.int .u64 (U a.ul), .int .u64 (U a.uh), .int .i64 (S a.sl), .int .i64 (S a.sh), .int .u64 (U a.t.v), .int .u64 (U a.t.m), .int .u64 (U b.ul), .int .u64 (U b.uh), .int .i64 (S b.sl), .int .i64 (S b.sh), .int .u64 (U b.t.v), .int .u64 (U b.t.m), .bool g]] w fun e w' => e = .returned (.agg #[.int .u64 (U bany.ul), .int .u64 (U bany.uh), .int .i64 (S bany.sl), .int .i64 (S bany.sh), .int .u64 (U bany.t.v), .int .u64 (U bany.t.m)]) ∧ Below w.heap.size w w' := by
  obtain ⟨n, hC⟩ := count_0 a b h g
  have HC := Lib.hid hC
  clear hC h
  have HA := Lib.hid (fun W => bany_any W)
  generalize bany = c at *
  have HN := Lib.hid (Oz.start w a b g 46 26)
  have F := HN.out.f
  go_enter Try.func38, Try.ntmps38
  go_wp2_with (first
    | (go_at_call 72; (with_reducible refine (HC.out _).mono ?_); rintro e w1 ⟨rfl, hb⟩; have H' := Lib.hid (HN.out.next hb); clear hb HN F; have HN := H'; clear H'; have F := HN.out.f; have B2 := Lib.hid HN.out.low)
    | (go_at_call 17; (with_reducible refine (HA.out _).mono ?_); rintro e w2 ⟨rfl, hb⟩; have H' := Lib.hid (HN.out.next hb); clear hb HN F; have HN := H'; clear H'; have F := HN.out.f; have B2 := Lib.hid HN.out.low))
  exact bodyPost_ret (by simp [results, Try.results38, go_sem, F]) rfl ⟨rfl, by repeat (first | with_reducible exact B2.out | with_reducible exact B2.out.drew | with_reducible refine Below.setCell ?_ (by first | (simp; omega) | simp) _ | with_reducible refine Below.alloc ?_ (by have := B2.out.size; simp; omega) _ | with_reducible refine Below.drew ?_)⟩
set_option maxRecDepth 100000 in
set_option maxHeartbeats 1000000 in
theorem arsh_1 (a b : Bd) (h : b.ul = b.uh) (g : Bool) (w : World) : Calls Try.prog 39 #[.agg #[.int .u64 (U a.ul), .int .u64 (U a.uh), .int .i64 (S a.sl), .int .i64 (S a.sh), .int .u64 (U a.t.v), .int .u64 (U a.t.m), .int .u64 (U b.ul), .int .u64 (U b.uh), .int .i64 (S b.sl), .int .i64 (S b.sh), .int .u64 (U b.t.v), .int .u64 (U b.t.m), .bool g]] w fun e w' => e = .returned (.agg #[.int .u64 (U (shrB a (cntB b g)).ul), .int .u64 (U (shrB a (cntB b g)).uh), .int .i64 (S (shrB a (cntB b g)).sl), .int .i64 (S (shrB a (cntB b g)).sh), .int .u64 (U (shrB a (cntB b g)).t.v), .int .u64 (U (shrB a (cntB b g)).t.m)]) ∧ Below w.heap.size w w' := by
  have HC := Lib.hid (fun W => count_1 a b h g W)
  have HS := Lib.hid (fun W => shifted_any 112 (cntB b g) (cntB_lt b g) a b g W)
  rw [tshift_r a.t (cntB_lt b g)] at HS
  have HE : Hid (shrB a (cntB b g) = ⟨a.ul >>> cntB b g, a.uh >>> cntB b g, (havB (tshr a.t (cntB b g))).sl, (havB (tshr a.t (cntB b g))).sh, (havB (tshr a.t (cntB b g))).t⟩) := Lib.hid rfl
  rw [HE.out]
  clear HE
  generalize cntB b g = n at *
  generalize havB (tshr a.t n) = c at *
  have HN := Lib.hid (Oz.start w a b g 46 26)
  have F := HN.out.f
  clear h
  go_enter Try.func39, Try.ntmps39
  go_wp2_with (first
    | (go_at_call 72; (with_reducible refine (HC.out _).mono ?_); rintro e w1 ⟨rfl, hb⟩; have H' := Lib.hid (HN.out.next hb); clear hb HN F; have HN := H'; clear H'; have F := HN.out.f; have B2 := Lib.hid HN.out.low)
    | (go_at_call 73; (with_reducible refine (HS.out _).mono ?_); rintro e w2 ⟨rfl, hb⟩; have H' := Lib.hid (HN.out.next hb); clear hb HN F; have HN := H'; clear H'; have F := HN.out.f; have B2 := Lib.hid HN.out.low))
  go_region
  all_goals
    go_wp2_with fail
    exact bodyPost_ret (by simp [results, Try.results39, go_sem, F]) rfl ⟨rfl, by repeat (first | with_reducible exact B2.out | with_reducible exact B2.out.drew | with_reducible refine Below.setCell ?_ (by first | (simp; omega) | simp) _ | with_reducible refine Below.alloc ?_ (by have := B2.out.size; simp; omega) _ | with_reducible refine Below.drew ?_)⟩
set_option maxRecDepth 100000 in
set_option maxHeartbeats 1000000 in
theorem arsh_0 (a b : Bd) (h : ¬ b.ul = b.uh) (g : Bool) (w : World) : Calls Try.prog 39 #[.agg #[.int .u64 (U a.ul), .int .u64 (U a.uh), .int .i64 (S a.sl), .int .i64 (S a.sh), .int .u64 (U a.t.v), .int .u64 (U a.t.m), .int .u64 (U b.ul), .int .u64 (U b.uh), .int .i64 (S b.sl), .int .i64 (S b.sh), .int .u64 (U b.t.v), .int .u64 (U b.t.m), .bool g]] w fun e w' => e = .returned (.agg #[.int .u64 (U (uptoU a.uh).ul), .int .u64 (U (uptoU a.uh).uh), .int .i64 (S (uptoU a.uh).sl), .int .i64 (S (uptoU a.uh).sh), .int .u64 (U (uptoU a.uh).t.v), .int .u64 (U (uptoU a.uh).t.m)]) ∧ Below w.heap.size w w' := by
  obtain ⟨n, hC⟩ := count_0 a b h g
  have HC := Lib.hid hC
  clear hC h
  have HH := Lib.hid (fun W => from_any 0#64 a.uh W)
  rw [U_0] at HH
  rw [show uptoU a.uh = fromB 0#64 a.uh from rfl]
  generalize fromB 0#64 a.uh = c at *
  have HN := Lib.hid (Oz.start w a b g 46 26)
  have F := HN.out.f
  go_enter Try.func39, Try.ntmps39
  go_wp2_with (first
    | (go_at_call 72; (with_reducible refine (HC.out _).mono ?_); rintro e w1 ⟨rfl, hb⟩; have H' := Lib.hid (HN.out.next hb); clear hb HN F; have HN := H'; clear H'; have F := HN.out.f; have B2 := Lib.hid HN.out.low)
    | (go_at_call 68; (with_reducible refine (HH.out _).mono ?_); rintro e w2 ⟨rfl, hb⟩; have H' := Lib.hid (HN.out.next hb); clear hb HN F; have HN := H'; clear H'; have F := HN.out.f; have B2 := Lib.hid HN.out.low))
  exact bodyPost_ret (by simp [results, Try.results39, go_sem, F]) rfl ⟨rfl, by repeat (first | with_reducible exact B2.out | with_reducible exact B2.out.drew | with_reducible refine Below.setCell ?_ (by first | (simp; omega) | simp) _ | with_reducible refine Below.alloc ?_ (by have := B2.out.size; simp; omega) _ | with_reducible refine Below.drew ?_)⟩
set_option maxRecDepth 100000 in
set_option maxHeartbeats 1000000 in
theorem asar_0 (a b : Bd) (h : ¬ b.ul = b.uh) (g : Bool) (w : World) : Calls Try.prog 40 #[.agg #[.int .u64 (U a.ul), .int .u64 (U a.uh), .int .i64 (S a.sl), .int .i64 (S a.sh), .int .u64 (U a.t.v), .int .u64 (U a.t.m), .int .u64 (U b.ul), .int .u64 (U b.uh), .int .i64 (S b.sl), .int .i64 (S b.sh), .int .u64 (U b.t.v), .int .u64 (U b.t.m), .bool g]] w fun e w' => e = .returned (.agg #[.int .u64 (U bany.ul), .int .u64 (U bany.uh), .int .i64 (S bany.sl), .int .i64 (S bany.sh), .int .u64 (U bany.t.v), .int .u64 (U bany.t.m)]) ∧ Below w.heap.size w w' := by
  obtain ⟨n, hC⟩ := count_0 a b h g
  have HC := Lib.hid hC
  clear hC h
  have HA := Lib.hid (fun W => bany_any W)
  generalize bany = c at *
  have HN := Lib.hid (Oz.start w a b g 46 26)
  have F := HN.out.f
  go_enter Try.func40, Try.ntmps40
  go_wp2_with (first
    | (go_at_call 72; (with_reducible refine (HC.out _).mono ?_); rintro e w1 ⟨rfl, hb⟩; have H' := Lib.hid (HN.out.next hb); clear hb HN F; have HN := H'; clear H'; have F := HN.out.f; have B2 := Lib.hid HN.out.low)
    | (go_at_call 17; (with_reducible refine (HA.out _).mono ?_); rintro e w2 ⟨rfl, hb⟩; have H' := Lib.hid (HN.out.next hb); clear hb HN F; have HN := H'; clear H'; have F := HN.out.f; have B2 := Lib.hid HN.out.low))
  exact bodyPost_ret (by simp [results, Try.results40, go_sem, F]) rfl ⟨rfl, by repeat (first | with_reducible exact B2.out | with_reducible exact B2.out.drew | with_reducible refine Below.setCell ?_ (by first | (simp; omega) | simp) _ | with_reducible refine Below.alloc ?_ (by have := B2.out.size; simp; omega) _ | with_reducible refine Below.drew ?_)⟩
set_option maxRecDepth 100000 in
set_option maxHeartbeats 1000000 in
theorem asar_t (a b : Bd) (h : b.ul = b.uh) (w : World) : Calls Try.prog 40 #[.agg #[.int .u64 (U a.ul), .int .u64 (U a.uh), .int .i64 (S a.sl), .int .i64 (S a.sh), .int .u64 (U a.t.v), .int .u64 (U a.t.m), .int .u64 (U b.ul), .int .u64 (U b.uh), .int .i64 (S b.sl), .int .i64 (S b.sh), .int .u64 (U b.t.v), .int .u64 (U b.t.m), .bool true]] w fun e w' => e = .returned (.agg #[.int .u64 (U (sarB a (cntB b true)).ul), .int .u64 (U (sarB a (cntB b true)).uh), .int .i64 (S (sarB a (cntB b true)).sl), .int .i64 (S (sarB a (cntB b true)).sh), .int .u64 (U (sarB a (cntB b true)).t.v), .int .u64 (U (sarB a (cntB b true)).t.m)]) ∧ Below w.heap.size w w' := by
  have HC := Lib.hid (fun W => count_1 a b h true W)
  have HS := Lib.hid (fun W => shifted_any 192 (cntB b true) (cntB_lt b true) a b true W)
  rw [tshift_s a.t (cntB_lt b true)] at HS
  have HE : Hid (sarB a (cntB b true) = ⟨(havB (tsar a.t (cntB b true))).ul, (havB (tsar a.t (cntB b true))).uh, a.sl.sshiftRight (cntB b true), a.sh.sshiftRight (cntB b true), (havB (tsar a.t (cntB b true))).t⟩) := Lib.hid rfl
  rw [HE.out]
  clear HE
  generalize cntB b true = n at *
  generalize havB (tsar a.t n) = c at *
  have HN := Lib.hid (Oz.start w a b true 46 26)
  have F := HN.out.f
  clear h
  go_enter Try.func40, Try.ntmps40
  go_wp2_with (first
    | (go_at_call 72; (with_reducible refine (HC.out _).mono ?_); rintro e w1 ⟨rfl, hb⟩; have H' := Lib.hid (HN.out.next hb); clear hb HN F; have HN := H'; clear H'; have F := HN.out.f; have B2 := Lib.hid HN.out.low)
    | (go_at_call 73; (with_reducible refine (HS.out _).mono ?_); rintro e w2 ⟨rfl, hb⟩; have H' := Lib.hid (HN.out.next hb); clear hb HN F; have HN := H'; clear H'; have F := HN.out.f; have B2 := Lib.hid HN.out.low))
  go_region
  all_goals
    go_wp2_with fail
    exact bodyPost_ret (by simp [results, Try.results40, go_sem, F]) rfl ⟨rfl, by repeat (first | with_reducible exact B2.out | with_reducible exact B2.out.drew | with_reducible refine Below.setCell ?_ (by first | (simp; omega) | simp) _ | with_reducible refine Below.alloc ?_ (by have := B2.out.size; simp; omega) _ | with_reducible refine Below.drew ?_)⟩
set_option maxRecDepth 100000 in
set_option maxHeartbeats 1000000 in
theorem asar_f (a b : Bd) (h : b.ul = b.uh) (h2 : 2147483647 < a.uh.toNat) (w : World) : Calls Try.prog 40 #[.agg #[.int .u64 (U a.ul), .int .u64 (U a.uh), .int .i64 (S a.sl), .int .i64 (S a.sh), .int .u64 (U a.t.v), .int .u64 (U a.t.m), .int .u64 (U b.ul), .int .u64 (U b.uh), .int .i64 (S b.sl), .int .i64 (S b.sh), .int .u64 (U b.t.v), .int .u64 (U b.t.m), .bool false]] w fun e w' => e = .returned (.agg #[.int .u64 (U bany.ul), .int .u64 (U bany.uh), .int .i64 (S bany.sl), .int .i64 (S bany.sh), .int .u64 (U bany.t.v), .int .u64 (U bany.t.m)]) ∧ Below w.heap.size w w' := by
  have HC := Lib.hid (fun W => count_1 a b h false W)
  have HA := Lib.hid (fun W => bany_any W)
  generalize bany = c at *
  generalize cntB b false = n at *
  have hc : 2147483647 < U a.uh := by unfold U; omega
  clear h h2
  have HN := Lib.hid (Oz.start w a b false 46 26)
  have F := HN.out.f
  go_enter Try.func40, Try.ntmps40
  go_wp2_with (first
    | (go_at_call 72; (with_reducible refine (HC.out _).mono ?_); rintro e w1 ⟨rfl, hb⟩; have H' := Lib.hid (HN.out.next hb); clear hb HN F; have HN := H'; clear H'; have F := HN.out.f; have B2 := Lib.hid HN.out.low)
    | (go_at_call 17; (with_reducible refine (HA.out _).mono ?_); rintro e w2 ⟨rfl, hb⟩; have H' := Lib.hid (HN.out.next hb); clear hb HN F; have HN := H'; clear H'; have F := HN.out.f; have B2 := Lib.hid HN.out.low))
  exact bodyPost_ret (by simp [results, Try.results40, go_sem, F]) rfl ⟨rfl, by repeat (first | with_reducible exact B2.out | with_reducible exact B2.out.drew | with_reducible refine Below.setCell ?_ (by first | (simp; omega) | simp) _ | with_reducible refine Below.alloc ?_ (by have := B2.out.size; simp; omega) _ | with_reducible refine Below.drew ?_)⟩
set_option maxRecDepth 100000 in
set_option maxHeartbeats 1000000 in
theorem asar_r (a b : Bd) (h : b.ul = b.uh) (h2 : ¬ 2147483647 < a.uh.toNat) (w : World) : Calls Try.prog 40 #[.agg #[.int .u64 (U a.ul), .int .u64 (U a.uh), .int .i64 (S a.sl), .int .i64 (S a.sh), .int .u64 (U a.t.v), .int .u64 (U a.t.m), .int .u64 (U b.ul), .int .u64 (U b.uh), .int .i64 (S b.sl), .int .i64 (S b.sh), .int .u64 (U b.t.v), .int .u64 (U b.t.m), .bool false]] w fun e w' => e = .returned (.agg #[.int .u64 (U (shrB a (cntB b false)).ul), .int .u64 (U (shrB a (cntB b false)).uh), .int .i64 (S (shrB a (cntB b false)).sl), .int .i64 (S (shrB a (cntB b false)).sh), .int .u64 (U (shrB a (cntB b false)).t.v), .int .u64 (U (shrB a (cntB b false)).t.m)]) ∧ Below w.heap.size w w' := by
  have HC := Lib.hid (fun W => count_1 a b h false W)
  have HR := Lib.hid (fun W => arsh_1 a b h false W)
  generalize shrB a (cntB b false) = c at *
  generalize cntB b false = n at *
  have hc : ¬ 2147483647 < U a.uh := by unfold U; omega
  clear h h2
  have HN := Lib.hid (Oz.start w a b false 46 26)
  have F := HN.out.f
  go_enter Try.func40, Try.ntmps40
  go_wp2_with (first
    | (go_at_call 72; (with_reducible refine (HC.out _).mono ?_); rintro e w1 ⟨rfl, hb⟩; have H' := Lib.hid (HN.out.next hb); clear hb HN F; have HN := H'; clear H'; have F := HN.out.f; have B2 := Lib.hid HN.out.low)
    | (go_at_call 39; (with_reducible refine (HR.out _).mono ?_); rintro e w2 ⟨rfl, hb⟩; have H' := Lib.hid (HN.out.next hb); clear hb HN F; have HN := H'; clear H'; have F := HN.out.f; have B2 := Lib.hid HN.out.low))
  exact bodyPost_ret (by simp [results, Try.results40, go_sem, F]) rfl ⟨rfl, by repeat (first | with_reducible exact B2.out | with_reducible exact B2.out.drew | with_reducible refine Below.setCell ?_ (by first | (simp; omega) | simp) _ | with_reducible refine Below.alloc ?_ (by have := B2.out.size; simp; omega) _ | with_reducible refine Below.drew ?_)⟩
end Go.Proofs.Yticjhcbkkkkckaa
