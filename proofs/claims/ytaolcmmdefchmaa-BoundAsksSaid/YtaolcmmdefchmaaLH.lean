/- Bounds: the law on what bounds are, and which numbers are in, held against the document's own. -/
import Derived.Test.YtaolcmmdefchmaaLG
namespace Go.Proofs.Ytaolcmmdefchmaa
open Go.RowKit
attribute [local go_sem] b_and b_or b_xor b_andNot b_low b_top b_most b_signed b_unsigned b_zero b_eq s_eq b_nzero b_neq s_neq b_max b_min s_max s_min
attribute [local go_sem ↓] Go.wp_at_zero Go.wp_at_succ

set_option maxRecDepth 100000 in
set_option maxHeartbeats 16000000 in
theorem asks_law (a b : Bd) (x : B) (n : Int) (w : World) : Calls Try.prog 4 #[.agg #[.int .u64 (U a.ul), .int .u64 (U a.uh), .int .i64 (S a.sl), .int .i64 (S a.sh), .int .u64 (U a.t.v), .int .u64 (U a.t.m)], .agg #[.int .u64 (U b.ul), .int .u64 (U b.uh), .int .i64 (S b.sl), .int .i64 (S b.sh), .int .u64 (U b.t.v), .int .u64 (U b.t.m)], .int .u64 (U x), .int .i64 n] w fun e w' => e = .returned (.bool true) ∧ Below w.heap.size w w' := by
  have HN := Lib.hid (St.ab w a b 26 26)
  have F := HN.out.f2
  have HV := Lib.hid (fun W => bvalue_any a W)
  have HU := Lib.hid (fun W => rbvalue_any a W)
  have HC := Lib.hid (fun W => bcheck_any a W)
  have HD := Lib.hid (fun W => rbcheck_any a W)
  have HI := Lib.hid (fun W => bin_any a x W)
  have HJ := Lib.hid (fun W => rbin_any a x W)
  have HP := Lib.hid (fun W => bwithin_any a b W)
  have HQ := Lib.hid (fun W => rbwithin_any a b W)
  have HK := Lib.hid (fun W => bconst_any x W)
  have HL := Lib.hid (fun W => rbconst_any x W)
  have HS := Lib.hid (fun W => bsize_any n W)
  have HT := Lib.hid (fun W => rbsize_any n W)
  generalize (bvalue a).1 = z at *
  generalize (bvalue a).2 = v at *
  generalize bcheck a = p at *
  generalize bin a x = q at *
  generalize bwithin a b = r at *
  generalize bconst x = c at *
  generalize bsize n = s at *
  have e1 := eq_self c
  have e2 := eq_self s
  have e3 : (v == v) = true := by simp
  have e4 : (p == p) = true := by simp
  have e5 : (q == q) = true := by simp
  have e6 : (r == r) = true := by simp
  have e7 : (z == z) = true := by simp
  go_enter Try.func4, Try.ntmps4
  go_wp2_with (first
    | (go_at_call 11; (with_reducible refine (HV.out _).mono ?_); rintro e w9 ⟨rfl, hb⟩; have H' := Lib.hid (HN.out.next hb); clear hb HN F HV; have HN := H'; clear H'; have F := HN.out.f2)
    | (go_at_call 18; (with_reducible refine (HU.out _).mono ?_); rintro e w9 ⟨rfl, hb⟩; have H' := Lib.hid (HN.out.next hb); clear hb HN F HU; have HN := H'; clear H'; have F := HN.out.f2))
  go_region_held3 (fun W => ((W.cell? ⟨(w.heap.size + 1), 0, none⟩ = some (.int .u64 (U b.ul)) ∧ W.cell? ⟨(w.heap.size + 1), 1, none⟩ = some (.int .u64 (U b.uh)) ∧ W.cell? ⟨(w.heap.size + 1), 2, none⟩ = some (.int .i64 (S b.sl)) ∧ W.cell? ⟨(w.heap.size + 1), 3, none⟩ = some (.int .i64 (S b.sh)) ∧ W.cell? ⟨(w.heap.size + 1), 4, none⟩ = some (.int .u64 (U b.t.v)) ∧ W.cell? ⟨(w.heap.size + 1), 5, none⟩ = some (.int .u64 (U b.t.m))) ∧ (w.heap.size + 1) < W.heap.size) ∧ (W.cell? ⟨w.heap.size, 0, none⟩ = some (.int .u64 (U a.ul)) ∧ W.cell? ⟨w.heap.size, 1, none⟩ = some (.int .u64 (U a.uh)) ∧ W.cell? ⟨w.heap.size, 2, none⟩ = some (.int .i64 (S a.sl)) ∧ W.cell? ⟨w.heap.size, 3, none⟩ = some (.int .i64 (S a.sh)) ∧ W.cell? ⟨w.heap.size, 4, none⟩ = some (.int .u64 (U a.t.v)) ∧ W.cell? ⟨w.heap.size, 5, none⟩ = some (.int .u64 (U a.t.m))) ∧ w.heap.size < W.heap.size)
    (first | with_reducible exact F | with_reducible exact HN.out.drew.f2)
    (first
    | (go_at_call 19; (with_reducible refine (HC.out _).mono ?_); rintro e w9 ⟨rfl, hb⟩; (first | have H' := Lib.hid (HN.out.next hb) | have H' := Lib.hid (HN.out.drew.next hb)); clear hb HN F; have HN := H'; clear H'; have F := HN.out.f2)
    | (go_at_call 20; (with_reducible refine (HD.out _).mono ?_); rintro e w9 ⟨rfl, hb⟩; (first | have H' := Lib.hid (HN.out.next hb) | have H' := Lib.hid (HN.out.drew.next hb)); clear hb HN F; have HN := H'; clear H'; have F := HN.out.f2)
    | (go_at_call 14; (with_reducible refine (HI.out _).mono ?_); rintro e w9 ⟨rfl, hb⟩; (first | have H' := Lib.hid (HN.out.next hb) | have H' := Lib.hid (HN.out.drew.next hb)); clear hb HN F; have HN := H'; clear H'; have F := HN.out.f2)
    | (go_at_call 21; (with_reducible refine (HJ.out _).mono ?_); rintro e w9 ⟨rfl, hb⟩; (first | have H' := Lib.hid (HN.out.next hb) | have H' := Lib.hid (HN.out.drew.next hb)); clear hb HN F; have HN := H'; clear H'; have F := HN.out.f2)
    | (go_at_call 15; (with_reducible refine (HP.out _).mono ?_); rintro e w9 ⟨rfl, hb⟩; (first | have H' := Lib.hid (HN.out.next hb) | have H' := Lib.hid (HN.out.drew.next hb)); clear hb HN F; have HN := H'; clear H'; have F := HN.out.f2)
    | (go_at_call 22; (with_reducible refine (HQ.out _).mono ?_); rintro e w9 ⟨rfl, hb⟩; (first | have H' := Lib.hid (HN.out.next hb) | have H' := Lib.hid (HN.out.drew.next hb)); clear hb HN F; have HN := H'; clear H'; have F := HN.out.f2)
    | (go_at_call 10; (with_reducible refine (HK.out _).mono ?_); rintro e w9 ⟨rfl, hb⟩; (first | have H' := Lib.hid (HN.out.next hb) | have H' := Lib.hid (HN.out.drew.next hb)); clear hb HN F; have HN := H'; clear H'; have F := HN.out.f2)
    | (go_at_call 23; (with_reducible refine (HL.out _).mono ?_); rintro e w9 ⟨rfl, hb⟩; (first | have H' := Lib.hid (HN.out.next hb) | have H' := Lib.hid (HN.out.drew.next hb)); clear hb HN F; have HN := H'; clear H'; have F := HN.out.f2)
    | (go_at_call 24; (with_reducible refine (HS.out _).mono ?_); rintro e w9 ⟨rfl, hb⟩; (first | have H' := Lib.hid (HN.out.next hb) | have H' := Lib.hid (HN.out.drew.next hb)); clear hb HN F; have HN := H'; clear H'; have F := HN.out.f2)
    | (go_at_call 25; (with_reducible refine (HT.out _).mono ?_); rintro e w9 ⟨rfl, hb⟩; (first | have H' := Lib.hid (HN.out.next hb) | have H' := Lib.hid (HN.out.drew.next hb)); clear hb HN F; have HN := H'; clear H'; have F := HN.out.f2)
    | (go_at_call 17; (with_reducible refine (heads_any _).mono ?_); rintro e w9 ⟨rfl, hb⟩; (first | have H' := Lib.hid (HN.out.next hb) | have H' := Lib.hid (HN.out.drew.next hb)); clear hb HN F; have HN := H'; clear H'; have F := HN.out.f2))
  all_goals
    go_wp2
    go_ret
    exact ⟨rfl, HN.out.low⟩
end Go.Proofs.Ytaolcmmdefchmaa
