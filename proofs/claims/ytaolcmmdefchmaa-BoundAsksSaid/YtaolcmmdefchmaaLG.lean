/- Bounds: the law on tidying, joining, meeting, cutting, held against the document's own. -/
import Derived.Test.YtaolcmmdefchmaaLF
namespace Go.Proofs.Ytaolcmmdefchmaa
open Go.RowKit
attribute [local go_sem] b_and b_or b_xor b_andNot b_low b_top b_most b_signed b_unsigned b_zero b_eq s_eq b_nzero b_neq s_neq b_max b_min s_max s_min
attribute [local go_sem ↓] Go.wp_at_zero Go.wp_at_succ

theorem St.f5 {w W : World} {n m k j i : Nat} {a b c d e : Bd} {l : List (Nat × Bd)} (h : St w W ((n, a) :: (m, b) :: (k, c) :: (j, d) :: (i, e) :: l)) : ((W.cell? ⟨n, 0, none⟩ = some (.int .u64 (U a.ul)) ∧ W.cell? ⟨n, 1, none⟩ = some (.int .u64 (U a.uh)) ∧ W.cell? ⟨n, 2, none⟩ = some (.int .i64 (S a.sl)) ∧ W.cell? ⟨n, 3, none⟩ = some (.int .i64 (S a.sh)) ∧ W.cell? ⟨n, 4, none⟩ = some (.int .u64 (U a.t.v)) ∧ W.cell? ⟨n, 5, none⟩ = some (.int .u64 (U a.t.m))) ∧ n < W.heap.size) ∧ ((W.cell? ⟨m, 0, none⟩ = some (.int .u64 (U b.ul)) ∧ W.cell? ⟨m, 1, none⟩ = some (.int .u64 (U b.uh)) ∧ W.cell? ⟨m, 2, none⟩ = some (.int .i64 (S b.sl)) ∧ W.cell? ⟨m, 3, none⟩ = some (.int .i64 (S b.sh)) ∧ W.cell? ⟨m, 4, none⟩ = some (.int .u64 (U b.t.v)) ∧ W.cell? ⟨m, 5, none⟩ = some (.int .u64 (U b.t.m))) ∧ m < W.heap.size) ∧ ((W.cell? ⟨k, 0, none⟩ = some (.int .u64 (U c.ul)) ∧ W.cell? ⟨k, 1, none⟩ = some (.int .u64 (U c.uh)) ∧ W.cell? ⟨k, 2, none⟩ = some (.int .i64 (S c.sl)) ∧ W.cell? ⟨k, 3, none⟩ = some (.int .i64 (S c.sh)) ∧ W.cell? ⟨k, 4, none⟩ = some (.int .u64 (U c.t.v)) ∧ W.cell? ⟨k, 5, none⟩ = some (.int .u64 (U c.t.m))) ∧ k < W.heap.size) ∧ ((W.cell? ⟨j, 0, none⟩ = some (.int .u64 (U d.ul)) ∧ W.cell? ⟨j, 1, none⟩ = some (.int .u64 (U d.uh)) ∧ W.cell? ⟨j, 2, none⟩ = some (.int .i64 (S d.sl)) ∧ W.cell? ⟨j, 3, none⟩ = some (.int .i64 (S d.sh)) ∧ W.cell? ⟨j, 4, none⟩ = some (.int .u64 (U d.t.v)) ∧ W.cell? ⟨j, 5, none⟩ = some (.int .u64 (U d.t.m))) ∧ j < W.heap.size) ∧ (W.cell? ⟨i, 0, none⟩ = some (.int .u64 (U e.ul)) ∧ W.cell? ⟨i, 1, none⟩ = some (.int .u64 (U e.uh)) ∧ W.cell? ⟨i, 2, none⟩ = some (.int .i64 (S e.sl)) ∧ W.cell? ⟨i, 3, none⟩ = some (.int .i64 (S e.sh)) ∧ W.cell? ⟨i, 4, none⟩ = some (.int .u64 (U e.t.v)) ∧ W.cell? ⟨i, 5, none⟩ = some (.int .u64 (U e.t.m))) ∧ i < W.heap.size := ⟨h.f1, h.weak.f4⟩
theorem St.f6 {w W : World} {n m k j i h : Nat} {a b c d e f : Bd} {l : List (Nat × Bd)} (H : St w W ((n, a) :: (m, b) :: (k, c) :: (j, d) :: (i, e) :: (h, f) :: l)) : ((W.cell? ⟨n, 0, none⟩ = some (.int .u64 (U a.ul)) ∧ W.cell? ⟨n, 1, none⟩ = some (.int .u64 (U a.uh)) ∧ W.cell? ⟨n, 2, none⟩ = some (.int .i64 (S a.sl)) ∧ W.cell? ⟨n, 3, none⟩ = some (.int .i64 (S a.sh)) ∧ W.cell? ⟨n, 4, none⟩ = some (.int .u64 (U a.t.v)) ∧ W.cell? ⟨n, 5, none⟩ = some (.int .u64 (U a.t.m))) ∧ n < W.heap.size) ∧ ((W.cell? ⟨m, 0, none⟩ = some (.int .u64 (U b.ul)) ∧ W.cell? ⟨m, 1, none⟩ = some (.int .u64 (U b.uh)) ∧ W.cell? ⟨m, 2, none⟩ = some (.int .i64 (S b.sl)) ∧ W.cell? ⟨m, 3, none⟩ = some (.int .i64 (S b.sh)) ∧ W.cell? ⟨m, 4, none⟩ = some (.int .u64 (U b.t.v)) ∧ W.cell? ⟨m, 5, none⟩ = some (.int .u64 (U b.t.m))) ∧ m < W.heap.size) ∧ ((W.cell? ⟨k, 0, none⟩ = some (.int .u64 (U c.ul)) ∧ W.cell? ⟨k, 1, none⟩ = some (.int .u64 (U c.uh)) ∧ W.cell? ⟨k, 2, none⟩ = some (.int .i64 (S c.sl)) ∧ W.cell? ⟨k, 3, none⟩ = some (.int .i64 (S c.sh)) ∧ W.cell? ⟨k, 4, none⟩ = some (.int .u64 (U c.t.v)) ∧ W.cell? ⟨k, 5, none⟩ = some (.int .u64 (U c.t.m))) ∧ k < W.heap.size) ∧ ((W.cell? ⟨j, 0, none⟩ = some (.int .u64 (U d.ul)) ∧ W.cell? ⟨j, 1, none⟩ = some (.int .u64 (U d.uh)) ∧ W.cell? ⟨j, 2, none⟩ = some (.int .i64 (S d.sl)) ∧ W.cell? ⟨j, 3, none⟩ = some (.int .i64 (S d.sh)) ∧ W.cell? ⟨j, 4, none⟩ = some (.int .u64 (U d.t.v)) ∧ W.cell? ⟨j, 5, none⟩ = some (.int .u64 (U d.t.m))) ∧ j < W.heap.size) ∧ ((W.cell? ⟨i, 0, none⟩ = some (.int .u64 (U e.ul)) ∧ W.cell? ⟨i, 1, none⟩ = some (.int .u64 (U e.uh)) ∧ W.cell? ⟨i, 2, none⟩ = some (.int .i64 (S e.sl)) ∧ W.cell? ⟨i, 3, none⟩ = some (.int .i64 (S e.sh)) ∧ W.cell? ⟨i, 4, none⟩ = some (.int .u64 (U e.t.v)) ∧ W.cell? ⟨i, 5, none⟩ = some (.int .u64 (U e.t.m))) ∧ i < W.heap.size) ∧ (W.cell? ⟨h, 0, none⟩ = some (.int .u64 (U f.ul)) ∧ W.cell? ⟨h, 1, none⟩ = some (.int .u64 (U f.uh)) ∧ W.cell? ⟨h, 2, none⟩ = some (.int .i64 (S f.sl)) ∧ W.cell? ⟨h, 3, none⟩ = some (.int .i64 (S f.sh)) ∧ W.cell? ⟨h, 4, none⟩ = some (.int .u64 (U f.t.v)) ∧ W.cell? ⟨h, 5, none⟩ = some (.int .u64 (U f.t.m))) ∧ h < W.heap.size := ⟨H.f1, H.weak.f5⟩
theorem St.ab (w : World) (a b : Bd) (t t' : TypeId) : St w ((w.alloc (.cells #[.int .u64 (U a.ul), .int .u64 (U a.uh), .int .i64 (S a.sl), .int .i64 (S a.sh), .int .u64 (U a.t.v), .int .u64 (U a.t.m)] t)).alloc (.cells #[.int .u64 (U b.ul), .int .u64 (U b.uh), .int .i64 (S b.sl), .int .i64 (S b.sh), .int .u64 (U b.t.v), .int .u64 (U b.t.m)] t')) [(w.heap.size + 1, b), (w.heap.size, a)] := by
  have h := ((St.start w).new a t).new b t'
  rwa [World.size_alloc] at h
theorem tidyV_ex (o : Option Bd) : ∃ (c : Bd) (v : Bool), tidyV o = .tuple #[.agg #[.int .u64 (U c.ul), .int .u64 (U c.uh), .int .i64 (S c.sl), .int .i64 (S c.sh), .int .u64 (U c.t.v), .int .u64 (U c.t.m)], .bool v] := by
  cases o with
  | none => exact ⟨bzero, false, rfl⟩
  | some c => exact ⟨c, true, rfl⟩
theorem eq_self (c : Bd) (w : World) : (binOp .eql 26 (.agg #[.int .u64 (U c.ul), .int .u64 (U c.uh), .int .i64 (S c.sl), .int .i64 (S c.sh), .int .u64 (U c.t.v), .int .u64 (U c.t.m)]) (.agg #[.int .u64 (U c.ul), .int .u64 (U c.uh), .int .i64 (S c.sl), .int .i64 (S c.sh), .int .u64 (U c.t.v), .int .u64 (U c.t.m)])).run Try.prog w = .ok (.bool true) w := by
  have h := eqD c c w
  rwa [decide_eq_true (rfl : c = c)] at h
set_option maxRecDepth 100000 in
set_option maxHeartbeats 4000000 in
theorem moves_law (a b : Bd) (w : World) : Calls Try.prog 5 #[.agg #[.int .u64 (U a.ul), .int .u64 (U a.uh), .int .i64 (S a.sl), .int .i64 (S a.sh), .int .u64 (U a.t.v), .int .u64 (U a.t.m)], .agg #[.int .u64 (U b.ul), .int .u64 (U b.uh), .int .i64 (S b.sl), .int .i64 (S b.sh), .int .u64 (U b.t.v), .int .u64 (U b.t.m)]] w fun e w' => e = .returned (.bool true) ∧ Below w.heap.size w w' := by
  have HN := Lib.hid (St.ab w a b 26 26)
  have F := HN.out.f2
  have HT := Lib.hid (fun W => btidy_any a W)
  have HU := Lib.hid (fun W => rtidy_any a W)
  have HM := Lib.hid (fun W => bmeet_any a b W)
  have HR := Lib.hid (fun W => rbmeet_any a b W)
  have HJ := Lib.hid (fun W => bjoin_any a b W)
  have HK := Lib.hid (fun W => rbjoin_any a b W)
  have HL := Lib.hid (fun W => blow_any a W)
  have HO := Lib.hid (fun W => rblow_any a W)
  obtain ⟨t, v, ht⟩ := tidyV_ex (tidy a)
  obtain ⟨m, u, hm⟩ := tidyV_ex (bmeet a b)
  rw [ht] at HT HU
  rw [hm] at HM HR
  generalize bjoin a b = j at *
  generalize blow a = l at *
  clear ht hm
  have e1 := eq_self t
  have e2 := eq_self m
  have e3 := eq_self j
  have e4 := eq_self l
  have e5 : (v == v) = true := by simp
  have e6 : (u == u) = true := by simp
  go_enter Try.func5, Try.ntmps5
  go_wp2_with (first
    | (go_at_call 12; (with_reducible refine (HT.out _).mono ?_); rintro e w1 ⟨rfl, hb⟩; have H' := Lib.hid ((HN.out.next hb).new t 26); clear hb HN F HT; have HN := H'; clear H'; have F := HN.out.f3)
    | (go_at_call 26; (with_reducible refine (HU.out _).mono ?_); rintro e w2 ⟨rfl, hb⟩; have H' := Lib.hid ((HN.out.next hb).new t 26); clear hb HN F HU; have HN := H'; clear H'; have F := HN.out.f4)
    | (go_at_call 27; (with_reducible refine (HM.out _).mono ?_); rintro e w3 ⟨rfl, hb⟩; have H' := Lib.hid ((HN.out.next hb).new m 26); clear hb HN F HM; have HN := H'; clear H'; have F := HN.out.f5)
    | (go_at_call 28; (with_reducible refine (HR.out _).mono ?_); rintro e w4 ⟨rfl, hb⟩; have H' := Lib.hid ((HN.out.next hb).new m 26); clear hb HN F HR; have HN := H'; clear H'; have F := HN.out.f6))
  go_region_held3 (fun W => ((W.cell? ⟨w4.heap.size, 0, none⟩ = some (.int .u64 (U m.ul)) ∧ W.cell? ⟨w4.heap.size, 1, none⟩ = some (.int .u64 (U m.uh)) ∧ W.cell? ⟨w4.heap.size, 2, none⟩ = some (.int .i64 (S m.sl)) ∧ W.cell? ⟨w4.heap.size, 3, none⟩ = some (.int .i64 (S m.sh)) ∧ W.cell? ⟨w4.heap.size, 4, none⟩ = some (.int .u64 (U m.t.v)) ∧ W.cell? ⟨w4.heap.size, 5, none⟩ = some (.int .u64 (U m.t.m))) ∧ w4.heap.size < W.heap.size) ∧ ((W.cell? ⟨w3.heap.size, 0, none⟩ = some (.int .u64 (U m.ul)) ∧ W.cell? ⟨w3.heap.size, 1, none⟩ = some (.int .u64 (U m.uh)) ∧ W.cell? ⟨w3.heap.size, 2, none⟩ = some (.int .i64 (S m.sl)) ∧ W.cell? ⟨w3.heap.size, 3, none⟩ = some (.int .i64 (S m.sh)) ∧ W.cell? ⟨w3.heap.size, 4, none⟩ = some (.int .u64 (U m.t.v)) ∧ W.cell? ⟨w3.heap.size, 5, none⟩ = some (.int .u64 (U m.t.m))) ∧ w3.heap.size < W.heap.size) ∧ ((W.cell? ⟨w2.heap.size, 0, none⟩ = some (.int .u64 (U t.ul)) ∧ W.cell? ⟨w2.heap.size, 1, none⟩ = some (.int .u64 (U t.uh)) ∧ W.cell? ⟨w2.heap.size, 2, none⟩ = some (.int .i64 (S t.sl)) ∧ W.cell? ⟨w2.heap.size, 3, none⟩ = some (.int .i64 (S t.sh)) ∧ W.cell? ⟨w2.heap.size, 4, none⟩ = some (.int .u64 (U t.t.v)) ∧ W.cell? ⟨w2.heap.size, 5, none⟩ = some (.int .u64 (U t.t.m))) ∧ w2.heap.size < W.heap.size) ∧ ((W.cell? ⟨w1.heap.size, 0, none⟩ = some (.int .u64 (U t.ul)) ∧ W.cell? ⟨w1.heap.size, 1, none⟩ = some (.int .u64 (U t.uh)) ∧ W.cell? ⟨w1.heap.size, 2, none⟩ = some (.int .i64 (S t.sl)) ∧ W.cell? ⟨w1.heap.size, 3, none⟩ = some (.int .i64 (S t.sh)) ∧ W.cell? ⟨w1.heap.size, 4, none⟩ = some (.int .u64 (U t.t.v)) ∧ W.cell? ⟨w1.heap.size, 5, none⟩ = some (.int .u64 (U t.t.m))) ∧ w1.heap.size < W.heap.size) ∧ ((W.cell? ⟨(w.heap.size + 1), 0, none⟩ = some (.int .u64 (U b.ul)) ∧ W.cell? ⟨(w.heap.size + 1), 1, none⟩ = some (.int .u64 (U b.uh)) ∧ W.cell? ⟨(w.heap.size + 1), 2, none⟩ = some (.int .i64 (S b.sl)) ∧ W.cell? ⟨(w.heap.size + 1), 3, none⟩ = some (.int .i64 (S b.sh)) ∧ W.cell? ⟨(w.heap.size + 1), 4, none⟩ = some (.int .u64 (U b.t.v)) ∧ W.cell? ⟨(w.heap.size + 1), 5, none⟩ = some (.int .u64 (U b.t.m))) ∧ (w.heap.size + 1) < W.heap.size) ∧ (W.cell? ⟨w.heap.size, 0, none⟩ = some (.int .u64 (U a.ul)) ∧ W.cell? ⟨w.heap.size, 1, none⟩ = some (.int .u64 (U a.uh)) ∧ W.cell? ⟨w.heap.size, 2, none⟩ = some (.int .i64 (S a.sl)) ∧ W.cell? ⟨w.heap.size, 3, none⟩ = some (.int .i64 (S a.sh)) ∧ W.cell? ⟨w.heap.size, 4, none⟩ = some (.int .u64 (U a.t.v)) ∧ W.cell? ⟨w.heap.size, 5, none⟩ = some (.int .u64 (U a.t.m))) ∧ w.heap.size < W.heap.size)
    (first | with_reducible exact F | with_reducible exact HN.out.drew.f6)
    (first
    | (go_at_call 16; (with_reducible refine (HJ.out _).mono ?_); rintro e w9 ⟨rfl, hb⟩; (first | have H' := Lib.hid (HN.out.next hb) | have H' := Lib.hid (HN.out.drew.next hb)); clear hb HN F; have HN := H'; clear H'; have F := HN.out.f6)
    | (go_at_call 29; (with_reducible refine (HK.out _).mono ?_); rintro e w9 ⟨rfl, hb⟩; (first | have H' := Lib.hid (HN.out.next hb) | have H' := Lib.hid (HN.out.drew.next hb)); clear hb HN F; have HN := H'; clear H'; have F := HN.out.f6)
    | (go_at_call 30; (with_reducible refine (HL.out _).mono ?_); rintro e w9 ⟨rfl, hb⟩; (first | have H' := Lib.hid (HN.out.next hb) | have H' := Lib.hid (HN.out.drew.next hb)); clear hb HN F; have HN := H'; clear H'; have F := HN.out.f6)
    | (go_at_call 31; (with_reducible refine (HO.out _).mono ?_); rintro e w9 ⟨rfl, hb⟩; (first | have H' := Lib.hid (HN.out.next hb) | have H' := Lib.hid (HN.out.drew.next hb)); clear hb HN F; have HN := H'; clear H'; have F := HN.out.f6)
    | (go_at_call 17; (with_reducible refine (heads_any _).mono ?_); rintro e w9 ⟨rfl, hb⟩; (first | have H' := Lib.hid (HN.out.next hb) | have H' := Lib.hid (HN.out.drew.next hb)); clear hb HN F; have HN := H'; clear H'; have F := HN.out.f6))
  all_goals
    go_wp2
    go_ret
    exact ⟨rfl, HN.out.low⟩
end Go.Proofs.Ytaolcmmdefchmaa
