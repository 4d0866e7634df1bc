/- Known bits: sums and differences, bit by bit. -/
import Derived.Test.YticjhcbkkkkckaaNA
namespace Go.Proofs.Yticjhcbkkkkckaa
open Go.RowKit
attribute [local go_sem] b_and b_or b_xor b_andNot b_low b_top b_most b_signed b_unsigned b_zero b_eq s_eq b_nzero b_neq s_neq b_max b_min s_max s_min
attribute [local go_sem ↓] Go.wp_at_zero Go.wp_at_succ
attribute [local go_sem] b_add b_sub b_mul b_neg b_two

theorem add_left (x y z : B) : x + (y + z) = y + (x + z) := by rw [← BitVec.add_assoc, BitVec.add_comm x y, BitVec.add_assoc]
theorem rtadd_any (a b : Tn) (w : World) : Calls Try.prog 85 #[.agg #[.int .u64 (U a.v), .int .u64 (U a.m)], .agg #[.int .u64 (U b.v), .int .u64 (U b.m)]] w fun e w' => e = .returned (.agg #[.int .u64 (U (tadd a b).v), .int .u64 (U (tadd a b).m)]) ∧ Below w.heap.size w w' := by
  have H := Lib.hid (fun W => rof_any (a.v + b.v) ((a.m + b.m + (a.v + b.v)) ^^^ (a.v + b.v) ||| a.m ||| b.m) W)
  have HE : Hid (tof (a.v + b.v) ((a.m + b.m + (a.v + b.v)) ^^^ (a.v + b.v) ||| a.m ||| b.m) = tadd a b) := Lib.hid rfl
  rw [HE.out] at H
  clear HE
  generalize tadd a b = y at *
  go_enter Try.func85, Try.ntmps85
  go_wp2_with (go_at_call 102; refine (H.out _).mono ?_; rintro e w1 ⟨rfl, hb⟩; have B1 := Lib.hid (bl3 hb); have K1 := bcell hb; clear hb)
  have hz := B1.out.2
  exact bodyPost_ret (v := .agg #[.int .u64 (U y.v), .int .u64 (U y.m)]) (by simp [results, Try.results85, go_sem, K1]) rfl ⟨rfl, (B1.out.1.setCell (by simp; omega) _).setCell (by simp; omega) _⟩
theorem rtsub_any (a b : Tn) (w : World) : Calls Try.prog 87 #[.agg #[.int .u64 (U a.v), .int .u64 (U a.m)], .agg #[.int .u64 (U b.v), .int .u64 (U b.m)]] w fun e w' => e = .returned (.agg #[.int .u64 (U (tsub a b).v), .int .u64 (U (tsub a b).m)]) ∧ Below w.heap.size w w' := by
  have H := Lib.hid (fun W => rof_any (a.v - b.v) ((a.v - b.v + a.m) ^^^ (a.v - b.v - b.m) ||| a.m ||| b.m) W)
  have HE : Hid (tof (a.v - b.v) ((a.v - b.v + a.m) ^^^ (a.v - b.v - b.m) ||| a.m ||| b.m) = tsub a b) := Lib.hid rfl
  rw [HE.out] at H
  clear HE
  generalize tsub a b = y at *
  go_enter Try.func87, Try.ntmps87
  go_wp2_with (go_at_call 102; refine (H.out _).mono ?_; rintro e w1 ⟨rfl, hb⟩; have B1 := Lib.hid (bl3 hb); have K1 := bcell hb; clear hb)
  have hz := B1.out.2
  exact bodyPost_ret (v := .agg #[.int .u64 (U y.v), .int .u64 (U y.m)]) (by simp [results, Try.results87, go_sem, K1]) rfl ⟨rfl, (B1.out.1.setCell (by simp; omega) _).setCell (by simp; omega) _⟩
theorem rtxor_any (a b : Tn) (w : World) : Calls Try.prog 92 #[.agg #[.int .u64 (U a.v), .int .u64 (U a.m)], .agg #[.int .u64 (U b.v), .int .u64 (U b.m)]] w fun e w' => e = .returned (.agg #[.int .u64 (U (txor a b).v), .int .u64 (U (txor a b).m)]) ∧ Below w.heap.size w w' := by
  have H := Lib.hid (fun W => rof_any (a.v ^^^ b.v) (a.m ||| b.m) W)
  have HE : Hid (tof (a.v ^^^ b.v) (a.m ||| b.m) = txor a b) := Lib.hid rfl
  rw [HE.out] at H
  clear HE
  generalize txor a b = y at *
  go_enter Try.func92, Try.ntmps92
  go_wp2_with (go_at_call 102; refine (H.out _).mono ?_; rintro e w1 ⟨rfl, hb⟩; have B1 := Lib.hid (bl3 hb); have K1 := bcell hb; clear hb)
  have hz := B1.out.2
  exact bodyPost_ret (v := .agg #[.int .u64 (U y.v), .int .u64 (U y.m)]) (by simp [results, Try.results92, go_sem, K1]) rfl ⟨rfl, (B1.out.1.setCell (by simp; omega) _).setCell (by simp; omega) _⟩
theorem txor_any (a b : Tn) (w : World) : Calls Try.prog 71 #[.agg #[.int .u64 (U a.v), .int .u64 (U a.m)], .agg #[.int .u64 (U b.v), .int .u64 (U b.m)]] w fun e w' => e = .returned (.agg #[.int .u64 (U (txor a b).v), .int .u64 (U (txor a b).m)]) ∧ Below w.heap.size w w' := by
  have H := Lib.hid (fun W => partly_any (a.v ^^^ b.v) (a.m ||| b.m) W)
  have HE : Hid (tof (a.v ^^^ b.v) (a.m ||| b.m) = txor a b) := Lib.hid rfl
  rw [HE.out] at H
  clear HE
  generalize txor a b = y at *
  go_enter Try.func71, Try.ntmps71
  go_wp2_with (go_at_call 77; refine (H.out _).mono ?_; rintro e w1 ⟨rfl, hb⟩; have B1 := Lib.hid (bl3 hb); have K1 := bcell hb; clear hb)
  have hz := B1.out.2
  exact bodyPost_ret (v := .agg #[.int .u64 (U y.v), .int .u64 (U y.m)]) (by simp [results, Try.results71, go_sem, K1]) rfl ⟨rfl, (B1.out.1.setCell (by simp; omega) _).setCell (by simp; omega) _⟩
theorem rtand_any (a b : Tn) (w : World) : Calls Try.prog 90 #[.agg #[.int .u64 (U a.v), .int .u64 (U a.m)], .agg #[.int .u64 (U b.v), .int .u64 (U b.m)]] w fun e w' => e = .returned (.agg #[.int .u64 (U (tand a b).v), .int .u64 (U (tand a b).m)]) ∧ Below w.heap.size w w' := by
  go_enter Try.func90, Try.ntmps90
  go_wp2_with fail
  exact bodyPost_ret (v := .agg #[.int .u64 (U (tand a b).v), .int .u64 (U (tand a b).m)]) (by simp [results, Try.results90, go_sem, tand]) rfl ⟨rfl, b3⟩
theorem rtor_any (a b : Tn) (w : World) : Calls Try.prog 91 #[.agg #[.int .u64 (U a.v), .int .u64 (U a.m)], .agg #[.int .u64 (U b.v), .int .u64 (U b.m)]] w fun e w' => e = .returned (.agg #[.int .u64 (U (tor a b).v), .int .u64 (U (tor a b).m)]) ∧ Below w.heap.size w w' := by
  go_enter Try.func91, Try.ntmps91
  go_wp2_with fail
  exact bodyPost_ret (v := .agg #[.int .u64 (U (tor a b).v), .int .u64 (U (tor a b).m)]) (by simp [results, Try.results91, go_sem, tor]) rfl ⟨rfl, b3⟩
theorem tand_any (a b : Tn) (w : World) : Calls Try.prog 69 #[.agg #[.int .u64 (U a.v), .int .u64 (U a.m)], .agg #[.int .u64 (U b.v), .int .u64 (U b.m)]] w fun e w' => e = .returned (.agg #[.int .u64 (U (tand a b).v), .int .u64 (U (tand a b).m)]) ∧ Below w.heap.size w w' := by
  go_enter Try.func69, Try.ntmps69
  go_wp2_with fail
  exact bodyPost_ret (v := .agg #[.int .u64 (U (tand a b).v), .int .u64 (U (tand a b).m)]) (by simp [results, Try.results69, go_sem, tand]) rfl ⟨rfl, b3⟩
theorem tor_any (a b : Tn) (w : World) : Calls Try.prog 70 #[.agg #[.int .u64 (U a.v), .int .u64 (U a.m)], .agg #[.int .u64 (U b.v), .int .u64 (U b.m)]] w fun e w' => e = .returned (.agg #[.int .u64 (U (tor a b).v), .int .u64 (U (tor a b).m)]) ∧ Below w.heap.size w w' := by
  go_enter Try.func70, Try.ntmps70
  go_wp2_with fail
  exact bodyPost_ret (v := .agg #[.int .u64 (U (tor a b).v), .int .u64 (U (tor a b).m)]) (by simp [results, Try.results70, go_sem, tor]) rfl ⟨rfl, b3⟩
theorem carried_any (x c : B) (a b : Tn) (w : World) : Calls Try.prog 94 #[.int .u64 (U x), .int .u64 (U c), .agg #[.int .u64 (U a.v), .int .u64 (U a.m)], .agg #[.int .u64 (U b.v), .int .u64 (U b.m)]] w fun e w' => e = .returned (.agg #[.int .u64 (U (tof x (c ||| a.m ||| b.m)).v), .int .u64 (U (tof x (c ||| a.m ||| b.m)).m)]) ∧ Below w.heap.size w w' := by
  have H := Lib.hid (fun W => partly_any x (c ||| a.m ||| b.m) W)
  generalize tof x (c ||| a.m ||| b.m) = y at *
  go_enter Try.func94, Try.ntmps94
  go_wp2_with (go_at_call 77; refine (H.out _).mono ?_; rintro e w1 ⟨rfl, hb⟩; have B1 := Lib.hid (bl3 hb); have K1 := bcell hb; clear hb)
  have hz := B1.out.2
  exact bodyPost_ret (v := .agg #[.int .u64 (U y.v), .int .u64 (U y.m)]) (by simp [results, Try.results94, go_sem, K1]) rfl ⟨rfl, (B1.out.1.setCell (by simp; omega) _).setCell (by simp; omega) _⟩
theorem tadd_any (a b : Tn) (w : World) : Calls Try.prog 61 #[.agg #[.int .u64 (U a.v), .int .u64 (U a.m)], .agg #[.int .u64 (U b.v), .int .u64 (U b.m)]] w fun e w' => e = .returned (.agg #[.int .u64 (U (tadd a b).v), .int .u64 (U (tadd a b).m)]) ∧ Below w.heap.size w w' := by
  have H := Lib.hid (fun W => carried_any (a.v + b.v) ((a.v + b.v) ^^^ (a.v + b.v + a.m + b.m)) a b W)
  have HE : Hid (tof (a.v + b.v) ((a.v + b.v) ^^^ (a.v + b.v + a.m + b.m) ||| a.m ||| b.m) = tadd a b) := Lib.hid (by simp only [tadd, BitVec.xor_comm, BitVec.add_comm, BitVec.add_assoc, add_left])
  rw [HE.out] at H
  clear HE
  generalize tadd a b = y at *
  go_enter Try.func61, Try.ntmps61
  go_wp2_with (go_at_call 94; refine (H.out _).mono ?_; rintro e w1 ⟨rfl, hb⟩; have B1 := Lib.hid (bl3 hb); have K1 := bcell hb; clear hb)
  have hz := B1.out.2
  exact bodyPost_ret (v := .agg #[.int .u64 (U y.v), .int .u64 (U y.m)]) (by simp [results, Try.results61, go_sem, K1]) rfl ⟨rfl, (B1.out.1.setCell (by simp; omega) _).setCell (by simp; omega) _⟩
theorem tsub_any (a b : Tn) (w : World) : Calls Try.prog 64 #[.agg #[.int .u64 (U a.v), .int .u64 (U a.m)], .agg #[.int .u64 (U b.v), .int .u64 (U b.m)]] w fun e w' => e = .returned (.agg #[.int .u64 (U (tsub a b).v), .int .u64 (U (tsub a b).m)]) ∧ Below w.heap.size w w' := by
  have H := Lib.hid (fun W => carried_any (a.v - b.v) ((a.v - b.v + a.m) ^^^ (a.v - b.v - b.m)) a b W)
  have HE : Hid (tof (a.v - b.v) ((a.v - b.v + a.m) ^^^ (a.v - b.v - b.m) ||| a.m ||| b.m) = tsub a b) := Lib.hid rfl
  rw [HE.out] at H
  clear HE
  generalize tsub a b = y at *
  go_enter Try.func64, Try.ntmps64
  go_wp2_with (go_at_call 94; refine (H.out _).mono ?_; rintro e w1 ⟨rfl, hb⟩; have B1 := Lib.hid (bl3 hb); have K1 := bcell hb; clear hb)
  have hz := B1.out.2
  exact bodyPost_ret (v := .agg #[.int .u64 (U y.v), .int .u64 (U y.m)]) (by simp [results, Try.results64, go_sem, K1]) rfl ⟨rfl, (B1.out.1.setCell (by simp; omega) _).setCell (by simp; omega) _⟩
end Go.Proofs.Yticjhcbkkkkckaa
