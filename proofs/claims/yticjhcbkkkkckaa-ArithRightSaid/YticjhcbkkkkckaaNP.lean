/- Bounds: the document's own tidying, and its answers for words of 64 bits. -/
import Derived.Test.YticjhcbkkkkckaaNJ
import Derived.Test.YticjhcbkkkkckaaNK
import Derived.Test.YticjhcbkkkkckaaNK2
import Derived.Test.YticjhcbkkkkckaaNL
import Derived.Test.YticjhcbkkkkckaaNM
namespace Go.Proofs.Yticjhcbkkkkckaa
open Go.RowKit
attribute [local go_sem] b_and b_or b_xor b_andNot b_low b_top b_most b_signed b_unsigned b_zero b_eq s_eq b_nzero b_neq s_neq b_max b_min s_max s_min
attribute [local go_sem ↓] Go.wp_at_zero Go.wp_at_succ

theorem rtidyA_any (b : Bd) (w : World) : Calls Try.prog 21 #[.agg #[.int .u64 (U b.ul), .int .u64 (U b.uh), .int .i64 (S b.sl), .int .i64 (S b.sh), .int .u64 (U b.t.v), .int .u64 (U b.t.m)]] w fun e w' => e = .returned (.agg #[.int .u64 (U (tidyA b).ul), .int .u64 (U (tidyA b).uh), .int .i64 (S (tidyA b).sl), .int .i64 (S (tidyA b).sh), .int .u64 (U (tidyA b).t.v), .int .u64 (U (tidyA b).t.m)]) ∧ Below w.heap.size w w' := by
  have HT := Lib.hid (fun W => rtidy_any b W)
  have HA := Lib.hid (fun W => rbany_any W)
  unfold tidyA
  generalize tidy b = o at *
  cases o with
  | none =>
    show Calls Try.prog 21 #[.agg #[.int .u64 (U b.ul), .int .u64 (U b.uh), .int .i64 (S b.sl), .int .i64 (S b.sh), .int .u64 (U b.t.v), .int .u64 (U b.t.m)]] w fun e w' => e = .returned (.agg #[.int .u64 (U bany.ul), .int .u64 (U bany.uh), .int .i64 (S bany.sl), .int .i64 (S bany.sh), .int .u64 (U bany.t.v), .int .u64 (U bany.t.m)]) ∧ Below w.heap.size w w'
    generalize bany = ca at *
    simp only [tidyV] at HT
    go_enter Try.func21, Try.ntmps21
    go_wp2_with (first
      | (go_at_call 15; (with_reducible refine (HA.out _).mono ?_); rintro e w2 ⟨rfl, hb⟩; have B2 := Lib.hid (bnext B1.out (bl1 hb).1); have z1 := X2.out.lt; have z2 := size_2 hb; have q2 := (X2.out.next (bl1 hb).1).six0; clear hb p2)
      | (go_at_call 50; (with_reducible refine (HT.out _).mono ?_); rintro e w1 ⟨rfl, hb⟩; have B1 := Lib.hid (bl2 hb).1; have X2 := Lib.hid ((box_z2 w _ _).next hb); clear hb; have p2 := X2.out.six0))
    exact bodyPost_ret (by simp [results, Try.results21, go_sem, q2]) rfl ⟨rfl, by repeat (first | with_reducible exact B2.out | with_reducible refine Below.setCell ?_ (by first | (simp; omega) | simp) _)⟩
  | some c =>
    show Calls Try.prog 21 #[.agg #[.int .u64 (U b.ul), .int .u64 (U b.uh), .int .i64 (S b.sl), .int .i64 (S b.sh), .int .u64 (U b.t.v), .int .u64 (U b.t.m)]] w fun e w' => e = .returned (.agg #[.int .u64 (U c.ul), .int .u64 (U c.uh), .int .i64 (S c.sl), .int .i64 (S c.sh), .int .u64 (U c.t.v), .int .u64 (U c.t.m)]) ∧ Below w.heap.size w w'
    simp only [tidyV] at HT
    go_enter Try.func21, Try.ntmps21
    go_wp2_with (go_at_call 50; (with_reducible refine (HT.out _).mono ?_); rintro e w1 ⟨rfl, hb⟩; have B1 := Lib.hid (bl2 hb).1; have X2 := Lib.hid ((box_z2 w _ _).next hb); clear hb; have s1 := X2.out.lt; have p2 := X2.out.six0)
    exact bodyPost_ret (by simp [results, Try.results21, go_sem, p2]) rfl ⟨rfl, by repeat (first | with_reducible exact B1.out | with_reducible refine Below.setCell ?_ (by first | (simp; omega) | simp) _ | with_reducible refine Below.alloc ?_ (by have := B1.out.size; simp; omega) _)⟩
set_option maxRecDepth 100000 in
set_option maxHeartbeats 1000000 in
theorem rwide_0 (a b : Bd) (w : World) : Calls Try.prog 23 #[.int .i64 0, .agg #[.int .u64 (U a.ul), .int .u64 (U a.uh), .int .i64 (S a.sl), .int .i64 (S a.sh), .int .u64 (U a.t.v), .int .u64 (U a.t.m)], .agg #[.int .u64 (U b.ul), .int .u64 (U b.uh), .int .i64 (S b.sl), .int .i64 (S b.sh), .int .u64 (U b.t.v), .int .u64 (U b.t.m)]] w fun e w' => e = .returned (.agg #[.int .u64 (U (wideB 0 a b).ul), .int .u64 (U (wideB 0 a b).uh), .int .i64 (S (wideB 0 a b).sl), .int .i64 (S (wideB 0 a b).sh), .int .u64 (U (wideB 0 a b).t.v), .int .u64 (U (wideB 0 a b).t.m)]) ∧ Below w.heap.size w w' := by
  rw [show wideB 0 a b = addB a b by unfold wideB; simp only [Int.reduceEq, if_true, if_false]]
  have HV := Lib.hid (fun W => rbvalue_any b W)
  have HC := Lib.hid (fun W => rsum_any a b W)
  generalize addB a b = c at *
  generalize (bvalue b).1 = k at *
  generalize (bvalue b).2 = o at *
  go_enter Try.func23, Try.ntmps23
  go_wp2_with (first
    | (go_at_call 54; (with_reducible refine (HC.out _).mono ?_); rintro e w2 ⟨rfl, hb⟩; have B2 := Lib.hid (bnext B1.out hb); have z1 := X3.out.lt; have s2 := hb.size; have q3 := (X3.out.next hb).six0; clear hb p1 p2 p3)
    | (go_at_call 52; (with_reducible refine (HV.out _).mono ?_); rintro e w1 ⟨rfl, hb⟩; have B1 := Lib.hid (bl3 hb).1; have X1 := Lib.hid ((box_ab w a b _ _ _).1.next hb); have X2 := Lib.hid ((box_ab w a b _ _ _).2.next hb); have X3 := Lib.hid ((box_z w _ _ _).next hb); clear hb; have p1 := X1.out.six; have p2 := X2.out.six; have p3 := X3.out.six0))
  exact bodyPost_ret (by simp [results, Try.results23, go_sem, q3]) rfl ⟨rfl, by repeat (first | with_reducible exact B2.out | with_reducible refine Below.setCell ?_ (by simp; omega) _)⟩
set_option maxRecDepth 100000 in
set_option maxHeartbeats 1000000 in
theorem rwide_16 (a b : Bd) (w : World) : Calls Try.prog 23 #[.int .i64 16, .agg #[.int .u64 (U a.ul), .int .u64 (U a.uh), .int .i64 (S a.sl), .int .i64 (S a.sh), .int .u64 (U a.t.v), .int .u64 (U a.t.m)], .agg #[.int .u64 (U b.ul), .int .u64 (U b.uh), .int .i64 (S b.sl), .int .i64 (S b.sh), .int .u64 (U b.t.v), .int .u64 (U b.t.m)]] w fun e w' => e = .returned (.agg #[.int .u64 (U (wideB 16 a b).ul), .int .u64 (U (wideB 16 a b).uh), .int .i64 (S (wideB 16 a b).sl), .int .i64 (S (wideB 16 a b).sh), .int .u64 (U (wideB 16 a b).t.v), .int .u64 (U (wideB 16 a b).t.m)]) ∧ Below w.heap.size w w' := by
  rw [show wideB 16 a b = subB a b by unfold wideB; simp only [Int.reduceEq, if_true, if_false]]
  have HV := Lib.hid (fun W => rbvalue_any b W)
  have HC := Lib.hid (fun W => rdiff_any a b W)
  generalize subB a b = c at *
  generalize (bvalue b).1 = k at *
  generalize (bvalue b).2 = o at *
  go_enter Try.func23, Try.ntmps23
  go_wp2_with (first
    | (go_at_call 55; (with_reducible refine (HC.out _).mono ?_); rintro e w2 ⟨rfl, hb⟩; have B2 := Lib.hid (bnext B1.out hb); have z1 := X3.out.lt; have s2 := hb.size; have q3 := (X3.out.next hb).six0; clear hb p1 p2 p3)
    | (go_at_call 52; (with_reducible refine (HV.out _).mono ?_); rintro e w1 ⟨rfl, hb⟩; have B1 := Lib.hid (bl3 hb).1; have X1 := Lib.hid ((box_ab w a b _ _ _).1.next hb); have X2 := Lib.hid ((box_ab w a b _ _ _).2.next hb); have X3 := Lib.hid ((box_z w _ _ _).next hb); clear hb; have p1 := X1.out.six; have p2 := X2.out.six; have p3 := X3.out.six0))
  exact bodyPost_ret (by simp [results, Try.results23, go_sem, q3]) rfl ⟨rfl, by repeat (first | with_reducible exact B2.out | with_reducible refine Below.setCell ?_ (by simp; omega) _)⟩
set_option maxRecDepth 100000 in
set_option maxHeartbeats 1000000 in
theorem rwide_32 (a b : Bd) (w : World) : Calls Try.prog 23 #[.int .i64 32, .agg #[.int .u64 (U a.ul), .int .u64 (U a.uh), .int .i64 (S a.sl), .int .i64 (S a.sh), .int .u64 (U a.t.v), .int .u64 (U a.t.m)], .agg #[.int .u64 (U b.ul), .int .u64 (U b.uh), .int .i64 (S b.sl), .int .i64 (S b.sh), .int .u64 (U b.t.v), .int .u64 (U b.t.m)]] w fun e w' => e = .returned (.agg #[.int .u64 (U (wideB 32 a b).ul), .int .u64 (U (wideB 32 a b).uh), .int .i64 (S (wideB 32 a b).sl), .int .i64 (S (wideB 32 a b).sh), .int .u64 (U (wideB 32 a b).t.v), .int .u64 (U (wideB 32 a b).t.m)]) ∧ Below w.heap.size w w' := by
  rw [show wideB 32 a b = mulB a b by unfold wideB; simp only [Int.reduceEq, if_true, if_false]]
  have HV := Lib.hid (fun W => rbvalue_any b W)
  have HC := Lib.hid (fun W => rparts_32 a b W)
  generalize mulB a b = c at *
  generalize (bvalue b).1 = k at *
  generalize (bvalue b).2 = o at *
  go_enter Try.func23, Try.ntmps23
  go_wp2_with (first
    | (go_at_call 56; (with_reducible refine (HC.out _).mono ?_); rintro e w2 ⟨rfl, hb⟩; have B2 := Lib.hid (bnext B1.out hb); have z1 := X3.out.lt; have s2 := hb.size; have q3 := (X3.out.next hb).six0; clear hb p1 p2 p3)
    | (go_at_call 52; (with_reducible refine (HV.out _).mono ?_); rintro e w1 ⟨rfl, hb⟩; have B1 := Lib.hid (bl3 hb).1; have X1 := Lib.hid ((box_ab w a b _ _ _).1.next hb); have X2 := Lib.hid ((box_ab w a b _ _ _).2.next hb); have X3 := Lib.hid ((box_z w _ _ _).next hb); clear hb; have p1 := X1.out.six; have p2 := X2.out.six; have p3 := X3.out.six0))
  exact bodyPost_ret (by simp [results, Try.results23, go_sem, q3]) rfl ⟨rfl, by repeat (first | with_reducible exact B2.out | with_reducible refine Below.setCell ?_ (by simp; omega) _)⟩
set_option maxRecDepth 100000 in
set_option maxHeartbeats 1000000 in
theorem rwide_48 (a b : Bd) (w : World) : Calls Try.prog 23 #[.int .i64 48, .agg #[.int .u64 (U a.ul), .int .u64 (U a.uh), .int .i64 (S a.sl), .int .i64 (S a.sh), .int .u64 (U a.t.v), .int .u64 (U a.t.m)], .agg #[.int .u64 (U b.ul), .int .u64 (U b.uh), .int .i64 (S b.sl), .int .i64 (S b.sh), .int .u64 (U b.t.v), .int .u64 (U b.t.m)]] w fun e w' => e = .returned (.agg #[.int .u64 (U (wideB 48 a b).ul), .int .u64 (U (wideB 48 a b).uh), .int .i64 (S (wideB 48 a b).sl), .int .i64 (S (wideB 48 a b).sh), .int .u64 (U (wideB 48 a b).t.v), .int .u64 (U (wideB 48 a b).t.m)]) ∧ Below w.heap.size w w' := by
  rw [show wideB 48 a b = divB a b by unfold wideB; simp only [Int.reduceEq, if_true, if_false]]
  have HV := Lib.hid (fun W => rbvalue_any b W)
  have HC := Lib.hid (fun W => rparts_48 a b W)
  generalize divB a b = c at *
  generalize (bvalue b).1 = k at *
  generalize (bvalue b).2 = o at *
  go_enter Try.func23, Try.ntmps23
  go_wp2_with (first
    | (go_at_call 56; (with_reducible refine (HC.out _).mono ?_); rintro e w2 ⟨rfl, hb⟩; have B2 := Lib.hid (bnext B1.out hb); have z1 := X3.out.lt; have s2 := hb.size; have q3 := (X3.out.next hb).six0; clear hb p1 p2 p3)
    | (go_at_call 52; (with_reducible refine (HV.out _).mono ?_); rintro e w1 ⟨rfl, hb⟩; have B1 := Lib.hid (bl3 hb).1; have X1 := Lib.hid ((box_ab w a b _ _ _).1.next hb); have X2 := Lib.hid ((box_ab w a b _ _ _).2.next hb); have X3 := Lib.hid ((box_z w _ _ _).next hb); clear hb; have p1 := X1.out.six; have p2 := X2.out.six; have p3 := X3.out.six0))
  exact bodyPost_ret (by simp [results, Try.results23, go_sem, q3]) rfl ⟨rfl, by repeat (first | with_reducible exact B2.out | with_reducible refine Below.setCell ?_ (by simp; omega) _)⟩
set_option maxRecDepth 100000 in
set_option maxHeartbeats 1000000 in
theorem rwide_144 (a b : Bd) (w : World) : Calls Try.prog 23 #[.int .i64 144, .agg #[.int .u64 (U a.ul), .int .u64 (U a.uh), .int .i64 (S a.sl), .int .i64 (S a.sh), .int .u64 (U a.t.v), .int .u64 (U a.t.m)], .agg #[.int .u64 (U b.ul), .int .u64 (U b.uh), .int .i64 (S b.sl), .int .i64 (S b.sh), .int .u64 (U b.t.v), .int .u64 (U b.t.m)]] w fun e w' => e = .returned (.agg #[.int .u64 (U (wideB 144 a b).ul), .int .u64 (U (wideB 144 a b).uh), .int .i64 (S (wideB 144 a b).sl), .int .i64 (S (wideB 144 a b).sh), .int .u64 (U (wideB 144 a b).t.v), .int .u64 (U (wideB 144 a b).t.m)]) ∧ Below w.heap.size w w' := by
  rw [show wideB 144 a b = modB a b by unfold wideB; simp only [Int.reduceEq, if_true, if_false]]
  have HV := Lib.hid (fun W => rbvalue_any b W)
  have HC := Lib.hid (fun W => rparts_144 a b W)
  generalize modB a b = c at *
  generalize (bvalue b).1 = k at *
  generalize (bvalue b).2 = o at *
  go_enter Try.func23, Try.ntmps23
  go_wp2_with (first
    | (go_at_call 56; (with_reducible refine (HC.out _).mono ?_); rintro e w2 ⟨rfl, hb⟩; have B2 := Lib.hid (bnext B1.out hb); have z1 := X3.out.lt; have s2 := hb.size; have q3 := (X3.out.next hb).six0; clear hb p1 p2 p3)
    | (go_at_call 52; (with_reducible refine (HV.out _).mono ?_); rintro e w1 ⟨rfl, hb⟩; have B1 := Lib.hid (bl3 hb).1; have X1 := Lib.hid ((box_ab w a b _ _ _).1.next hb); have X2 := Lib.hid ((box_ab w a b _ _ _).2.next hb); have X3 := Lib.hid ((box_z w _ _ _).next hb); clear hb; have p1 := X1.out.six; have p2 := X2.out.six; have p3 := X3.out.six0))
  exact bodyPost_ret (by simp [results, Try.results23, go_sem, q3]) rfl ⟨rfl, by repeat (first | with_reducible exact B2.out | with_reducible refine Below.setCell ?_ (by simp; omega) _)⟩
set_option maxRecDepth 100000 in
set_option maxHeartbeats 1000000 in
theorem rwide_64 (a b : Bd) (w : World) : Calls Try.prog 23 #[.int .i64 64, .agg #[.int .u64 (U a.ul), .int .u64 (U a.uh), .int .i64 (S a.sl), .int .i64 (S a.sh), .int .u64 (U a.t.v), .int .u64 (U a.t.m)], .agg #[.int .u64 (U b.ul), .int .u64 (U b.uh), .int .i64 (S b.sl), .int .i64 (S b.sh), .int .u64 (U b.t.v), .int .u64 (U b.t.m)]] w fun e w' => e = .returned (.agg #[.int .u64 (U (wideB 64 a b).ul), .int .u64 (U (wideB 64 a b).uh), .int .i64 (S (wideB 64 a b).sl), .int .i64 (S (wideB 64 a b).sh), .int .u64 (U (wideB 64 a b).t.v), .int .u64 (U (wideB 64 a b).t.m)]) ∧ Below w.heap.size w w' := by
  rw [show wideB 64 a b = orB a b by unfold wideB; simp only [Int.reduceEq, if_true, if_false]]
  have HV := Lib.hid (fun W => rbvalue_any b W)
  have HC := Lib.hid (fun W => rbits_64 a b W)
  generalize orB a b = c at *
  generalize (bvalue b).1 = k at *
  generalize (bvalue b).2 = o at *
  go_enter Try.func23, Try.ntmps23
  go_wp2_with (first
    | (go_at_call 57; (with_reducible refine (HC.out _).mono ?_); rintro e w2 ⟨rfl, hb⟩; have B2 := Lib.hid (bnext B1.out hb); have z1 := X3.out.lt; have s2 := hb.size; have q3 := (X3.out.next hb).six0; clear hb p1 p2 p3)
    | (go_at_call 52; (with_reducible refine (HV.out _).mono ?_); rintro e w1 ⟨rfl, hb⟩; have B1 := Lib.hid (bl3 hb).1; have X1 := Lib.hid ((box_ab w a b _ _ _).1.next hb); have X2 := Lib.hid ((box_ab w a b _ _ _).2.next hb); have X3 := Lib.hid ((box_z w _ _ _).next hb); clear hb; have p1 := X1.out.six; have p2 := X2.out.six; have p3 := X3.out.six0))
  exact bodyPost_ret (by simp [results, Try.results23, go_sem, q3]) rfl ⟨rfl, by repeat (first | with_reducible exact B2.out | with_reducible refine Below.setCell ?_ (by simp; omega) _)⟩
set_option maxRecDepth 100000 in
set_option maxHeartbeats 1000000 in
theorem rwide_80 (a b : Bd) (w : World) : Calls Try.prog 23 #[.int .i64 80, .agg #[.int .u64 (U a.ul), .int .u64 (U a.uh), .int .i64 (S a.sl), .int .i64 (S a.sh), .int .u64 (U a.t.v), .int .u64 (U a.t.m)], .agg #[.int .u64 (U b.ul), .int .u64 (U b.uh), .int .i64 (S b.sl), .int .i64 (S b.sh), .int .u64 (U b.t.v), .int .u64 (U b.t.m)]] w fun e w' => e = .returned (.agg #[.int .u64 (U (wideB 80 a b).ul), .int .u64 (U (wideB 80 a b).uh), .int .i64 (S (wideB 80 a b).sl), .int .i64 (S (wideB 80 a b).sh), .int .u64 (U (wideB 80 a b).t.v), .int .u64 (U (wideB 80 a b).t.m)]) ∧ Below w.heap.size w w' := by
  rw [show wideB 80 a b = andB a b by unfold wideB; simp only [Int.reduceEq, if_true, if_false]]
  have HV := Lib.hid (fun W => rbvalue_any b W)
  have HC := Lib.hid (fun W => rbits_80 a b W)
  generalize andB a b = c at *
  generalize (bvalue b).1 = k at *
  generalize (bvalue b).2 = o at *
  go_enter Try.func23, Try.ntmps23
  go_wp2_with (first
    | (go_at_call 57; (with_reducible refine (HC.out _).mono ?_); rintro e w2 ⟨rfl, hb⟩; have B2 := Lib.hid (bnext B1.out hb); have z1 := X3.out.lt; have s2 := hb.size; have q3 := (X3.out.next hb).six0; clear hb p1 p2 p3)
    | (go_at_call 52; (with_reducible refine (HV.out _).mono ?_); rintro e w1 ⟨rfl, hb⟩; have B1 := Lib.hid (bl3 hb).1; have X1 := Lib.hid ((box_ab w a b _ _ _).1.next hb); have X2 := Lib.hid ((box_ab w a b _ _ _).2.next hb); have X3 := Lib.hid ((box_z w _ _ _).next hb); clear hb; have p1 := X1.out.six; have p2 := X2.out.six; have p3 := X3.out.six0))
  exact bodyPost_ret (by simp [results, Try.results23, go_sem, q3]) rfl ⟨rfl, by repeat (first | with_reducible exact B2.out | with_reducible refine Below.setCell ?_ (by simp; omega) _)⟩
set_option maxRecDepth 100000 in
set_option maxHeartbeats 1000000 in
theorem rwide_160 (a b : Bd) (w : World) : Calls Try.prog 23 #[.int .i64 160, .agg #[.int .u64 (U a.ul), .int .u64 (U a.uh), .int .i64 (S a.sl), .int .i64 (S a.sh), .int .u64 (U a.t.v), .int .u64 (U a.t.m)], .agg #[.int .u64 (U b.ul), .int .u64 (U b.uh), .int .i64 (S b.sl), .int .i64 (S b.sh), .int .u64 (U b.t.v), .int .u64 (U b.t.m)]] w fun e w' => e = .returned (.agg #[.int .u64 (U (wideB 160 a b).ul), .int .u64 (U (wideB 160 a b).uh), .int .i64 (S (wideB 160 a b).sl), .int .i64 (S (wideB 160 a b).sh), .int .u64 (U (wideB 160 a b).t.v), .int .u64 (U (wideB 160 a b).t.m)]) ∧ Below w.heap.size w w' := by
  rw [show wideB 160 a b = xorB a b by unfold wideB; simp only [Int.reduceEq, if_true, if_false]]
  have HV := Lib.hid (fun W => rbvalue_any b W)
  have HC := Lib.hid (fun W => rbits_160 a b W)
  generalize xorB a b = c at *
  generalize (bvalue b).1 = k at *
  generalize (bvalue b).2 = o at *
  go_enter Try.func23, Try.ntmps23
  go_wp2_with (first
    | (go_at_call 57; (with_reducible refine (HC.out _).mono ?_); rintro e w2 ⟨rfl, hb⟩; have B2 := Lib.hid (bnext B1.out hb); have z1 := X3.out.lt; have s2 := hb.size; have q3 := (X3.out.next hb).six0; clear hb p1 p2 p3)
    | (go_at_call 52; (with_reducible refine (HV.out _).mono ?_); rintro e w1 ⟨rfl, hb⟩; have B1 := Lib.hid (bl3 hb).1; have X1 := Lib.hid ((box_ab w a b _ _ _).1.next hb); have X2 := Lib.hid ((box_ab w a b _ _ _).2.next hb); have X3 := Lib.hid ((box_z w _ _ _).next hb); clear hb; have p1 := X1.out.six; have p2 := X2.out.six; have p3 := X3.out.six0))
  exact bodyPost_ret (by simp [results, Try.results23, go_sem, q3]) rfl ⟨rfl, by repeat (first | with_reducible exact B2.out | with_reducible refine Below.setCell ?_ (by simp; omega) _)⟩
end Go.Proofs.Yticjhcbkkkkckaa
