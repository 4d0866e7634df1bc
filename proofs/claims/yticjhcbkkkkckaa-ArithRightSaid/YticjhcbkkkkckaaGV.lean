/- Bounds: contracts of package bound: what lies between, what is in order, from nought up to a number, all numbers, one number, some bytes, the questions. -/
import Derived.Test.YticjhcbkkkkckaaWK

/- Bounds: contracts of package bound: what lies between, what is in order, from nought up to a number, all numbers, one number, some bytes, the questions. -/
namespace Go.Proofs.Yticjhcbkkkkckaa
open Go.RowKit
attribute [local go_sem] b_and b_or b_xor b_andNot b_low b_top b_most b_signed b_unsigned b_zero b_eq s_eq b_nzero b_neq s_neq b_max b_min s_max s_min
attribute [local go_sem ↓] Go.wp_at_zero Go.wp_at_succ

def ubet (a x c : B) : Bool := decide (U a ≤ U x) && decide (U x ≤ U c)
def sbet (a x c : B) : Bool := decide (S a ≤ S x) && decide (S x ≤ S c)
theorem ubet_no1 {a x c : B} (h : ¬ U a ≤ U x) : ubet a x c = false := by simp [ubet, h]
theorem ubet_no2 {a x c : B} (h : ¬ U x ≤ U c) : ubet a x c = false := by simp [ubet, h]
theorem ubet_yes {a x c : B} (h : U a ≤ U x) (h2 : U x ≤ U c) : ubet a x c = true := by simp [ubet, h, h2]
theorem sbet_no1 {a x c : B} (h : ¬ S a ≤ S x) : sbet a x c = false := by simp [sbet, h]
theorem sbet_no2 {a x c : B} (h : ¬ S x ≤ S c) : sbet a x c = false := by simp [sbet, h]
theorem sbet_yes {a x c : B} (h : S a ≤ S x) (h2 : S x ≤ S c) : sbet a x c = true := by simp [sbet, h, h2]
theorem ubet_any (a x c : B) (w : World) : Calls Try.prog 75 #[.int .u64 (U a), .int .u64 (U x), .int .u64 (U c)] w fun e w' => e = .returned (.bool (ubet a x c)) ∧ w = w' := by
  by_cases h1 : U a ≤ U x
  · by_cases h2 : U x ≤ U c
    · rw [ubet_yes h1 h2]
      go_enter Try.func75, Try.ntmps75
      go_wp2_with fail
      go_ret
      exact ⟨rfl, rfl⟩
    · rw [ubet_no2 h2]
      go_enter Try.func75, Try.ntmps75
      go_wp2_with fail
      go_ret
      exact ⟨rfl, rfl⟩
  · rw [ubet_no1 h1]
    go_enter Try.func75, Try.ntmps75
    go_wp2_with fail
    go_ret
    exact ⟨rfl, rfl⟩
theorem sbet_any (a x c : B) (w : World) : Calls Try.prog 76 #[.int .i64 (S a), .int .i64 (S x), .int .i64 (S c)] w fun e w' => e = .returned (.bool (sbet a x c)) ∧ w = w' := by
  by_cases h1 : S a ≤ S x
  · by_cases h2 : S x ≤ S c
    · rw [sbet_yes h1 h2]
      go_enter Try.func76, Try.ntmps76
      go_wp2_with fail
      go_ret
      exact ⟨rfl, rfl⟩
    · rw [sbet_no2 h2]
      go_enter Try.func76, Try.ntmps76
      go_wp2_with fail
      go_ret
      exact ⟨rfl, rfl⟩
  · rw [sbet_no1 h1]
    go_enter Try.func76, Try.ntmps76
    go_wp2_with fail
    go_ret
    exact ⟨rfl, rfl⟩
theorem ubet_u (b : Bd) (x : B) : ubet b.ul x b.uh = uinB b x := by
  unfold ubet uinB U
  rw [Bool.eq_iff_iff]; simp
theorem sbet_s (b : Bd) (x : B) : sbet b.sl x b.sh = sinB b x := rfl
theorem ordered_is (b : Bd) : (ubet b.ul b.ul b.uh && sbet b.sl b.sl b.sh) = bgood b := by
  rw [ubet_u, sbet_s, Bool.eq_iff_iff, bgood_iff]
  unfold uinB sinB
  simp
theorem ordered_any (b : Bd) (w : World) : Calls Try.prog 44 #[.agg #[.int .u64 (U b.ul), .int .u64 (U b.uh), .int .i64 (S b.sl), .int .i64 (S b.sh), .int .u64 (U b.t.v), .int .u64 (U b.t.m)]] w fun e w' => e = .returned (.bool (bgood b)) ∧ Below w.heap.size w w' := by
  rw [← ordered_is]
  have H1 := Lib.hid (fun W => ubet_any b.ul b.ul b.uh W)
  have H2 := Lib.hid (fun W => sbet_any b.sl b.sl b.sh W)
  generalize ubet b.ul b.ul b.uh = g at *
  generalize sbet b.sl b.sl b.sh = h at *
  cases g with
  | false =>
    go_enter Try.func44, Try.ntmps44
    go_wp2_with (go_at_call 75; refine (H1.out _).mono ?_; rintro e w1 ⟨rfl, rfl⟩)
    go_ret
    exact ⟨rfl, b1⟩
  | true =>
    go_enter Try.func44, Try.ntmps44
    go_wp2_with (first
      | (go_at_call 76; refine (H2.out _).mono ?_; rintro e w2 ⟨rfl, rfl⟩)
      | (go_at_call 75; refine (H1.out _).mono ?_; rintro e w1 ⟨rfl, rfl⟩))
    go_ret
    exact ⟨rfl, b1⟩
theorem upto_any (x : B) (t : Tn) (w : World) : Calls Try.prog 47 #[.int .u64 (U x), .agg #[.int .u64 (U t.v), .int .u64 (U t.m)]] w fun e w' => e = .returned (.agg #[.int .u64 (U ((⟨0#64, x, 0#64, x, t⟩ : Bd)).ul), .int .u64 (U ((⟨0#64, x, 0#64, x, t⟩ : Bd)).uh), .int .i64 (S ((⟨0#64, x, 0#64, x, t⟩ : Bd)).sl), .int .i64 (S ((⟨0#64, x, 0#64, x, t⟩ : Bd)).sh), .int .u64 (U ((⟨0#64, x, 0#64, x, t⟩ : Bd)).t.v), .int .u64 (U ((⟨0#64, x, 0#64, x, t⟩ : Bd)).t.m)]) ∧ Below w.heap.size w w' := by
  go_enter Try.func47, Try.ntmps47
  go_wp2_with fail
  exact bodyPost_ret (v := .agg #[.int .u64 (U ((⟨0#64, x, 0#64, x, t⟩ : Bd)).ul), .int .u64 (U ((⟨0#64, x, 0#64, x, t⟩ : Bd)).uh), .int .i64 (S ((⟨0#64, x, 0#64, x, t⟩ : Bd)).sl), .int .i64 (S ((⟨0#64, x, 0#64, x, t⟩ : Bd)).sh), .int .u64 (U ((⟨0#64, x, 0#64, x, t⟩ : Bd)).t.v), .int .u64 (U ((⟨0#64, x, 0#64, x, t⟩ : Bd)).t.m)]) (by simp [results, Try.results47, go_sem, U_0, S_0]) rfl ⟨rfl, b2⟩
theorem bany_any (w : World) : Calls Try.prog 17 #[] w fun e w' => e = .returned (.agg #[.int .u64 (U bany.ul), .int .u64 (U bany.uh), .int .i64 (S bany.sl), .int .i64 (S bany.sh), .int .u64 (U bany.t.v), .int .u64 (U bany.t.m)]) ∧ Below w.heap.size w w' := by
  have H := Lib.hid (fun W => tany_any W)
  have HU := Lib.hid U_most
  go_enter Try.func17, Try.ntmps17
  go_wp2_with (go_at_call 43; refine (H.out _).mono ?_; rintro e w1 ⟨rfl, hb⟩; have B1 := Lib.hid (bl1 hb); have K1 := bcell hb; clear hb)
  have hz := B1.out.2
  exact bodyPost_ret (v := .agg #[.int .u64 (U bany.ul), .int .u64 (U bany.uh), .int .i64 (S bany.sl), .int .i64 (S bany.sh), .int .u64 (U bany.t.v), .int .u64 (U bany.t.m)]) (by simp [results, Try.results17, go_sem, K1, bany, HU.out, U_0]) rfl ⟨rfl, set6 B1.out.1 (by omega)⟩
theorem bconst_any (x : B) (w : World) : Calls Try.prog 74 #[.int .u64 (U x)] w fun e w' => e = .returned (.agg #[.int .u64 (U (bconst x).ul), .int .u64 (U (bconst x).uh), .int .i64 (S (bconst x).sl), .int .i64 (S (bconst x).sh), .int .u64 (U (bconst x).t.v), .int .u64 (U (bconst x).t.m)]) ∧ Below w.heap.size w w' := by
  have H := Lib.hid (fun W => tconst_any x W)
  have HE := Lib.hid (show (tconst x).v = x ∧ (tconst x).m = 0#64 from ⟨rfl, rfl⟩)
  generalize tconst x = y at *
  go_enter Try.func74, Try.ntmps74
  go_wp2_with (go_at_call 95; refine (H.out _).mono ?_; rintro e w1 ⟨rfl, hb⟩; have B1 := Lib.hid (bl1 hb); have K1 := bcell hb; clear hb)
  have hz := B1.out.2
  exact bodyPost_ret (v := .agg #[.int .u64 (U (bconst x).ul), .int .u64 (U (bconst x).uh), .int .i64 (S (bconst x).sl), .int .i64 (S (bconst x).sh), .int .u64 (U (bconst x).t.v), .int .u64 (U (bconst x).t.m)]) (by simp [results, Try.results74, go_sem, K1, bconst, HE.out]) rfl ⟨rfl, set6 B1.out.1 (by omega)⟩
theorem bvalue_any (b : Bd) (w : World) : Calls Try.prog 67 #[.agg #[.int .u64 (U b.ul), .int .u64 (U b.uh), .int .i64 (S b.sl), .int .i64 (S b.sh), .int .u64 (U b.t.v), .int .u64 (U b.t.m)]] w fun e w' => e = .returned (.tuple #[.int .u64 (U (bvalue b).1), .bool (bvalue b).2]) ∧ Below w.heap.size w w' := by
  unfold bvalue
  by_cases h : b.ul = b.uh
  · rw [if_pos h]
    have hb : (b.ul == b.uh) = true := by simpa using h
    clear h
    go_enter Try.func67, Try.ntmps67
    go_wp2_with fail
    go_ret2
    exact ⟨rfl, b1⟩
  · rw [if_neg h]
    have hb : (b.ul == b.uh) = false := by simpa using h
    clear h
    go_enter Try.func67, Try.ntmps67
    go_wp2_with fail
    go_ret2
    exact ⟨rfl, b1⟩
theorem bcheck_is (b : Bd) : (bgood b && tcheck b.t) = bcheck b := rfl
theorem bcheck_any (b : Bd) (w : World) : Calls Try.prog 18 #[.agg #[.int .u64 (U b.ul), .int .u64 (U b.uh), .int .i64 (S b.sl), .int .i64 (S b.sh), .int .u64 (U b.t.v), .int .u64 (U b.t.m)]] w fun e w' => e = .returned (.bool (bcheck b)) ∧ Below w.heap.size w w' := by
  rw [← bcheck_is]
  have H1 := Lib.hid (fun W => ordered_any b W)
  have H2 := Lib.hid (fun W => tcheck_any b.t W)
  generalize bgood b = g at *
  generalize tcheck b.t = h at *
  cases g with
  | false =>
    go_enter Try.func18, Try.ntmps18
    go_wp2_with (go_at_call 44; refine (H1.out _).mono ?_; rintro e w1 ⟨rfl, hb⟩; have B1 := Lib.hid (bl1 hb).1; clear hb)
    go_ret
    exact ⟨rfl, B1.out⟩
  | true =>
    go_enter Try.func18, Try.ntmps18
    go_wp2_with (first
      | (go_at_call 45; refine (H2.out _).mono ?_; rintro e w2 ⟨rfl, hb⟩; have B2 := Lib.hid (bnext B1.out hb); clear hb)
      | (go_at_call 44; refine (H1.out _).mono ?_; rintro e w1 ⟨rfl, hb⟩; have B1 := Lib.hid (bl1 hb).1; have f1' := ((Box.new w (bv b) 26 rfl).next hb).six; clear hb; obtain ⟨f1, f2, f3⟩ := f1'))
    go_ret
    exact ⟨rfl, B2.out⟩
theorem bin_is (b : Bd) (x : B) : (ubet b.ul x b.uh && (sbet b.sl x b.sh && tin b.t x)) = bin b x := by
  rw [ubet_u, sbet_s, ← Bool.and_assoc]; rfl
end Go.Proofs.Yticjhcbkkkkckaa

/- Bounds: contracts of package bound: what bits say of the ends, what signs say. -/
namespace Go.Proofs.Yticjhcbkkkkckaa
open Go.RowKit
attribute [local go_sem] b_and b_or b_xor b_andNot b_low b_top b_most b_signed b_unsigned b_zero b_eq s_eq b_nzero b_neq s_neq b_max b_min s_max s_min
attribute [local go_sem ↓] Go.wp_at_zero Go.wp_at_succ

set_option maxHeartbeats 1000000 in
theorem bybits_any (b : Bd) (w : World) : Calls Try.prog 98 #[.agg #[.int .u64 (U b.ul), .int .u64 (U b.uh), .int .i64 (S b.sl), .int .i64 (S b.sh), .int .u64 (U b.t.v), .int .u64 (U b.t.m)]] w fun e w' => e = .returned (.agg #[.int .u64 (U (tidyB b).ul), .int .u64 (U (tidyB b).uh), .int .i64 (S (tidyB b).sl), .int .i64 (S (tidyB b).sh), .int .u64 (U (tidyB b).t.v), .int .u64 (U (tidyB b).t.m)]) ∧ Below w.heap.size w w' := by
  go_enter Try.func98, Try.ntmps98
  go_wp2_with fail
  go_quiet (fail)
  go_wp2_with fail
  exact bodyPost_ret (v := .agg #[.int .u64 (U (tidyB b).ul), .int .u64 (U (tidyB b).uh), .int .i64 (S (tidyB b).sl), .int .i64 (S (tidyB b).sh), .int .u64 (U (tidyB b).t.v), .int .u64 (U (tidyB b).t.m)]) (by simp [results, Try.results98, go_sem, tidyB, tlo, thi]) rfl ⟨rfl, set6 ((((((bdrewN b2 _).setCell (by simp) _).setCell (by simp) _).setCell (by simp) _).setCell (by simp) _)) (by omega)⟩
set_option maxHeartbeats 2000000 in
theorem bysigns_any (b : Bd) (w : World) : Calls Try.prog 99 #[.agg #[.int .u64 (U b.ul), .int .u64 (U b.uh), .int .i64 (S b.sl), .int .i64 (S b.sh), .int .u64 (U b.t.v), .int .u64 (U b.t.m)]] w fun e w' => e = .returned (.agg #[.int .u64 (U (tidyS b).ul), .int .u64 (U (tidyS b).uh), .int .i64 (S (tidyS b).sl), .int .i64 (S (tidyS b).sh), .int .u64 (U (tidyS b).t.v), .int .u64 (U (tidyS b).t.m)]) ∧ Below w.heap.size w w' := by
  by_cases h1 : 0 ≤ S b.sl
  · rw [tidyS_1 (.inl h1)]
    go_enter Try.func99, Try.ntmps99
    go_wp2_with fail
    exact bodyPost_ret (v := .agg #[.int .u64 (U ((⟨umax b.ul b.sl, umin b.uh b.sh, umax b.ul b.sl, umin b.uh b.sh, b.t⟩ : Bd)).ul), .int .u64 (U ((⟨umax b.ul b.sl, umin b.uh b.sh, umax b.ul b.sl, umin b.uh b.sh, b.t⟩ : Bd)).uh), .int .i64 (S ((⟨umax b.ul b.sl, umin b.uh b.sh, umax b.ul b.sl, umin b.uh b.sh, b.t⟩ : Bd)).sl), .int .i64 (S ((⟨umax b.ul b.sl, umin b.uh b.sh, umax b.ul b.sl, umin b.uh b.sh, b.t⟩ : Bd)).sh), .int .u64 (U ((⟨umax b.ul b.sl, umin b.uh b.sh, umax b.ul b.sl, umin b.uh b.sh, b.t⟩ : Bd)).t.v), .int .u64 (U ((⟨umax b.ul b.sl, umin b.uh b.sh, umax b.ul b.sl, umin b.uh b.sh, b.t⟩ : Bd)).t.m)]) (by simp [results, Try.results99, go_sem]) rfl ⟨rfl, b2⟩
  · have h1' : S b.sl < 0 := by omega
    by_cases h2 : S b.sh < 0
    · rw [tidyS_1 (.inr h2)]
      go_enter Try.func99, Try.ntmps99
      go_wp2_with fail
      exact bodyPost_ret (v := .agg #[.int .u64 (U ((⟨umax b.ul b.sl, umin b.uh b.sh, umax b.ul b.sl, umin b.uh b.sh, b.t⟩ : Bd)).ul), .int .u64 (U ((⟨umax b.ul b.sl, umin b.uh b.sh, umax b.ul b.sl, umin b.uh b.sh, b.t⟩ : Bd)).uh), .int .i64 (S ((⟨umax b.ul b.sl, umin b.uh b.sh, umax b.ul b.sl, umin b.uh b.sh, b.t⟩ : Bd)).sl), .int .i64 (S ((⟨umax b.ul b.sl, umin b.uh b.sh, umax b.ul b.sl, umin b.uh b.sh, b.t⟩ : Bd)).sh), .int .u64 (U ((⟨umax b.ul b.sl, umin b.uh b.sh, umax b.ul b.sl, umin b.uh b.sh, b.t⟩ : Bd)).t.v), .int .u64 (U ((⟨umax b.ul b.sl, umin b.uh b.sh, umax b.ul b.sl, umin b.uh b.sh, b.t⟩ : Bd)).t.m)]) (by simp [results, Try.results99, go_sem]) rfl ⟨rfl, b2⟩
    · have h2' : 0 ≤ S b.sh := by omega
      by_cases h3 : 0 ≤ S b.uh
      · rw [tidyS_2 h1' h2' h3]
        go_enter Try.func99, Try.ntmps99
        go_wp2_with fail
        exact bodyPost_ret (v := .agg #[.int .u64 (U ((⟨b.ul, smin b.sh b.uh, b.ul, smin b.sh b.uh, b.t⟩ : Bd)).ul), .int .u64 (U ((⟨b.ul, smin b.sh b.uh, b.ul, smin b.sh b.uh, b.t⟩ : Bd)).uh), .int .i64 (S ((⟨b.ul, smin b.sh b.uh, b.ul, smin b.sh b.uh, b.t⟩ : Bd)).sl), .int .i64 (S ((⟨b.ul, smin b.sh b.uh, b.ul, smin b.sh b.uh, b.t⟩ : Bd)).sh), .int .u64 (U ((⟨b.ul, smin b.sh b.uh, b.ul, smin b.sh b.uh, b.t⟩ : Bd)).t.v), .int .u64 (U ((⟨b.ul, smin b.sh b.uh, b.ul, smin b.sh b.uh, b.t⟩ : Bd)).t.m)]) (by simp [results, Try.results99, go_sem]) rfl ⟨rfl, b2⟩
      · have h3' : S b.uh < 0 := by omega
        by_cases h4 : S b.ul < 0
        · rw [tidyS_3 h1' h2' h3' h4]
          go_enter Try.func99, Try.ntmps99
          go_wp2_with fail
          exact bodyPost_ret (v := .agg #[.int .u64 (U ((⟨smax b.sl b.ul, b.uh, smax b.sl b.ul, b.uh, b.t⟩ : Bd)).ul), .int .u64 (U ((⟨smax b.sl b.ul, b.uh, smax b.sl b.ul, b.uh, b.t⟩ : Bd)).uh), .int .i64 (S ((⟨smax b.sl b.ul, b.uh, smax b.sl b.ul, b.uh, b.t⟩ : Bd)).sl), .int .i64 (S ((⟨smax b.sl b.ul, b.uh, smax b.sl b.ul, b.uh, b.t⟩ : Bd)).sh), .int .u64 (U ((⟨smax b.sl b.ul, b.uh, smax b.sl b.ul, b.uh, b.t⟩ : Bd)).t.v), .int .u64 (U ((⟨smax b.sl b.ul, b.uh, smax b.sl b.ul, b.uh, b.t⟩ : Bd)).t.m)]) (by simp [results, Try.results99, go_sem]) rfl ⟨rfl, b2⟩
        · have h4' : 0 ≤ S b.ul := by omega
          rw [tidyS_4 h1' h2' h3' h4']
          go_enter Try.func99, Try.ntmps99
          go_wp2_with fail
          exact bodyPost_ret (v := .agg #[.int .u64 (U b.ul), .int .u64 (U b.uh), .int .i64 (S b.sl), .int .i64 (S b.sh), .int .u64 (U b.t.v), .int .u64 (U b.t.m)]) (by simp [results, Try.results99, go_sem]) rfl ⟨rfl, b2⟩
end Go.Proofs.Yticjhcbkkkkckaa

/- Bounds: contracts of package bound: one round of tidying. -/
namespace Go.Proofs.Yticjhcbkkkkckaa
open Go.RowKit
attribute [local go_sem] b_and b_or b_xor b_andNot b_low b_top b_most b_signed b_unsigned b_zero b_eq s_eq b_nzero b_neq s_neq b_max b_min s_max s_min
attribute [local go_sem ↓] Go.wp_at_zero Go.wp_at_succ

noncomputable def reg5n : Code := ((Try.f78.body.bind (regionOf 5)).getD .skip)
set_option maxRecDepth 100000 in
set_option maxHeartbeats 4000000 in
theorem reg5n_wp (n : Nat) (w : World) (E : Bd) (R Z : Tn) (g : Bool) (W3 : World) (c0 c2 c3 c4 c5 c6 c7 c8 c9 c10 c11 c12 c13 c14 c15 c16 c17 c18 c19 c20 c21 c22 c23 c24 c25 c26 c27 c28 c29 c30 c31 c32 c33 c34 c35 : Value) (Q : Exit → Act → World → Prop)
    (HR : Hid (∀ W, Calls Try.prog 101 #[.int .u64 (U E.ul), .int .u64 (U E.uh)] W fun e w' => e = .returned (.agg #[.int .u64 (U R.v), .int .u64 (U R.m)]) ∧ Below W.heap.size W w'))
    (HM : Hid (∀ W, Calls Try.prog 100 #[.agg #[.int .u64 (U E.t.v), .int .u64 (U E.t.m)], .agg #[.int .u64 (U R.v), .int .u64 (U R.m)]] W fun e w' => e = .returned (.tuple #[.agg #[.int .u64 (U Z.v), .int .u64 (U Z.m)], .bool g]) ∧ Below W.heap.size W w'))
    (HV2 : Hid (Below n w W3)) (HZ1 : Hid (Box W3 n (bv E))) (HZ2 : Hid (Box W3 (n + 1) (bv bzero)))
    (hQ : ∀ (s4 s5 s14 s15 s16 s17 s18 s19 s20 s21 s22 s23 s24 : Value) (W : World), RelM n w E Z g s4 s5 W → Q .normal ⟨(c0 :: .pointer (some ⟨n, 0, none⟩) :: c2 :: c3 :: s4 :: s5 :: c6 :: c7 :: c8 :: c9 :: c10 :: c11 :: c12 :: c13 :: s14 :: s15 :: s16 :: s17 :: s18 :: s19 :: s20 :: s21 :: s22 :: s23 :: s24 :: c25 :: c26 :: c27 :: c28 :: c29 :: c30 :: c31 :: c32 :: c33 :: c34 :: c35 :: []).toArray, []⟩ W) :
    Code.wp Try.prog reg5n Q ⟨(c0 :: .pointer (some ⟨n, 0, none⟩) :: c2 :: c3 :: c4 :: c5 :: c6 :: c7 :: c8 :: c9 :: c10 :: c11 :: c12 :: c13 :: c14 :: c15 :: c16 :: c17 :: c18 :: c19 :: c20 :: c21 :: c22 :: c23 :: c24 :: c25 :: c26 :: c27 :: c28 :: c29 :: c30 :: c31 :: c32 :: c33 :: c34 :: c35 :: []).toArray, []⟩ W3 := by
  have HQ := Lib.hid hQ
  have z3 : n + 1 < W3.heap.size := HZ2.out.lt
  clear hQ
  conv => arg 2; whnf
  have f4 := HZ1.out.four
  go_region_held3 (fun W => W.cell? ⟨n, 0, none⟩ = some (.int .u64 (U E.ul)) ∧ W.cell? ⟨n, 1, none⟩ = some (.int .u64 (U E.uh)) ∧ W.cell? ⟨n, 4, none⟩ = some (.int .u64 (U E.t.v)) ∧ W.cell? ⟨n, 5, none⟩ = some (.int .u64 (U E.t.m)))
    (first | with_reducible exact K5 | with_reducible exact K4 | with_reducible exact four_set K5 (by omega) | with_reducible exact four_al K5 (by omega) _ | with_reducible exact four_al K4 (by omega) _ | with_reducible exact four_dr f4 | with_reducible exact four_dal f4 (by omega) _)
    (first
    | (go_at_call 100; refine (HM.out _).mono ?_; rintro e w5 ⟨rfl, hb⟩; have hc : Below w4.heap.size w4 w5 := (by first | exact hb | exact below_2 hb); have HC5 := Lib.hid (HC4.out.trans (hc.mono HC4.out.size)); have z5 := Nat.lt_of_lt_of_le z4 hc.size; have K5 := (HZ1.out.next HC5.out).four; (first | (have y6 := Nat.lt_of_lt_of_le y4 hc.size; have BU := Lib.hid (BT.out.next hc); have u1 := BU.out.cell 0 _ rfl; have u2 := BU.out.cell 1 _ rfl; have u3 := BU.out.frozen 0; have u4 := BU.out.frozen 1) | (have y5 := size_2 hb; have BU := Lib.hid ((Box.new w4 [.int .u64 0, .int .u64 0] 24 rfl).next hb); have u1 := BU.out.cell 0 _ rfl; have u2 := BU.out.cell 1 _ rfl; have u3 := BU.out.frozen 0; have u4 := BU.out.frozen 1) | skip); clear hb hc)
    | (go_at_call 101; refine (HR.out _).mono ?_; rintro e w4 ⟨rfl, hb⟩; have hc : Below W3.heap.size W3 w4 := (by first | exact below_0 hb | exact below_1 hb); have HC4 := Lib.hid hc; have z4 := Nat.lt_of_lt_of_le z3 hc.size; have K4 := (HZ1.out.next hc).four; (first | (have y4 := size_1 hb; have BT := Lib.hid ((Box.new W3 [.int .u64 0, .int .u64 0] 24 (b := W3.heap.size) rfl).next (bdrewA hb))) | skip); clear hb hc))
  all_goals first
    | exact HQ.out _ _ _ _ _ _ _ _ _ _ _ _ _ _ (relM_new HV2.out HZ1.out HZ2.out (by omega) HC5.out)
    | exact HQ.out _ _ _ _ _ _ _ _ _ _ _ _ _ _ (relM_set HV2.out HZ1.out HZ2.out (by omega) HC5.out (by omega) BU.out)
theorem narrow_none {b D E : Bd} {g : Bool} {Z : Tn} (h : stepT b D E g Z) (hd : bgood D = false ∨ g = false ∨ bgood E = false) : Ending.returned (.tuple #[.agg #[.int .u64 (U bzero.ul), .int .u64 (U bzero.uh), .int .i64 (S bzero.sl), .int .i64 (S bzero.sh), .int .u64 (U bzero.t.v), .int .u64 (U bzero.t.m)], .bool false]) = .returned (tidyV (tidy1 b)) := by
  have : tidy1 b = none := by
    rw [h]
    rcases hd with hd | hd
    · rw [if_pos hd]
    · rw [if_pos hd]; split <;> rfl
  rw [this]; rfl
theorem narrow_some {b D E : Bd} {g : Bool} {Z : Tn} (h : stepT b D E g Z) (h1 : bgood D = true) (h2 : g = true) (h3 : bgood E = true) : Ending.returned (.tuple #[.agg #[.int .u64 (U E.ul), .int .u64 (U E.uh), .int .i64 (S E.sl), .int .i64 (S E.sh), .int .u64 (U Z.v), .int .u64 (U Z.m)], .bool true]) = .returned (tidyV (tidy1 b)) := by
  have : tidy1 b = some { E with t := Z } := by
    rw [h, if_neg (by rw [h1]; simp), if_neg (by rw [h2, h3]; simp)]
  rw [this]; rfl
theorem tmeet_if {a b : Tn} {g : Bool} (h : tagree a b = g) : (if tagree a b = true then tmeetT a b else tzero) = if g = true then tmeetT a b else tzero := by rw [h]
set_option maxRecDepth 100000 in
set_option maxHeartbeats 4000000 in
theorem narrow_any (b : Bd) (w : World) : Calls Try.prog 78 #[.agg #[.int .u64 (U b.ul), .int .u64 (U b.uh), .int .i64 (S b.sl), .int .i64 (S b.sh), .int .u64 (U b.t.v), .int .u64 (U b.t.m)]] w fun e w' => e = .returned (tidyV (tidy1 b)) ∧ Below w.heap.size w w' := by
  have HB := Lib.hid (fun W => bybits_any b W)
  have HT := Lib.hid (stepT_is b)
  generalize tidyB b = D at *
  have HS := Lib.hid (fun W => bysigns_any D W)
  have HG := Lib.hid (fun W => ordered_any D W)
  generalize tidyS D = E at *
  have HE := Lib.hid (fun W => ordered_any E W)
  have HR := Lib.hid (fun W => trange_any E.ul E.uh W)
  generalize rangeT E.ul E.uh = R at *
  have HM := Lib.hid (fun W => tmeet_any E.t R W)
  have HZ : Hid (tagree E.t R = true → (if tagree E.t R = true then tmeetT E.t R else tzero) = tmeetT E.t R) := Lib.hid (fun h => if_pos h)
  generalize (if tagree E.t R = true then tmeetT E.t R else tzero) = Z at *
  generalize tmeetT E.t R = Z' at *
  generalize tagree E.t R = g at *
  generalize hgD : bgood D = gD at *
  have HGD := Lib.hid hgD
  clear hgD
  generalize hgE : bgood E = gE at *
  have HGE := Lib.hid hgE
  clear hgE
  cases gD with
  | false =>
    go_enter Try.func78, Try.ntmps78
    go_wp2_with (first
      | (go_at_call 44; refine (HG.out _).mono ?_; rintro e w2 ⟨rfl, hb⟩; have B2 := Lib.hid (bnext HV.out hb); have f1' := (HY1.out.next hb).six; have g1' := (HY2.out.next hb).six0; clear hb f1 f2 f3 g1 g2 g3; obtain ⟨f1, f2, f3⟩ := f1'; obtain ⟨g1, g2, g3⟩ := g1')
      | (go_at_call 98; refine (HB.out _).mono ?_; rintro e w1 ⟨rfl, hb⟩; have B1 := Lib.hid (bl2 hb).1; have HY1 := Lib.hid (((box_a w b _ _).next hb).setD D); have HY2 := Lib.hid (((box_z2 w _ _).next hb).farD w.heap.size D (by omega)); have HV := Lib.hid (below_setD w.heap.size D B1.out (Nat.le_refl _)); have f1' := ((box_a w b _ _).next hb).six; have g1' := ((box_z2 w _ _).next hb).six0; clear hb; obtain ⟨f1, f2, f3⟩ := f1'; obtain ⟨g1, g2, g3⟩ := g1'))
    exact bodyPost_ret (v := .tuple #[.agg #[.int .u64 (U bzero.ul), .int .u64 (U bzero.uh), .int .i64 (S bzero.sl), .int .i64 (S bzero.sh), .int .u64 (U bzero.t.v), .int .u64 (U bzero.t.m)], .bool false]) (by simp [results, Try.results78, go_sem, bzero, U_0, S_0, g1]) rfl ⟨narrow_none HT.out (.inl HGD.out), set6 B2.out (by omega)⟩
  | true =>
    go_enter Try.func78, Try.ntmps78
    go_wp2_with (first
      | (go_at_call 99; refine (HS.out _).mono ?_; rintro e w3 ⟨rfl, hb⟩; have B3 := Lib.hid (bnext B2.out hb); have HZ1 := Lib.hid ((HX1.out.next hb).setD E); have HZ2 := Lib.hid ((HX2.out.next hb).farD w.heap.size E (by omega)); have HV2 := Lib.hid (below_setD w.heap.size E B3.out (Nat.le_refl _)); have f1' := (HX1.out.next hb).six; have g1' := (HX2.out.next hb).six0; clear f1 f2 f3 g1 g2 g3 hb; obtain ⟨f1, f2, f3⟩ := f1'; obtain ⟨g1, g2, g3⟩ := g1')
      | (go_at_call 44; refine (HG.out _).mono ?_; rintro e w2 ⟨rfl, hb⟩; have B2 := Lib.hid (bnext HV.out hb); have HX1 := Lib.hid (HY1.out.next hb); have HX2 := Lib.hid (HY2.out.next hb); clear hb f1 f2 f3 g1 g2 g3; obtain ⟨f1, f2, f3⟩ := HX1.out.six; obtain ⟨g1, g2, g3⟩ := HX2.out.six0)
      | (go_at_call 98; refine (HB.out _).mono ?_; rintro e w1 ⟨rfl, hb⟩; have B1 := Lib.hid (bl2 hb).1; have HY1 := Lib.hid (((box_a w b _ _).next hb).setD D); have HY2 := Lib.hid (((box_z2 w _ _).next hb).farD w.heap.size D (by omega)); have HV := Lib.hid (below_setD w.heap.size D B1.out (Nat.le_refl _)); have f1' := ((box_a w b _ _).next hb).six; have g1' := ((box_z2 w _ _).next hb).six0; clear hb; obtain ⟨f1, f2, f3⟩ := f1'; obtain ⟨g1, g2, g3⟩ := g1'))
    clear f1 f2 f3 g1 g2 g3
    generalize ((((((w3.setCell ⟨w.heap.size, 0, none⟩ (.int .u64 (U E.ul))).setCell ⟨w.heap.size, 1, none⟩ (.int .u64 (U E.uh))).setCell ⟨w.heap.size, 2, none⟩ (.int .i64 (S E.sl))).setCell ⟨w.heap.size, 3, none⟩ (.int .i64 (S E.sh))).setCell ⟨w.heap.size, 4, none⟩ (.int .u64 (U E.t.v))).setCell ⟨w.heap.size, 5, none⟩ (.int .u64 (U E.t.m))) = W3 at *
    refine reg5n_wp w.heap.size w E R Z g W3 _ _ _ _ _ _ _ _ _ _ _ _ _ _ _ _ _ _ _ _ _ _ _ _ _ _ _ _ _ _ _ _ _ _ _ _ HR HM HV2 HZ1 HZ2 ?_
    intro s4 s5 s14 s15 s16 s17 s18 s19 s20 s21 s22 s23 s24 W4 hM
    obtain ⟨T, rfl, rfl, hV, hX, hY, hT, hZ⟩ := hM
    clear HZ1 HZ2 HV2 HB HS HR HM B1 B2 B3 HY1 HY2 HV HX1 HX2
    have HV := Lib.hid hV
    have HX := Lib.hid hX
    have HY := Lib.hid hY
    have HQ := Lib.hid hZ
    obtain ⟨f1, f2, f3⟩ := hX.six
    obtain ⟨g1, g2, g3⟩ := hY.six0
    clear hV hX hY hZ
    cases g with
    | false =>
      go_wp2_with fail
      exact bodyPost_ret (v := .tuple #[.agg #[.int .u64 (U bzero.ul), .int .u64 (U bzero.uh), .int .i64 (S bzero.sl), .int .i64 (S bzero.sh), .int .u64 (U bzero.t.v), .int .u64 (U bzero.t.m)], .bool false]) (by simp [results, Try.results78, go_sem, bzero, U_0, S_0, g1]) rfl ⟨narrow_none HT.out (.inr (.inl rfl)), set6 HV.out (by omega)⟩
    | true =>
    cases gE with
    | false =>
      go_wp2_with (go_at_call 44; refine (HE.out _).mono ?_; rintro e w5 ⟨rfl, hb⟩; have B5 := Lib.hid (HV.out.trans (hb.mono HV.out.size)); clear f1 f2 f3 g1 g2 g3; obtain ⟨g1, g2, g3⟩ := (HY.out.next hb).six0; clear hb)
      exact bodyPost_ret (v := .tuple #[.agg #[.int .u64 (U bzero.ul), .int .u64 (U bzero.uh), .int .i64 (S bzero.sl), .int .i64 (S bzero.sh), .int .u64 (U bzero.t.v), .int .u64 (U bzero.t.m)], .bool false]) (by simp [results, Try.results78, go_sem, bzero, U_0, S_0, g1]) rfl ⟨narrow_none HT.out (.inr (.inr HGE.out)), set6 B5.out (by omega)⟩
    | true =>
      have HW := Lib.hid (HZ.out rfl)
      subst Z'
      go_wp2_with (go_at_call 44; refine (HE.out _).mono ?_; rintro e w5 ⟨rfl, hb⟩; have B5 := Lib.hid (HV.out.trans (hb.mono HV.out.size)); have QX := Lib.hid (HX.out.next hb); have QY := Lib.hid (HY.out.next hb); have t1 := (HQ.out.next hb).cell 0 _ rfl; have t2 := (HQ.out.next hb).cell 1 _ rfl; clear f1 f2 f3 g1 g2 g3 hb; obtain ⟨f1, f2, f3⟩ := QX.out.six; obtain ⟨g1, g2, g3⟩ := QY.out.six0)
      exact bodyPost_ret (v := .tuple #[.agg #[.int .u64 (U E.ul), .int .u64 (U E.uh), .int .i64 (S E.sl), .int .i64 (S E.sh), .int .u64 (U Z.v), .int .u64 (U Z.m)], .bool true]) (by simp [results, Try.results78, go_sem, g1]) rfl ⟨narrow_some HT.out HGD.out rfl HGE.out, set6 (below_set2 B5.out (Nat.le_refl _)) (by omega)⟩
end Go.Proofs.Yticjhcbkkkkckaa

/- Bounds: contracts of package bound: what is in one of two. -/
namespace Go.Proofs.Yticjhcbkkkkckaa
open Go.RowKit
attribute [local go_sem] b_and b_or b_xor b_andNot b_low b_top b_most b_signed b_unsigned b_zero b_eq s_eq b_nzero b_neq s_neq b_max b_min s_max s_min
attribute [local go_sem ↓] Go.wp_at_zero Go.wp_at_succ

end Go.Proofs.Yticjhcbkkkkckaa

/- Bounds: contracts of package bound: Tidy, Size. -/
namespace Go.Proofs.Yticjhcbkkkkckaa
open Go.RowKit
attribute [local go_sem] b_and b_or b_xor b_andNot b_low b_top b_most b_signed b_unsigned b_zero b_eq s_eq b_nzero b_neq s_neq b_max b_min s_max s_min
attribute [local go_sem ↓] Go.wp_at_zero Go.wp_at_succ

theorem tidy_bind (b : Bd) : tidy b = (tidy1 b).bind tidy1 := rfl
set_option maxRecDepth 100000 in
set_option maxHeartbeats 2000000 in
theorem btidy_any (b : Bd) (w : World) : Calls Try.prog 46 #[.agg #[.int .u64 (U b.ul), .int .u64 (U b.uh), .int .i64 (S b.sl), .int .i64 (S b.sh), .int .u64 (U b.t.v), .int .u64 (U b.t.m)]] w fun e w' => e = .returned (tidyV (tidy b)) ∧ Below w.heap.size w w' := by
  have H1 := Lib.hid (fun W => narrow_any b W)
  rw [tidy_bind]
  generalize hO : tidy1 b = o at *
  have HO := Lib.hid hO
  clear hO
  cases o with
  | none =>
    show Calls Try.prog 46 #[.agg #[.int .u64 (U b.ul), .int .u64 (U b.uh), .int .i64 (S b.sl), .int .i64 (S b.sh), .int .u64 (U b.t.v), .int .u64 (U b.t.m)]] w fun e w' => e = .returned (.tuple #[.agg #[.int .u64 (U bzero.ul), .int .u64 (U bzero.uh), .int .i64 (S bzero.sl), .int .i64 (S bzero.sh), .int .u64 (U bzero.t.v), .int .u64 (U bzero.t.m)], .bool false]) ∧ Below w.heap.size w w'
    simp only [tidyV] at H1
    go_enter Try.func46, Try.ntmps46
    go_wp2_with (go_at_call 78; refine (H1.out _).mono ?_; rintro e w1 ⟨rfl, hb⟩; have B1 := Lib.hid (bl2 hb).1; have f1' := ((box_a w b _ _).next hb).six; have g1' := ((box_z2 w _ _).next hb).six0; clear hb; obtain ⟨f1, f2, f3⟩ := f1'; obtain ⟨g1, g2, g3⟩ := g1')
    exact bodyPost_ret (v := .tuple #[.agg #[.int .u64 (U bzero.ul), .int .u64 (U bzero.uh), .int .i64 (S bzero.sl), .int .i64 (S bzero.sh), .int .u64 (U bzero.t.v), .int .u64 (U bzero.t.m)], .bool false]) (by simp [results, Try.results46, go_sem, g1, g3]) rfl ⟨rfl, (set6 B1.out (by omega)).alloc (by simp; have := B1.out.size; omega) _⟩
  | some c =>
    simp only [tidyV] at H1
    by_cases hc : c = b
    · have he : ∀ W, (binOp .eql 26 (.agg #[.int .u64 (U c.ul), .int .u64 (U c.uh), .int .i64 (S c.sl), .int .i64 (S c.sh), .int .u64 (U c.t.v), .int .u64 (U c.t.m)]) (.agg #[.int .u64 (U b.ul), .int .u64 (U b.uh), .int .i64 (S b.sl), .int .i64 (S b.sh), .int .u64 (U b.t.v), .int .u64 (U b.t.m)])).run Try.prog W = .ok (.bool true) W := fun W => by rw [eqD c b W, decide_eq_true hc]
      have HE : Hid (tidyV ((some c).bind tidy1) = .tuple #[.agg #[.int .u64 (U c.ul), .int .u64 (U c.uh), .int .i64 (S c.sl), .int .i64 (S c.sh), .int .u64 (U c.t.v), .int .u64 (U c.t.m)], .bool true]) := Lib.hid (by
        show tidyV (tidy1 c) = _
        rw [hc, HO.out, ← hc]; rfl)
      clear hc
      go_enter Try.func46, Try.ntmps46
      go_wp2_with (go_at_call 78; refine (H1.out _).mono ?_; rintro e w1 ⟨rfl, hb⟩; have B1 := Lib.hid (bl2 hb).1; have f1' := ((box_a w b _ _).next hb).six; have g1' := ((box_z2 w _ _).next hb).six0; clear hb; obtain ⟨f1, f2, f3⟩ := f1'; obtain ⟨g1, g2, g3⟩ := g1')
      exact bodyPost_ret (v := .tuple #[.agg #[.int .u64 (U c.ul), .int .u64 (U c.uh), .int .i64 (S c.sl), .int .i64 (S c.sh), .int .u64 (U c.t.v), .int .u64 (U c.t.m)], .bool true]) (by simp [results, Try.results46, go_sem, g1, g3]) rfl ⟨by rw [HE.out], (set6 B1.out (by omega)).alloc (by simp; have := B1.out.size; omega) _⟩
    · have he : ∀ W, (binOp .eql 26 (.agg #[.int .u64 (U c.ul), .int .u64 (U c.uh), .int .i64 (S c.sl), .int .i64 (S c.sh), .int .u64 (U c.t.v), .int .u64 (U c.t.m)]) (.agg #[.int .u64 (U b.ul), .int .u64 (U b.uh), .int .i64 (S b.sl), .int .i64 (S b.sh), .int .u64 (U b.t.v), .int .u64 (U b.t.m)])).run Try.prog W = .ok (.bool false) W := fun W => by rw [eqD c b W, decide_eq_false hc]
      clear hc
      have H2 := Lib.hid (fun W => narrow_any c W)
      show Calls Try.prog 46 #[.agg #[.int .u64 (U b.ul), .int .u64 (U b.uh), .int .i64 (S b.sl), .int .i64 (S b.sh), .int .u64 (U b.t.v), .int .u64 (U b.t.m)]] w fun e w' => e = .returned (tidyV (tidy1 c)) ∧ Below w.heap.size w w'
      generalize tidy1 c = p at *
      cases p with
      | none =>
        simp only [tidyV] at H2
        show Calls Try.prog 46 #[.agg #[.int .u64 (U b.ul), .int .u64 (U b.uh), .int .i64 (S b.sl), .int .i64 (S b.sh), .int .u64 (U b.t.v), .int .u64 (U b.t.m)]] w fun e w' => e = .returned (.tuple #[.agg #[.int .u64 (U bzero.ul), .int .u64 (U bzero.uh), .int .i64 (S bzero.sl), .int .i64 (S bzero.sh), .int .u64 (U bzero.t.v), .int .u64 (U bzero.t.m)], .bool false]) ∧ Below w.heap.size w w'
        go_enter Try.func46, Try.ntmps46
        go_wp2_with (first
          | (go_at_call 78; with_reducible refine (H1.out _).mono ?_; rintro e w1 ⟨rfl, hb⟩; have B1 := Lib.hid (bl2 hb).1; have Y2 := Lib.hid ((box_z2 w _ _).next hb); have f1' := ((box_a w b _ _).next hb).six; clear hb; obtain ⟨f1, f2, f3⟩ := f1'; obtain ⟨g1, g2, g3⟩ := Y2.out.six0)
          | (go_at_call 78; with_reducible refine (H2.out _).mono ?_; rintro e w2 ⟨rfl, hb⟩; have B2 := Lib.hid (bnext B1.out (bl1 hb).1); clear g1 g2 g3; obtain ⟨g1, g2, g3⟩ := (Y2.out.next (bl1 hb).1).six0; clear hb))
        exact bodyPost_ret (v := .tuple #[.agg #[.int .u64 (U bzero.ul), .int .u64 (U bzero.uh), .int .i64 (S bzero.sl), .int .i64 (S bzero.sh), .int .u64 (U bzero.t.v), .int .u64 (U bzero.t.m)], .bool false]) (by simp [results, Try.results46, go_sem, g1]) rfl ⟨rfl, set6 B2.out (by omega)⟩
      | some d =>
        simp only [tidyV] at H2
        show Calls Try.prog 46 #[.agg #[.int .u64 (U b.ul), .int .u64 (U b.uh), .int .i64 (S b.sl), .int .i64 (S b.sh), .int .u64 (U b.t.v), .int .u64 (U b.t.m)]] w fun e w' => e = .returned (.tuple #[.agg #[.int .u64 (U d.ul), .int .u64 (U d.uh), .int .i64 (S d.sl), .int .i64 (S d.sh), .int .u64 (U d.t.v), .int .u64 (U d.t.m)], .bool true]) ∧ Below w.heap.size w w'
        go_enter Try.func46, Try.ntmps46
        go_wp2_with (first
          | (go_at_call 78; with_reducible refine (H1.out _).mono ?_; rintro e w1 ⟨rfl, hb⟩; have B1 := Lib.hid (bl2 hb).1; have Y2 := Lib.hid ((box_z2 w _ _).next hb); have f1' := ((box_a w b _ _).next hb).six; clear hb; obtain ⟨f1, f2, f3⟩ := f1'; obtain ⟨g1, g2, g3⟩ := Y2.out.six0)
          | (go_at_call 78; with_reducible refine (H2.out _).mono ?_; rintro e w2 ⟨rfl, hb⟩; have B2 := Lib.hid (bnext B1.out (bl1 hb).1); clear g1 g2 g3; obtain ⟨g1, g2, g3⟩ := (Y2.out.next (bl1 hb).1).six0; clear hb))
        exact bodyPost_ret (v := .tuple #[.agg #[.int .u64 (U d.ul), .int .u64 (U d.uh), .int .i64 (S d.sl), .int .i64 (S d.sh), .int .u64 (U d.t.v), .int .u64 (U d.t.m)], .bool true]) (by simp [results, Try.results46, go_sem, g1]) rfl ⟨rfl, set6 B2.out (by omega)⟩
theorem bsize_any (n : Int) (w : World) : Calls Try.prog 49 #[.int .i64 n] w fun e w' => e = .returned (.agg #[.int .u64 (U (bsize n).ul), .int .u64 (U (bsize n).uh), .int .i64 (S (bsize n).sl), .int .i64 (S (bsize n).sh), .int .u64 (U (bsize n).t.v), .int .u64 (U (bsize n).t.m)]) ∧ Below w.heap.size w w' := by
  have HA := Lib.hid (fun W => bany_any W)
  have H1 : Hid (∀ W, Calls Try.prog 47 #[.int .u64 255, .agg #[.int .u64 0, .int .u64 255]] W fun e w' => e = .returned (.agg #[.int .u64 (U (bupto 255#64).ul), .int .u64 (U (bupto 255#64).uh), .int .i64 (S (bupto 255#64).sl), .int .i64 (S (bupto 255#64).sh), .int .u64 (U (bupto 255#64).t.v), .int .u64 (U (bupto 255#64).t.m)]) ∧ Below W.heap.size W w') := Lib.hid (fun W => upto_any 255#64 ⟨0#64, 255#64⟩ W)
  have H2 : Hid (∀ W, Calls Try.prog 47 #[.int .u64 65535, .agg #[.int .u64 0, .int .u64 65535]] W fun e w' => e = .returned (.agg #[.int .u64 (U (bupto 65535#64).ul), .int .u64 (U (bupto 65535#64).uh), .int .i64 (S (bupto 65535#64).sl), .int .i64 (S (bupto 65535#64).sh), .int .u64 (U (bupto 65535#64).t.v), .int .u64 (U (bupto 65535#64).t.m)]) ∧ Below W.heap.size W w') := Lib.hid (fun W => upto_any 65535#64 ⟨0#64, 65535#64⟩ W)
  have H4 : Hid (∀ W, Calls Try.prog 47 #[.int .u64 4294967295, .agg #[.int .u64 0, .int .u64 4294967295]] W fun e w' => e = .returned (.agg #[.int .u64 (U (bupto low32).ul), .int .u64 (U (bupto low32).uh), .int .i64 (S (bupto low32).sl), .int .i64 (S (bupto low32).sh), .int .u64 (U (bupto low32).t.v), .int .u64 (U (bupto low32).t.m)]) ∧ Below W.heap.size W w') := Lib.hid (fun W => upto_any low32 ⟨0#64, low32⟩ W)
  generalize hd1 : bupto 255#64 = D1 at *
  generalize hd2 : bupto 65535#64 = D2 at *
  generalize hd4 : bupto low32 = D4 at *
  generalize hda : bany = DA at *
  have HS : Hid (bsize n = if n = 1 then D1 else if n = 2 then D2 else if n = 4 then D4 else DA) := Lib.hid (by unfold bsize; rw [hd1, hd2, hd4, hda])
  clear hd1 hd2 hd4 hda
  by_cases e1 : n = 1
  · have HE : Hid (bsize n = D1) := Lib.hid (HS.out.trans (if_pos e1))
    rw [HE.out]
    subst e1
    go_enter Try.func49, Try.ntmps49
    go_wp2_with (go_at_call 47; refine (H1.out _).mono ?_; rintro e w1 ⟨rfl, hb⟩; have B1 := Lib.hid (bl1 hb); have K1 := bcell hb; clear hb)
    have hz := B1.out.2
    exact bodyPost_ret (v := .agg #[.int .u64 (U D1.ul), .int .u64 (U D1.uh), .int .i64 (S D1.sl), .int .i64 (S D1.sh), .int .u64 (U D1.t.v), .int .u64 (U D1.t.m)]) (by simp [results, Try.results49, go_sem, K1]) rfl ⟨rfl, set6 B1.out.1 (by omega)⟩
  by_cases e2 : n = 2
  · have HE : Hid (bsize n = D2) := Lib.hid (HS.out.trans ((if_neg e1).trans (if_pos e2)))
    rw [HE.out]
    subst e2
    clear e1
    go_enter Try.func49, Try.ntmps49
    go_wp2_with (go_at_call 47; refine (H2.out _).mono ?_; rintro e w1 ⟨rfl, hb⟩; have B1 := Lib.hid (bl1 hb); have K1 := bcell hb; clear hb)
    have hz := B1.out.2
    exact bodyPost_ret (v := .agg #[.int .u64 (U D2.ul), .int .u64 (U D2.uh), .int .i64 (S D2.sl), .int .i64 (S D2.sh), .int .u64 (U D2.t.v), .int .u64 (U D2.t.m)]) (by simp [results, Try.results49, go_sem, K1]) rfl ⟨rfl, set6 B1.out.1 (by omega)⟩
  by_cases e4 : n = 4
  · have HE : Hid (bsize n = D4) := Lib.hid (HS.out.trans ((if_neg e1).trans ((if_neg e2).trans (if_pos e4))))
    rw [HE.out]
    subst e4
    clear e1 e2
    go_enter Try.func49, Try.ntmps49
    go_wp2_with (go_at_call 47; refine (H4.out _).mono ?_; rintro e w1 ⟨rfl, hb⟩; have B1 := Lib.hid (bl1 hb); have K1 := bcell hb; clear hb)
    have hz := B1.out.2
    exact bodyPost_ret (v := .agg #[.int .u64 (U D4.ul), .int .u64 (U D4.uh), .int .i64 (S D4.sl), .int .i64 (S D4.sh), .int .u64 (U D4.t.v), .int .u64 (U D4.t.m)]) (by simp [results, Try.results49, go_sem, K1]) rfl ⟨rfl, set6 B1.out.1 (by omega)⟩
  have HE : Hid (bsize n = DA) := Lib.hid (HS.out.trans ((if_neg e1).trans ((if_neg e2).trans (if_neg e4))))
  rw [HE.out]
  have b1' : (n != 1) = true := by simpa using e1
  have b2' : (n != 2) = true := by simpa using e2
  have b4' : (n != 4) = true := by simpa using e4
  clear e1 e2 e4
  go_enter Try.func49, Try.ntmps49
  go_wp2_with (go_at_call 17; refine (HA.out _).mono ?_; rintro e w1 ⟨rfl, hb⟩; have B1 := Lib.hid (bl1 hb); have K1 := bcell hb; clear hb)
  have hz := B1.out.2
  exact bodyPost_ret (v := .agg #[.int .u64 (U DA.ul), .int .u64 (U DA.uh), .int .i64 (S DA.sl), .int .i64 (S DA.sh), .int .u64 (U DA.t.v), .int .u64 (U DA.t.m)]) (by simp [results, Try.results49, go_sem, K1]) rfl ⟨rfl, set6 B1.out.1 (by omega)⟩
end Go.Proofs.Yticjhcbkkkkckaa

/- Bounds: contracts of package bound: Within, Meet, Low. -/
namespace Go.Proofs.Yticjhcbkkkkckaa
open Go.RowKit
attribute [local go_sem] b_and b_or b_xor b_andNot b_low b_top b_most b_signed b_unsigned b_zero b_eq s_eq b_nzero b_neq s_neq b_max b_min s_max s_min
attribute [local go_sem ↓] Go.wp_at_zero Go.wp_at_succ

theorem bwithin_is (a b : Bd) : (ubet a.ul b.ul a.uh && (ubet a.ul b.uh a.uh && (sbet a.sl b.sl a.sh && (sbet a.sl b.sh a.sh && twithin a.t b.t)))) = bwithin a b := by
  rw [ubet_u, ubet_u, sbet_s, sbet_s, ← Bool.and_assoc, ← Bool.and_assoc, ← Bool.and_assoc]; rfl
set_option maxRecDepth 100000 in
set_option maxHeartbeats 2000000 in
theorem blow_any (b : Bd) (w : World) : Calls Try.prog 20 #[.agg #[.int .u64 (U b.ul), .int .u64 (U b.uh), .int .i64 (S b.sl), .int .i64 (S b.sh), .int .u64 (U b.t.v), .int .u64 (U b.t.m)]] w fun e w' => e = .returned (.agg #[.int .u64 (U (blow b).ul), .int .u64 (U (blow b).uh), .int .i64 (S (blow b).sl), .int .i64 (S (blow b).sh), .int .u64 (U (blow b).t.v), .int .u64 (U (blow b).t.m)]) ∧ Below w.heap.size w w' := by
  by_cases h : U b.uh ≤ 4294967295
  · rw [blow_1 h]
    go_enter Try.func20, Try.ntmps20
    go_wp2_with fail
    exact bodyPost_ret (v := .agg #[.int .u64 (U b.ul), .int .u64 (U b.uh), .int .i64 (S b.sl), .int .i64 (S b.sh), .int .u64 (U b.t.v), .int .u64 (U b.t.m)]) (by simp [results, Try.results20, go_sem]) rfl ⟨rfl, b2⟩
  have h' : 4294967295 < U b.uh := by omega
  clear h
  have HL := Lib.hid (fun W => tlow_any b.t W)
  have HP : Hid (∀ W, Calls Try.prog 47 #[.int .u64 4294967295, .agg #[.int .u64 (U (tlow b.t).v), .int .u64 (U (tlow b.t).m)]] W fun e w' => e = .returned (.agg #[.int .u64 (U (({ bupto low32 with t := tlow b.t } : Bd)).ul), .int .u64 (U (({ bupto low32 with t := tlow b.t } : Bd)).uh), .int .i64 (S (({ bupto low32 with t := tlow b.t } : Bd)).sl), .int .i64 (S (({ bupto low32 with t := tlow b.t } : Bd)).sh), .int .u64 (U (({ bupto low32 with t := tlow b.t } : Bd)).t.v), .int .u64 (U (({ bupto low32 with t := tlow b.t } : Bd)).t.m)]) ∧ Below W.heap.size W w') := Lib.hid (fun W => upto_any low32 (tlow b.t) W)
  have HS := Lib.hid (fun W => bsize_any 4 W)
  rw [show bsize 4 = bupto low32 from rfl] at HS
  have HT := Lib.hid (fun W => btidy_any { bupto low32 with t := tlow b.t } W)
  have HO := Lib.hid (blow_2 h' rfl)
  generalize tlow b.t = t at *
  generalize ({ bupto low32 with t := t } : Bd) = D' at *
  generalize hO : tidy D' = o at *
  clear hO
  rw [HO.out]
  generalize bupto low32 = D at *
  cases o with
  | none =>
    simp only [tidyV] at HT
    show Calls Try.prog 20 #[.agg #[.int .u64 (U b.ul), .int .u64 (U b.uh), .int .i64 (S b.sl), .int .i64 (S b.sh), .int .u64 (U b.t.v), .int .u64 (U b.t.m)]] w fun e w' => e = .returned (.agg #[.int .u64 (U D.ul), .int .u64 (U D.uh), .int .i64 (S D.sl), .int .i64 (S D.sh), .int .u64 (U D.t.v), .int .u64 (U D.t.m)]) ∧ Below w.heap.size w w'
    go_enter Try.func20, Try.ntmps20
    go_wp2_with (first
      | (go_at_call 49; refine (HS.out _).mono ?_; rintro e w4 ⟨rfl, hb⟩; have B4 := Lib.hid (bnext B3.out (bl1 hb).1); have Z4 := (Z3.out.next (bl1 hb).1).six0; clear hb; obtain ⟨g1, g2, g3⟩ := Z4)
      | (go_at_call 46; refine (HT.out _).mono ?_; rintro e w3 ⟨rfl, hb⟩; have B3 := Lib.hid (bnext B2.out hb); have Z3 := Lib.hid (Z2.out.next hb); clear hb)
      | (go_at_call 47; refine (HP.out _).mono ?_; rintro e w2 ⟨rfl, hb⟩; have B2 := Lib.hid (bnext B1.out hb); have Z2 := Lib.hid (Z1.out.next hb); clear hb)
      | (go_at_call 48; refine (HL.out _).mono ?_; rintro e w1 ⟨rfl, hb⟩; have B1 := Lib.hid (bl2 hb).1; have Z1 := Lib.hid ((box_z2 w _ _).next hb); clear hb))
    exact bodyPost_ret (v := .agg #[.int .u64 (U D.ul), .int .u64 (U D.uh), .int .i64 (S D.sl), .int .i64 (S D.sh), .int .u64 (U D.t.v), .int .u64 (U D.t.m)]) (by simp [results, Try.results20, go_sem, g1]) rfl ⟨rfl, set6 B4.out (by omega)⟩
  | some c =>
    simp only [tidyV] at HT
    show Calls Try.prog 20 #[.agg #[.int .u64 (U b.ul), .int .u64 (U b.uh), .int .i64 (S b.sl), .int .i64 (S b.sh), .int .u64 (U b.t.v), .int .u64 (U b.t.m)]] w fun e w' => e = .returned (.agg #[.int .u64 (U c.ul), .int .u64 (U c.uh), .int .i64 (S c.sl), .int .i64 (S c.sh), .int .u64 (U c.t.v), .int .u64 (U c.t.m)]) ∧ Below w.heap.size w w'
    go_enter Try.func20, Try.ntmps20
    go_wp2_with (first
      | (go_at_call 46; refine (HT.out _).mono ?_; rintro e w3 ⟨rfl, hb⟩; have B3 := Lib.hid (bnext B2.out hb); have Z3 := (Z2.out.next hb).six0; clear hb; obtain ⟨g1, g2, g3⟩ := Z3)
      | (go_at_call 47; refine (HP.out _).mono ?_; rintro e w2 ⟨rfl, hb⟩; have B2 := Lib.hid (bnext B1.out hb); have Z2 := Lib.hid (Z1.out.next hb); clear hb)
      | (go_at_call 48; refine (HL.out _).mono ?_; rintro e w1 ⟨rfl, hb⟩; have B1 := Lib.hid (bl2 hb).1; have Z1 := Lib.hid ((box_z2 w _ _).next hb); clear hb))
    exact bodyPost_ret (v := .agg #[.int .u64 (U c.ul), .int .u64 (U c.uh), .int .i64 (S c.sl), .int .i64 (S c.sh), .int .u64 (U c.t.v), .int .u64 (U c.t.m)]) (by simp [results, Try.results20, go_sem, g1, g3]) rfl ⟨rfl, (set6 B3.out (by omega)).alloc (by simp; have := B3.out.size; omega) _⟩
end Go.Proofs.Yticjhcbkkkkckaa
