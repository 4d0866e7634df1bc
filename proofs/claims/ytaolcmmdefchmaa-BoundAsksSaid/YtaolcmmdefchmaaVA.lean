/- Bounds: contracts of package bound: what lies between, what is in order, from nought up to a number, all numbers, one number, some bytes, the questions. -/
import Derived.Test.YtaolcmmdefchmaaWK
namespace Go.Proofs.Ytaolcmmdefchmaa
open Go.RowKit
attribute [local go_sem] b_and b_or b_xor b_andNot b_low b_top b_most b_signed b_unsigned b_zero b_eq s_eq b_nzero b_neq s_neq b_max b_min s_max s_min
attribute [local go_sem ↓] Go.wp_at_zero Go.wp_at_succ

def ubet (a x c : B) : Bool := decide (U a ≤ U x) && decide (U x ≤ U c)
def sbet (a x c : B) : Bool := decide (S a ≤ S x) && decide (S x ≤ S c)
theorem ubet_no1 {a x c : B} (h : ¬ U a ≤ U x) : ubet a x c = false := by simp [ubet, h]
theorem ubet_no2 {a x c : B} (h : ¬ U x ≤ U c) : ubet a x c = false := by simp [ubet, h]
theorem ubet_yes {a x c : B} (h : U a ≤ U x) (h2 : U x ≤ U c) : ubet a x c = true := by simp [ubet, h, h2]
theorem sbet_no1 {a x c : B} (h : ¬ S a ≤ S x) : sbet a x c = false := by simp [sbet, h]
theorem sbet_no2 {a x c : B} (h : ¬ S x ≤ S c) : sbet a x c = false := by simp [sbet, h]
theorem sbet_yes {a x c : B} (h : S a ≤ S x) (h2 : S x ≤ S c) : sbet a x c = true := by simp [sbet, h, h2]
theorem ubet_any (a x c : B) (w : World) : Calls Try.prog 35 #[.int .u64 (U a), .int .u64 (U x), .int .u64 (U c)] w fun e w' => e = .returned (.bool (ubet a x c)) ∧ w = w' := by
  by_cases h1 : U a ≤ U x
  · by_cases h2 : U x ≤ U c
    · rw [ubet_yes h1 h2]
      go_enter Try.func35, Try.ntmps35
      go_wp2_with fail
      go_ret
      exact ⟨rfl, rfl⟩
    · rw [ubet_no2 h2]
      go_enter Try.func35, Try.ntmps35
      go_wp2_with fail
      go_ret
      exact ⟨rfl, rfl⟩
  · rw [ubet_no1 h1]
    go_enter Try.func35, Try.ntmps35
    go_wp2_with fail
    go_ret
    exact ⟨rfl, rfl⟩
theorem sbet_any (a x c : B) (w : World) : Calls Try.prog 36 #[.int .i64 (S a), .int .i64 (S x), .int .i64 (S c)] w fun e w' => e = .returned (.bool (sbet a x c)) ∧ w = w' := by
  by_cases h1 : S a ≤ S x
  · by_cases h2 : S x ≤ S c
    · rw [sbet_yes h1 h2]
      go_enter Try.func36, Try.ntmps36
      go_wp2_with fail
      go_ret
      exact ⟨rfl, rfl⟩
    · rw [sbet_no2 h2]
      go_enter Try.func36, Try.ntmps36
      go_wp2_with fail
      go_ret
      exact ⟨rfl, rfl⟩
  · rw [sbet_no1 h1]
    go_enter Try.func36, Try.ntmps36
    go_wp2_with fail
    go_ret
    exact ⟨rfl, rfl⟩
theorem ubet_u (b : Bd) (x : B) : ubet b.ul x b.uh = uinB b x := by
  unfold ubet uinB U
  rw [Bool.eq_iff_iff]; simp
theorem sbet_s (b : Bd) (x : B) : sbet b.sl x b.sh = sinB b x := rfl
theorem ordered_is (b : Bd) : (ubet b.ul b.ul b.uh && sbet b.sl b.sl b.sh) = bgood b := by
  rw [ubet_u, sbet_s, Bool.eq_iff_iff, bgood_iff]
  unfold uinB sinB
  simp
theorem ordered_any (b : Bd) (w : World) : Calls Try.prog 41 #[.agg #[.int .u64 (U b.ul), .int .u64 (U b.uh), .int .i64 (S b.sl), .int .i64 (S b.sh), .int .u64 (U b.t.v), .int .u64 (U b.t.m)]] w fun e w' => e = .returned (.bool (bgood b)) ∧ Below w.heap.size w w' := by
  rw [← ordered_is]
  have H1 := Lib.hid (fun W => ubet_any b.ul b.ul b.uh W)
  have H2 := Lib.hid (fun W => sbet_any b.sl b.sl b.sh W)
  generalize ubet b.ul b.ul b.uh = g at *
  generalize sbet b.sl b.sl b.sh = h at *
  cases g with
  | false =>
    go_enter Try.func41, Try.ntmps41
    go_wp2_with (go_at_call 35; refine (H1.out _).mono ?_; rintro e w1 ⟨rfl, rfl⟩)
    go_ret
    exact ⟨rfl, b1⟩
  | true =>
    go_enter Try.func41, Try.ntmps41
    go_wp2_with (first
      | (go_at_call 36; refine (H2.out _).mono ?_; rintro e w2 ⟨rfl, rfl⟩)
      | (go_at_call 35; refine (H1.out _).mono ?_; rintro e w1 ⟨rfl, rfl⟩))
    go_ret
    exact ⟨rfl, b1⟩
theorem upto_any (x : B) (t : Tn) (w : World) : Calls Try.prog 47 #[.int .u64 (U x), .agg #[.int .u64 (U t.v), .int .u64 (U t.m)]] w fun e w' => e = .returned (.agg #[.int .u64 (U ((⟨0#64, x, 0#64, x, t⟩ : Bd)).ul), .int .u64 (U ((⟨0#64, x, 0#64, x, t⟩ : Bd)).uh), .int .i64 (S ((⟨0#64, x, 0#64, x, t⟩ : Bd)).sl), .int .i64 (S ((⟨0#64, x, 0#64, x, t⟩ : Bd)).sh), .int .u64 (U ((⟨0#64, x, 0#64, x, t⟩ : Bd)).t.v), .int .u64 (U ((⟨0#64, x, 0#64, x, t⟩ : Bd)).t.m)]) ∧ Below w.heap.size w w' := by
  go_enter Try.func47, Try.ntmps47
  go_wp2_with fail
  exact bodyPost_ret (v := .agg #[.int .u64 (U ((⟨0#64, x, 0#64, x, t⟩ : Bd)).ul), .int .u64 (U ((⟨0#64, x, 0#64, x, t⟩ : Bd)).uh), .int .i64 (S ((⟨0#64, x, 0#64, x, t⟩ : Bd)).sl), .int .i64 (S ((⟨0#64, x, 0#64, x, t⟩ : Bd)).sh), .int .u64 (U ((⟨0#64, x, 0#64, x, t⟩ : Bd)).t.v), .int .u64 (U ((⟨0#64, x, 0#64, x, t⟩ : Bd)).t.m)]) (by simp [results, Try.results47, go_sem, U_0, S_0]) rfl ⟨rfl, b2⟩
theorem bany_any (w : World) : Calls Try.prog 13 #[] w fun e w' => e = .returned (.agg #[.int .u64 (U bany.ul), .int .u64 (U bany.uh), .int .i64 (S bany.sl), .int .i64 (S bany.sh), .int .u64 (U bany.t.v), .int .u64 (U bany.t.m)]) ∧ Below w.heap.size w w' := by
  have H := Lib.hid (fun W => tany_any W)
  have HU := Lib.hid U_most
  go_enter Try.func13, Try.ntmps13
  go_wp2_with (go_at_call 34; refine (H.out _).mono ?_; rintro e w1 ⟨rfl, hb⟩; have B1 := Lib.hid (bl1 hb); have K1 := bcell hb; clear hb)
  have hz := B1.out.2
  exact bodyPost_ret (v := .agg #[.int .u64 (U bany.ul), .int .u64 (U bany.uh), .int .i64 (S bany.sl), .int .i64 (S bany.sh), .int .u64 (U bany.t.v), .int .u64 (U bany.t.m)]) (by simp [results, Try.results13, go_sem, K1, bany, HU.out, U_0]) rfl ⟨rfl, set6 B1.out.1 (by omega)⟩
theorem bconst_any (x : B) (w : World) : Calls Try.prog 10 #[.int .u64 (U x)] w fun e w' => e = .returned (.agg #[.int .u64 (U (bconst x).ul), .int .u64 (U (bconst x).uh), .int .i64 (S (bconst x).sl), .int .i64 (S (bconst x).sh), .int .u64 (U (bconst x).t.v), .int .u64 (U (bconst x).t.m)]) ∧ Below w.heap.size w w' := by
  have H := Lib.hid (fun W => tconst_any x W)
  have HE := Lib.hid (show (tconst x).v = x ∧ (tconst x).m = 0#64 from ⟨rfl, rfl⟩)
  generalize tconst x = y at *
  go_enter Try.func10, Try.ntmps10
  go_wp2_with (go_at_call 32; refine (H.out _).mono ?_; rintro e w1 ⟨rfl, hb⟩; have B1 := Lib.hid (bl1 hb); have K1 := bcell hb; clear hb)
  have hz := B1.out.2
  exact bodyPost_ret (v := .agg #[.int .u64 (U (bconst x).ul), .int .u64 (U (bconst x).uh), .int .i64 (S (bconst x).sl), .int .i64 (S (bconst x).sh), .int .u64 (U (bconst x).t.v), .int .u64 (U (bconst x).t.m)]) (by simp [results, Try.results10, go_sem, K1, bconst, HE.out]) rfl ⟨rfl, set6 B1.out.1 (by omega)⟩
theorem bvalue_any (b : Bd) (w : World) : Calls Try.prog 11 #[.agg #[.int .u64 (U b.ul), .int .u64 (U b.uh), .int .i64 (S b.sl), .int .i64 (S b.sh), .int .u64 (U b.t.v), .int .u64 (U b.t.m)]] w fun e w' => e = .returned (.tuple #[.int .u64 (U (bvalue b).1), .bool (bvalue b).2]) ∧ Below w.heap.size w w' := by
  unfold bvalue
  by_cases h : b.ul = b.uh
  · rw [if_pos h]
    have hb : (b.ul == b.uh) = true := by simpa using h
    clear h
    go_enter Try.func11, Try.ntmps11
    go_wp2_with fail
    go_ret2
    exact ⟨rfl, b1⟩
  · rw [if_neg h]
    have hb : (b.ul == b.uh) = false := by simpa using h
    clear h
    go_enter Try.func11, Try.ntmps11
    go_wp2_with fail
    go_ret2
    exact ⟨rfl, b1⟩
theorem bcheck_is (b : Bd) : (bgood b && tcheck b.t) = bcheck b := rfl
theorem bcheck_any (b : Bd) (w : World) : Calls Try.prog 19 #[.agg #[.int .u64 (U b.ul), .int .u64 (U b.uh), .int .i64 (S b.sl), .int .i64 (S b.sh), .int .u64 (U b.t.v), .int .u64 (U b.t.m)]] w fun e w' => e = .returned (.bool (bcheck b)) ∧ Below w.heap.size w w' := by
  rw [← bcheck_is]
  have H1 := Lib.hid (fun W => ordered_any b W)
  have H2 := Lib.hid (fun W => tcheck_any b.t W)
  generalize bgood b = g at *
  generalize tcheck b.t = h at *
  cases g with
  | false =>
    go_enter Try.func19, Try.ntmps19
    go_wp2_with (go_at_call 41; refine (H1.out _).mono ?_; rintro e w1 ⟨rfl, hb⟩; have B1 := Lib.hid (bl1 hb).1; clear hb)
    go_ret
    exact ⟨rfl, B1.out⟩
  | true =>
    go_enter Try.func19, Try.ntmps19
    go_wp2_with (first
      | (go_at_call 42; refine (H2.out _).mono ?_; rintro e w2 ⟨rfl, hb⟩; have B2 := Lib.hid (bnext B1.out hb); clear hb)
      | (go_at_call 41; refine (H1.out _).mono ?_; rintro e w1 ⟨rfl, hb⟩; have B1 := Lib.hid (bl1 hb).1; have f1' := ((Box.new w (bv b) 26 rfl).next hb).six; clear hb; obtain ⟨f1, f2, f3⟩ := f1'))
    go_ret
    exact ⟨rfl, B2.out⟩
theorem bin_is (b : Bd) (x : B) : (ubet b.ul x b.uh && (sbet b.sl x b.sh && tin b.t x)) = bin b x := by
  rw [ubet_u, sbet_s, ← Bool.and_assoc]; rfl
theorem bin_any (b : Bd) (x : B) (w : World) : Calls Try.prog 14 #[.agg #[.int .u64 (U b.ul), .int .u64 (U b.uh), .int .i64 (S b.sl), .int .i64 (S b.sh), .int .u64 (U b.t.v), .int .u64 (U b.t.m)], .int .u64 (U x)] w fun e w' => e = .returned (.bool (bin b x)) ∧ Below w.heap.size w w' := by
  rw [← bin_is]
  have H1 := Lib.hid (fun W => ubet_any b.ul x b.uh W)
  have H2 := Lib.hid (fun W => sbet_any b.sl x b.sh W)
  have H3 := Lib.hid (fun W => tin_any b.t x W)
  generalize ubet b.ul x b.uh = g at *
  generalize sbet b.sl x b.sh = h at *
  generalize tin b.t x = k at *
  cases g with
  | false =>
    go_enter Try.func14, Try.ntmps14
    go_wp2_with (go_at_call 35; refine (H1.out _).mono ?_; rintro e w1 ⟨rfl, rfl⟩)
    go_ret
    exact ⟨rfl, b1⟩
  | true =>
  cases h with
  | false =>
    go_enter Try.func14, Try.ntmps14
    go_wp2_with (first
      | (go_at_call 36; refine (H2.out _).mono ?_; rintro e w2 ⟨rfl, rfl⟩)
      | (go_at_call 35; refine (H1.out _).mono ?_; rintro e w1 ⟨rfl, rfl⟩))
    go_ret
    exact ⟨rfl, b1⟩
  | true =>
    go_enter Try.func14, Try.ntmps14
    go_wp2_with (first
      | (go_at_call 37; refine (H3.out _).mono ?_; rintro e w3 ⟨rfl, hb⟩; have B3 := Lib.hid (bl1 hb).1; clear hb)
      | (go_at_call 36; refine (H2.out _).mono ?_; rintro e w2 ⟨rfl, rfl⟩)
      | (go_at_call 35; refine (H1.out _).mono ?_; rintro e w1 ⟨rfl, rfl⟩))
    go_ret
    exact ⟨rfl, B3.out⟩
end Go.Proofs.Ytaolcmmdefchmaa
