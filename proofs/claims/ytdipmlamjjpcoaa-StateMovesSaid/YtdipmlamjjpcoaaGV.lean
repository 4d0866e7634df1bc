/- Bounds: contracts of package bound: what lies between, what is in order, from nought up to a number, all numbers, one number, some bytes, the questions. -/
import Derived.Test.YtdipmlamjjpcoaaWK

/- Bounds: contracts of package bound: what lies between, what is in order, from nought up to a number, all numbers, one number, some bytes, the questions. -/
namespace Go.Proofs.Ytdipmlamjjpcoaa
open Go.RowKit
attribute [local go_sem] b_and b_or b_xor b_andNot b_low b_top b_most b_signed b_unsigned b_zero b_eq s_eq b_nzero b_neq s_neq b_max b_min s_max s_min
attribute [local go_sem ↓] Go.wp_at_zero Go.wp_at_succ

def ubet (a x c : B) : Bool := decide (U a ≤ U x) && decide (U x ≤ U c)
def sbet (a x c : B) : Bool := decide (S a ≤ S x) && decide (S x ≤ S c)
theorem ubet_no1 {a x c : B} (h : ¬ U a ≤ U x) : ubet a x c = false := by simp [ubet, h]
theorem ubet_no2 {a x c : B} (h : ¬ U x ≤ U c) : ubet a x c = false := by simp [ubet, h]
theorem ubet_yes {a x c : B} (h : U a ≤ U x) (h2 : U x ≤ U c) : ubet a x c = true := by simp [ubet, h, h2]
theorem sbet_no1 {a x c : B} (h : ¬ S a ≤ S x) : sbet a x c = false := by simp [sbet, h]
theorem sbet_no2 {a x c : B} (h : ¬ S x ≤ S c) : sbet a x c = false := by simp [sbet, h]
theorem sbet_yes {a x c : B} (h : S a ≤ S x) (h2 : S x ≤ S c) : sbet a x c = true := by simp [sbet, h, h2]
theorem ubet_any (a x c : B) (w : World) : Calls Try.prog 62 #[.int .u64 (U a), .int .u64 (U x), .int .u64 (U c)] w fun e w' => e = .returned (.bool (ubet a x c)) ∧ w = w' := by
  by_cases h1 : U a ≤ U x
  · by_cases h2 : U x ≤ U c
    · rw [ubet_yes h1 h2]
      go_enter Try.func62, Try.ntmps62
      go_wp2_with fail
      go_ret
      exact ⟨rfl, rfl⟩
    · rw [ubet_no2 h2]
      go_enter Try.func62, Try.ntmps62
      go_wp2_with fail
      go_ret
      exact ⟨rfl, rfl⟩
  · rw [ubet_no1 h1]
    go_enter Try.func62, Try.ntmps62
    go_wp2_with fail
    go_ret
    exact ⟨rfl, rfl⟩
theorem sbet_any (a x c : B) (w : World) : Calls Try.prog 63 #[.int .i64 (S a), .int .i64 (S x), .int .i64 (S c)] w fun e w' => e = .returned (.bool (sbet a x c)) ∧ w = w' := by
  by_cases h1 : S a ≤ S x
  · by_cases h2 : S x ≤ S c
    · rw [sbet_yes h1 h2]
      go_enter Try.func63, Try.ntmps63
      go_wp2_with fail
      go_ret
      exact ⟨rfl, rfl⟩
    · rw [sbet_no2 h2]
      go_enter Try.func63, Try.ntmps63
      go_wp2_with fail
      go_ret
      exact ⟨rfl, rfl⟩
  · rw [sbet_no1 h1]
    go_enter Try.func63, Try.ntmps63
    go_wp2_with fail
    go_ret
    exact ⟨rfl, rfl⟩
theorem ubet_u (b : Bd) (x : B) : ubet b.ul x b.uh = uinB b x := by
  unfold ubet uinB U
  rw [Bool.eq_iff_iff]; simp
theorem sbet_s (b : Bd) (x : B) : sbet b.sl x b.sh = sinB b x := rfl
theorem ordered_is (b : Bd) : (ubet b.ul b.ul b.uh && sbet b.sl b.sl b.sh) = bgood b := by
  rw [ubet_u, sbet_s, Bool.eq_iff_iff, bgood_iff]
  unfold uinB sinB
  simp
theorem ordered_any (b : Bd) (w : World) : Calls Try.prog 67 #[.agg #[.int .u64 (U b.ul), .int .u64 (U b.uh), .int .i64 (S b.sl), .int .i64 (S b.sh), .int .u64 (U b.t.v), .int .u64 (U b.t.m)]] w fun e w' => e = .returned (.bool (bgood b)) ∧ Below w.heap.size w w' := by
  rw [← ordered_is]
  have H1 := Lib.hid (fun W => ubet_any b.ul b.ul b.uh W)
  have H2 := Lib.hid (fun W => sbet_any b.sl b.sl b.sh W)
  generalize ubet b.ul b.ul b.uh = g at *
  generalize sbet b.sl b.sl b.sh = h at *
  cases g with
  | false =>
    go_enter Try.func67, Try.ntmps67
    go_wp2_with (go_at_call 62; refine (H1.out _).mono ?_; rintro e w1 ⟨rfl, rfl⟩)
    go_ret
    exact ⟨rfl, b1⟩
  | true =>
    go_enter Try.func67, Try.ntmps67
    go_wp2_with (first
      | (go_at_call 63; refine (H2.out _).mono ?_; rintro e w2 ⟨rfl, rfl⟩)
      | (go_at_call 62; refine (H1.out _).mono ?_; rintro e w1 ⟨rfl, rfl⟩))
    go_ret
    exact ⟨rfl, b1⟩
theorem upto_any (x : B) (t : Tn) (w : World) : Calls Try.prog 60 #[.int .u64 (U x), .agg #[.int .u64 (U t.v), .int .u64 (U t.m)]] w fun e w' => e = .returned (.agg #[.int .u64 (U ((⟨0#64, x, 0#64, x, t⟩ : Bd)).ul), .int .u64 (U ((⟨0#64, x, 0#64, x, t⟩ : Bd)).uh), .int .i64 (S ((⟨0#64, x, 0#64, x, t⟩ : Bd)).sl), .int .i64 (S ((⟨0#64, x, 0#64, x, t⟩ : Bd)).sh), .int .u64 (U ((⟨0#64, x, 0#64, x, t⟩ : Bd)).t.v), .int .u64 (U ((⟨0#64, x, 0#64, x, t⟩ : Bd)).t.m)]) ∧ Below w.heap.size w w' := by
  go_enter Try.func60, Try.ntmps60
  go_wp2_with fail
  exact bodyPost_ret (v := .agg #[.int .u64 (U ((⟨0#64, x, 0#64, x, t⟩ : Bd)).ul), .int .u64 (U ((⟨0#64, x, 0#64, x, t⟩ : Bd)).uh), .int .i64 (S ((⟨0#64, x, 0#64, x, t⟩ : Bd)).sl), .int .i64 (S ((⟨0#64, x, 0#64, x, t⟩ : Bd)).sh), .int .u64 (U ((⟨0#64, x, 0#64, x, t⟩ : Bd)).t.v), .int .u64 (U ((⟨0#64, x, 0#64, x, t⟩ : Bd)).t.m)]) (by simp [results, Try.results60, go_sem, U_0, S_0]) rfl ⟨rfl, b2⟩
theorem bany_any (w : World) : Calls Try.prog 59 #[] w fun e w' => e = .returned (.agg #[.int .u64 (U bany.ul), .int .u64 (U bany.uh), .int .i64 (S bany.sl), .int .i64 (S bany.sh), .int .u64 (U bany.t.v), .int .u64 (U bany.t.m)]) ∧ Below w.heap.size w w' := by
  have H := Lib.hid (fun W => tany_any W)
  have HU := Lib.hid U_most
  go_enter Try.func59, Try.ntmps59
  go_wp2_with (go_at_call 69; refine (H.out _).mono ?_; rintro e w1 ⟨rfl, hb⟩; have B1 := Lib.hid (bl1 hb); have K1 := bcell hb; clear hb)
  have hz := B1.out.2
  exact bodyPost_ret (v := .agg #[.int .u64 (U bany.ul), .int .u64 (U bany.uh), .int .i64 (S bany.sl), .int .i64 (S bany.sh), .int .u64 (U bany.t.v), .int .u64 (U bany.t.m)]) (by simp [results, Try.results59, go_sem, K1, bany, HU.out, U_0]) rfl ⟨rfl, set6 B1.out.1 (by omega)⟩
theorem bconst_any (x : B) (w : World) : Calls Try.prog 66 #[.int .u64 (U x)] w fun e w' => e = .returned (.agg #[.int .u64 (U (bconst x).ul), .int .u64 (U (bconst x).uh), .int .i64 (S (bconst x).sl), .int .i64 (S (bconst x).sh), .int .u64 (U (bconst x).t.v), .int .u64 (U (bconst x).t.m)]) ∧ Below w.heap.size w w' := by
  have H := Lib.hid (fun W => tconst_any x W)
  have HE := Lib.hid (show (tconst x).v = x ∧ (tconst x).m = 0#64 from ⟨rfl, rfl⟩)
  generalize tconst x = y at *
  go_enter Try.func66, Try.ntmps66
  go_wp2_with (go_at_call 71; refine (H.out _).mono ?_; rintro e w1 ⟨rfl, hb⟩; have B1 := Lib.hid (bl1 hb); have K1 := bcell hb; clear hb)
  have hz := B1.out.2
  exact bodyPost_ret (v := .agg #[.int .u64 (U (bconst x).ul), .int .u64 (U (bconst x).uh), .int .i64 (S (bconst x).sl), .int .i64 (S (bconst x).sh), .int .u64 (U (bconst x).t.v), .int .u64 (U (bconst x).t.m)]) (by simp [results, Try.results66, go_sem, K1, bconst, HE.out]) rfl ⟨rfl, set6 B1.out.1 (by omega)⟩
theorem bcheck_is (b : Bd) : (bgood b && tcheck b.t) = bcheck b := rfl
theorem bcheck_any (b : Bd) (w : World) : Calls Try.prog 55 #[.agg #[.int .u64 (U b.ul), .int .u64 (U b.uh), .int .i64 (S b.sl), .int .i64 (S b.sh), .int .u64 (U b.t.v), .int .u64 (U b.t.m)]] w fun e w' => e = .returned (.bool (bcheck b)) ∧ Below w.heap.size w w' := by
  rw [← bcheck_is]
  have H1 := Lib.hid (fun W => ordered_any b W)
  have H2 := Lib.hid (fun W => tcheck_any b.t W)
  generalize bgood b = g at *
  generalize tcheck b.t = h at *
  cases g with
  | false =>
    go_enter Try.func55, Try.ntmps55
    go_wp2_with (go_at_call 67; refine (H1.out _).mono ?_; rintro e w1 ⟨rfl, hb⟩; have B1 := Lib.hid (bl1 hb).1; clear hb)
    go_ret
    exact ⟨rfl, B1.out⟩
  | true =>
    go_enter Try.func55, Try.ntmps55
    go_wp2_with (first
      | (go_at_call 68; refine (H2.out _).mono ?_; rintro e w2 ⟨rfl, hb⟩; have B2 := Lib.hid (bnext B1.out hb); clear hb)
      | (go_at_call 67; refine (H1.out _).mono ?_; rintro e w1 ⟨rfl, hb⟩; have B1 := Lib.hid (bl1 hb).1; have f1' := ((Box.new w (bv b) 31 rfl).next hb).six; clear hb; obtain ⟨f1, f2, f3⟩ := f1'))
    go_ret
    exact ⟨rfl, B2.out⟩
theorem bin_is (b : Bd) (x : B) : (ubet b.ul x b.uh && (sbet b.sl x b.sh && tin b.t x)) = bin b x := by
  rw [ubet_u, sbet_s, ← Bool.and_assoc]; rfl
theorem bin_any (b : Bd) (x : B) (w : World) : Calls Try.prog 49 #[.agg #[.int .u64 (U b.ul), .int .u64 (U b.uh), .int .i64 (S b.sl), .int .i64 (S b.sh), .int .u64 (U b.t.v), .int .u64 (U b.t.m)], .int .u64 (U x)] w fun e w' => e = .returned (.bool (bin b x)) ∧ Below w.heap.size w w' := by
  rw [← bin_is]
  have H1 := Lib.hid (fun W => ubet_any b.ul x b.uh W)
  have H2 := Lib.hid (fun W => sbet_any b.sl x b.sh W)
  have H3 := Lib.hid (fun W => tin_any b.t x W)
  generalize ubet b.ul x b.uh = g at *
  generalize sbet b.sl x b.sh = h at *
  generalize tin b.t x = k at *
  cases g with
  | false =>
    go_enter Try.func49, Try.ntmps49
    go_wp2_with (go_at_call 62; refine (H1.out _).mono ?_; rintro e w1 ⟨rfl, rfl⟩)
    go_ret
    exact ⟨rfl, b1⟩
  | true =>
  cases h with
  | false =>
    go_enter Try.func49, Try.ntmps49
    go_wp2_with (first
      | (go_at_call 63; refine (H2.out _).mono ?_; rintro e w2 ⟨rfl, rfl⟩)
      | (go_at_call 62; refine (H1.out _).mono ?_; rintro e w1 ⟨rfl, rfl⟩))
    go_ret
    exact ⟨rfl, b1⟩
  | true =>
    go_enter Try.func49, Try.ntmps49
    go_wp2_with (first
      | (go_at_call 64; refine (H3.out _).mono ?_; rintro e w3 ⟨rfl, hb⟩; have B3 := Lib.hid (bl1 hb).1; clear hb)
      | (go_at_call 63; refine (H2.out _).mono ?_; rintro e w2 ⟨rfl, rfl⟩)
      | (go_at_call 62; refine (H1.out _).mono ?_; rintro e w1 ⟨rfl, rfl⟩))
    go_ret
    exact ⟨rfl, B3.out⟩
end Go.Proofs.Ytdipmlamjjpcoaa

/- Bounds: contracts of package bound: what bits say of the ends, what signs say. -/
namespace Go.Proofs.Ytdipmlamjjpcoaa
open Go.RowKit
attribute [local go_sem] b_and b_or b_xor b_andNot b_low b_top b_most b_signed b_unsigned b_zero b_eq s_eq b_nzero b_neq s_neq b_max b_min s_max s_min
attribute [local go_sem ↓] Go.wp_at_zero Go.wp_at_succ

end Go.Proofs.Ytdipmlamjjpcoaa

/- Bounds: contracts of package bound: one round of tidying. -/
namespace Go.Proofs.Ytdipmlamjjpcoaa
open Go.RowKit
attribute [local go_sem] b_and b_or b_xor b_andNot b_low b_top b_most b_signed b_unsigned b_zero b_eq s_eq b_nzero b_neq s_neq b_max b_min s_max s_min
attribute [local go_sem ↓] Go.wp_at_zero Go.wp_at_succ

theorem narrow_none {b D E : Bd} {g : Bool} {Z : Tn} (h : stepT b D E g Z) (hd : bgood D = false ∨ g = false ∨ bgood E = false) : Ending.returned (.tuple #[.agg #[.int .u64 (U bzero.ul), .int .u64 (U bzero.uh), .int .i64 (S bzero.sl), .int .i64 (S bzero.sh), .int .u64 (U bzero.t.v), .int .u64 (U bzero.t.m)], .bool false]) = .returned (tidyV (tidy1 b)) := by
  have : tidy1 b = none := by
    rw [h]
    rcases hd with hd | hd
    · rw [if_pos hd]
    · rw [if_pos hd]; split <;> rfl
  rw [this]; rfl
theorem narrow_some {b D E : Bd} {g : Bool} {Z : Tn} (h : stepT b D E g Z) (h1 : bgood D = true) (h2 : g = true) (h3 : bgood E = true) : Ending.returned (.tuple #[.agg #[.int .u64 (U E.ul), .int .u64 (U E.uh), .int .i64 (S E.sl), .int .i64 (S E.sh), .int .u64 (U Z.v), .int .u64 (U Z.m)], .bool true]) = .returned (tidyV (tidy1 b)) := by
  have : tidy1 b = some { E with t := Z } := by
    rw [h, if_neg (by rw [h1]; simp), if_neg (by rw [h2, h3]; simp)]
  rw [this]; rfl
theorem tmeet_if {a b : Tn} {g : Bool} (h : tagree a b = g) : (if tagree a b = true then tmeetT a b else tzero) = if g = true then tmeetT a b else tzero := by rw [h]
end Go.Proofs.Ytdipmlamjjpcoaa

/- Bounds: contracts of package bound: what is in one of two. -/
namespace Go.Proofs.Ytdipmlamjjpcoaa
open Go.RowKit
attribute [local go_sem] b_and b_or b_xor b_andNot b_low b_top b_most b_signed b_unsigned b_zero b_eq s_eq b_nzero b_neq s_neq b_max b_min s_max s_min
attribute [local go_sem ↓] Go.wp_at_zero Go.wp_at_succ

end Go.Proofs.Ytdipmlamjjpcoaa

/- Bounds: contracts of package bound: Tidy, Size. -/
namespace Go.Proofs.Ytdipmlamjjpcoaa
open Go.RowKit
attribute [local go_sem] b_and b_or b_xor b_andNot b_low b_top b_most b_signed b_unsigned b_zero b_eq s_eq b_nzero b_neq s_neq b_max b_min s_max s_min
attribute [local go_sem ↓] Go.wp_at_zero Go.wp_at_succ

theorem tidy_bind (b : Bd) : tidy b = (tidy1 b).bind tidy1 := rfl
theorem bsize_any (n : Int) (w : World) : Calls Try.prog 38 #[.int .i64 n] w fun e w' => e = .returned (.agg #[.int .u64 (U (bsize n).ul), .int .u64 (U (bsize n).uh), .int .i64 (S (bsize n).sl), .int .i64 (S (bsize n).sh), .int .u64 (U (bsize n).t.v), .int .u64 (U (bsize n).t.m)]) ∧ Below w.heap.size w w' := by
  have HA := Lib.hid (fun W => bany_any W)
  have H1 : Hid (∀ W, Calls Try.prog 60 #[.int .u64 255, .agg #[.int .u64 0, .int .u64 255]] W fun e w' => e = .returned (.agg #[.int .u64 (U (bupto 255#64).ul), .int .u64 (U (bupto 255#64).uh), .int .i64 (S (bupto 255#64).sl), .int .i64 (S (bupto 255#64).sh), .int .u64 (U (bupto 255#64).t.v), .int .u64 (U (bupto 255#64).t.m)]) ∧ Below W.heap.size W w') := Lib.hid (fun W => upto_any 255#64 ⟨0#64, 255#64⟩ W)
  have H2 : Hid (∀ W, Calls Try.prog 60 #[.int .u64 65535, .agg #[.int .u64 0, .int .u64 65535]] W fun e w' => e = .returned (.agg #[.int .u64 (U (bupto 65535#64).ul), .int .u64 (U (bupto 65535#64).uh), .int .i64 (S (bupto 65535#64).sl), .int .i64 (S (bupto 65535#64).sh), .int .u64 (U (bupto 65535#64).t.v), .int .u64 (U (bupto 65535#64).t.m)]) ∧ Below W.heap.size W w') := Lib.hid (fun W => upto_any 65535#64 ⟨0#64, 65535#64⟩ W)
  have H4 : Hid (∀ W, Calls Try.prog 60 #[.int .u64 4294967295, .agg #[.int .u64 0, .int .u64 4294967295]] W fun e w' => e = .returned (.agg #[.int .u64 (U (bupto low32).ul), .int .u64 (U (bupto low32).uh), .int .i64 (S (bupto low32).sl), .int .i64 (S (bupto low32).sh), .int .u64 (U (bupto low32).t.v), .int .u64 (U (bupto low32).t.m)]) ∧ Below W.heap.size W w') := Lib.hid (fun W => upto_any low32 ⟨0#64, low32⟩ W)
  generalize hd1 : bupto 255#64 = D1 at *
  generalize hd2 : bupto 65535#64 = D2 at *
  generalize hd4 : bupto low32 = D4 at *
  generalize hda : bany = DA at *
  have HS : Hid (bsize n = if n = 1 then D1 else if n = 2 then D2 else if n = 4 then D4 else DA) := Lib.hid (by unfold bsize; rw [hd1, hd2, hd4, hda])
  clear hd1 hd2 hd4 hda
  by_cases e1 : n = 1
  · have HE : Hid (bsize n = D1) := Lib.hid (HS.out.trans (if_pos e1))
    rw [HE.out]
    subst e1
    go_enter Try.func38, Try.ntmps38
    go_wp2_with (go_at_call 60; refine (H1.out _).mono ?_; rintro e w1 ⟨rfl, hb⟩; have B1 := Lib.hid (bl1 hb); have K1 := bcell hb; clear hb)
    have hz := B1.out.2
    exact bodyPost_ret (v := .agg #[.int .u64 (U D1.ul), .int .u64 (U D1.uh), .int .i64 (S D1.sl), .int .i64 (S D1.sh), .int .u64 (U D1.t.v), .int .u64 (U D1.t.m)]) (by simp [results, Try.results38, go_sem, K1]) rfl ⟨rfl, set6 B1.out.1 (by omega)⟩
  by_cases e2 : n = 2
  · have HE : Hid (bsize n = D2) := Lib.hid (HS.out.trans ((if_neg e1).trans (if_pos e2)))
    rw [HE.out]
    subst e2
    clear e1
    go_enter Try.func38, Try.ntmps38
    go_wp2_with (go_at_call 60; refine (H2.out _).mono ?_; rintro e w1 ⟨rfl, hb⟩; have B1 := Lib.hid (bl1 hb); have K1 := bcell hb; clear hb)
    have hz := B1.out.2
    exact bodyPost_ret (v := .agg #[.int .u64 (U D2.ul), .int .u64 (U D2.uh), .int .i64 (S D2.sl), .int .i64 (S D2.sh), .int .u64 (U D2.t.v), .int .u64 (U D2.t.m)]) (by simp [results, Try.results38, go_sem, K1]) rfl ⟨rfl, set6 B1.out.1 (by omega)⟩
  by_cases e4 : n = 4
  · have HE : Hid (bsize n = D4) := Lib.hid (HS.out.trans ((if_neg e1).trans ((if_neg e2).trans (if_pos e4))))
    rw [HE.out]
    subst e4
    clear e1 e2
    go_enter Try.func38, Try.ntmps38
    go_wp2_with (go_at_call 60; refine (H4.out _).mono ?_; rintro e w1 ⟨rfl, hb⟩; have B1 := Lib.hid (bl1 hb); have K1 := bcell hb; clear hb)
    have hz := B1.out.2
    exact bodyPost_ret (v := .agg #[.int .u64 (U D4.ul), .int .u64 (U D4.uh), .int .i64 (S D4.sl), .int .i64 (S D4.sh), .int .u64 (U D4.t.v), .int .u64 (U D4.t.m)]) (by simp [results, Try.results38, go_sem, K1]) rfl ⟨rfl, set6 B1.out.1 (by omega)⟩
  have HE : Hid (bsize n = DA) := Lib.hid (HS.out.trans ((if_neg e1).trans ((if_neg e2).trans (if_neg e4))))
  rw [HE.out]
  have b1' : (n != 1) = true := by simpa using e1
  have b2' : (n != 2) = true := by simpa using e2
  have b4' : (n != 4) = true := by simpa using e4
  clear e1 e2 e4
  go_enter Try.func38, Try.ntmps38
  go_wp2_with (go_at_call 59; refine (HA.out _).mono ?_; rintro e w1 ⟨rfl, hb⟩; have B1 := Lib.hid (bl1 hb); have K1 := bcell hb; clear hb)
  have hz := B1.out.2
  exact bodyPost_ret (v := .agg #[.int .u64 (U DA.ul), .int .u64 (U DA.uh), .int .i64 (S DA.sl), .int .i64 (S DA.sh), .int .u64 (U DA.t.v), .int .u64 (U DA.t.m)]) (by simp [results, Try.results38, go_sem, K1]) rfl ⟨rfl, set6 B1.out.1 (by omega)⟩
end Go.Proofs.Ytdipmlamjjpcoaa

/- Bounds: contracts of package bound: Within, Meet, Low. -/
namespace Go.Proofs.Ytdipmlamjjpcoaa
open Go.RowKit
attribute [local go_sem] b_and b_or b_xor b_andNot b_low b_top b_most b_signed b_unsigned b_zero b_eq s_eq b_nzero b_neq s_neq b_max b_min s_max s_min
attribute [local go_sem ↓] Go.wp_at_zero Go.wp_at_succ

theorem bwithin_is (a b : Bd) : (ubet a.ul b.ul a.uh && (ubet a.ul b.uh a.uh && (sbet a.sl b.sl a.sh && (sbet a.sl b.sh a.sh && twithin a.t b.t)))) = bwithin a b := by
  rw [ubet_u, ubet_u, sbet_s, sbet_s, ← Bool.and_assoc, ← Bool.and_assoc, ← Bool.and_assoc]; rfl
set_option maxRecDepth 100000 in
set_option maxHeartbeats 2000000 in
theorem bwithin_any (a b : Bd) (w : World) : Calls Try.prog 61 #[.agg #[.int .u64 (U a.ul), .int .u64 (U a.uh), .int .i64 (S a.sl), .int .i64 (S a.sh), .int .u64 (U a.t.v), .int .u64 (U a.t.m)], .agg #[.int .u64 (U b.ul), .int .u64 (U b.uh), .int .i64 (S b.sl), .int .i64 (S b.sh), .int .u64 (U b.t.v), .int .u64 (U b.t.m)]] w fun e w' => e = .returned (.bool (bwithin a b)) ∧ Below w.heap.size w w' := by
  rw [← bwithin_is]
  have H1 := Lib.hid (fun W => ubet_any a.ul b.ul a.uh W)
  have H2 := Lib.hid (fun W => ubet_any a.ul b.uh a.uh W)
  have H3 := Lib.hid (fun W => sbet_any a.sl b.sl a.sh W)
  have H4 := Lib.hid (fun W => sbet_any a.sl b.sh a.sh W)
  have H5 := Lib.hid (fun W => twithin_any a.t b.t W)
  generalize ubet a.ul b.ul a.uh = g1 at *
  generalize ubet a.ul b.uh a.uh = g2 at *
  generalize sbet a.sl b.sl a.sh = g3 at *
  generalize sbet a.sl b.sh a.sh = g4 at *
  generalize twithin a.t b.t = g5 at *
  cases g1 with
  | false =>
    go_enter Try.func61, Try.ntmps61
    go_wp2_with (go_at_call 62; with_reducible refine (H1.out _).mono ?_; rintro e w1 ⟨rfl, rfl⟩)
    go_ret
    exact ⟨rfl, b2⟩
  | true =>
  cases g2 with
  | false =>
    go_enter Try.func61, Try.ntmps61
    go_wp2_with (go_at_call 62; with_reducible first | (refine (H1.out _).mono ?_; rintro e w1 ⟨rfl, rfl⟩) | (refine (H2.out _).mono ?_; rintro e w2 ⟨rfl, rfl⟩))
    go_ret
    exact ⟨rfl, b2⟩
  | true =>
  cases g3 with
  | false =>
    go_enter Try.func61, Try.ntmps61
    go_wp2_with (first
      | (go_at_call 63; with_reducible refine (H3.out _).mono ?_; rintro e w3 ⟨rfl, rfl⟩)
      | (go_at_call 62; with_reducible first | (refine (H1.out _).mono ?_; rintro e w1 ⟨rfl, rfl⟩) | (refine (H2.out _).mono ?_; rintro e w2 ⟨rfl, rfl⟩)))
    go_ret
    exact ⟨rfl, b2⟩
  | true =>
  cases g4 with
  | false =>
    go_enter Try.func61, Try.ntmps61
    go_wp2_with (first
      | (go_at_call 63; with_reducible first | (refine (H3.out _).mono ?_; rintro e w3 ⟨rfl, rfl⟩) | (refine (H4.out _).mono ?_; rintro e w4 ⟨rfl, rfl⟩))
      | (go_at_call 62; with_reducible first | (refine (H1.out _).mono ?_; rintro e w1 ⟨rfl, rfl⟩) | (refine (H2.out _).mono ?_; rintro e w2 ⟨rfl, rfl⟩)))
    go_ret
    exact ⟨rfl, b2⟩
  | true =>
    go_enter Try.func61, Try.ntmps61
    go_wp2_with (first
      | (go_at_call 70; refine (H5.out _).mono ?_; rintro e w5 ⟨rfl, hb⟩; have B5 := Lib.hid (bl2 hb).1; clear hb)
      | (go_at_call 63; with_reducible first | (refine (H3.out _).mono ?_; rintro e w3 ⟨rfl, rfl⟩) | (refine (H4.out _).mono ?_; rintro e w4 ⟨rfl, rfl⟩))
      | (go_at_call 62; with_reducible first | (refine (H1.out _).mono ?_; rintro e w1 ⟨rfl, rfl⟩) | (refine (H2.out _).mono ?_; rintro e w2 ⟨rfl, rfl⟩)))
    go_ret
    exact ⟨rfl, B5.out⟩
end Go.Proofs.Ytdipmlamjjpcoaa
