/- Bounds: contracts of package bound: Within, Meet, Low. -/
import Derived.Test.YtaolcmmdefchmaaVD
import Derived.Test.YtaolcmmdefchmaaVE
namespace Go.Proofs.Ytaolcmmdefchmaa
open Go.RowKit
attribute [local go_sem] b_and b_or b_xor b_andNot b_low b_top b_most b_signed b_unsigned b_zero b_eq s_eq b_nzero b_neq s_neq b_max b_min s_max s_min
attribute [local go_sem ↓] Go.wp_at_zero Go.wp_at_succ

theorem bwithin_is (a b : Bd) : (ubet a.ul b.ul a.uh && (ubet a.ul b.uh a.uh && (sbet a.sl b.sl a.sh && (sbet a.sl b.sh a.sh && twithin a.t b.t)))) = bwithin a b := by
  rw [ubet_u, ubet_u, sbet_s, sbet_s, ← Bool.and_assoc, ← Bool.and_assoc, ← Bool.and_assoc]; rfl
set_option maxRecDepth 100000 in
set_option maxHeartbeats 2000000 in
theorem bwithin_any (a b : Bd) (w : World) : Calls Try.prog 15 #[.agg #[.int .u64 (U a.ul), .int .u64 (U a.uh), .int .i64 (S a.sl), .int .i64 (S a.sh), .int .u64 (U a.t.v), .int .u64 (U a.t.m)], .agg #[.int .u64 (U b.ul), .int .u64 (U b.uh), .int .i64 (S b.sl), .int .i64 (S b.sh), .int .u64 (U b.t.v), .int .u64 (U b.t.m)]] w fun e w' => e = .returned (.bool (bwithin a b)) ∧ Below w.heap.size w w' := by
  rw [← bwithin_is]
  have H1 := Lib.hid (fun W => ubet_any a.ul b.ul a.uh W)
  have H2 := Lib.hid (fun W => ubet_any a.ul b.uh a.uh W)
  have H3 := Lib.hid (fun W => sbet_any a.sl b.sl a.sh W)
  have H4 := Lib.hid (fun W => sbet_any a.sl b.sh a.sh W)
  have H5 := Lib.hid (fun W => twithin_any a.t b.t W)
  generalize ubet a.ul b.ul a.uh = g1 at *
  generalize ubet a.ul b.uh a.uh = g2 at *
  generalize sbet a.sl b.sl a.sh = g3 at *
  generalize sbet a.sl b.sh a.sh = g4 at *
  generalize twithin a.t b.t = g5 at *
  cases g1 with
  | false =>
    go_enter Try.func15, Try.ntmps15
    go_wp2_with (go_at_call 35; with_reducible refine (H1.out _).mono ?_; rintro e w1 ⟨rfl, rfl⟩)
    go_ret
    exact ⟨rfl, b2⟩
  | true =>
  cases g2 with
  | false =>
    go_enter Try.func15, Try.ntmps15
    go_wp2_with (go_at_call 35; with_reducible first | (refine (H1.out _).mono ?_; rintro e w1 ⟨rfl, rfl⟩) | (refine (H2.out _).mono ?_; rintro e w2 ⟨rfl, rfl⟩))
    go_ret
    exact ⟨rfl, b2⟩
  | true =>
  cases g3 with
  | false =>
    go_enter Try.func15, Try.ntmps15
    go_wp2_with (first
      | (go_at_call 36; with_reducible refine (H3.out _).mono ?_; rintro e w3 ⟨rfl, rfl⟩)
      | (go_at_call 35; with_reducible first | (refine (H1.out _).mono ?_; rintro e w1 ⟨rfl, rfl⟩) | (refine (H2.out _).mono ?_; rintro e w2 ⟨rfl, rfl⟩)))
    go_ret
    exact ⟨rfl, b2⟩
  | true =>
  cases g4 with
  | false =>
    go_enter Try.func15, Try.ntmps15
    go_wp2_with (first
      | (go_at_call 36; with_reducible first | (refine (H3.out _).mono ?_; rintro e w3 ⟨rfl, rfl⟩) | (refine (H4.out _).mono ?_; rintro e w4 ⟨rfl, rfl⟩))
      | (go_at_call 35; with_reducible first | (refine (H1.out _).mono ?_; rintro e w1 ⟨rfl, rfl⟩) | (refine (H2.out _).mono ?_; rintro e w2 ⟨rfl, rfl⟩)))
    go_ret
    exact ⟨rfl, b2⟩
  | true =>
    go_enter Try.func15, Try.ntmps15
    go_wp2_with (first
      | (go_at_call 38; refine (H5.out _).mono ?_; rintro e w5 ⟨rfl, hb⟩; have B5 := Lib.hid (bl2 hb).1; clear hb)
      | (go_at_call 36; with_reducible first | (refine (H3.out _).mono ?_; rintro e w3 ⟨rfl, rfl⟩) | (refine (H4.out _).mono ?_; rintro e w4 ⟨rfl, rfl⟩))
      | (go_at_call 35; with_reducible first | (refine (H1.out _).mono ?_; rintro e w1 ⟨rfl, rfl⟩) | (refine (H2.out _).mono ?_; rintro e w2 ⟨rfl, rfl⟩)))
    go_ret
    exact ⟨rfl, B5.out⟩
set_option maxRecDepth 100000 in
set_option maxHeartbeats 2000000 in
theorem bmeet_any (a b : Bd) (w : World) : Calls Try.prog 27 #[.agg #[.int .u64 (U a.ul), .int .u64 (U a.uh), .int .i64 (S a.sl), .int .i64 (S a.sh), .int .u64 (U a.t.v), .int .u64 (U a.t.m)], .agg #[.int .u64 (U b.ul), .int .u64 (U b.uh), .int .i64 (S b.sl), .int .i64 (S b.sh), .int .u64 (U b.t.v), .int .u64 (U b.t.m)]] w fun e w' => e = .returned (tidyV (bmeet a b)) ∧ Below w.heap.size w w' := by
  have HM := Lib.hid (fun W => tmeet_any a.t b.t W)
  have HB : Hid (bmeet a b = if tagree a.t b.t = false then none else tidy ⟨umax a.ul b.ul, umin a.uh b.uh, smax a.sl b.sl, smin a.sh b.sh, tmeetT a.t b.t⟩) := Lib.hid rfl
  rw [HB.out]
  clear HB
  have HZ : Hid (tagree a.t b.t = true → (if tagree a.t b.t = true then tmeetT a.t b.t else tzero) = tmeetT a.t b.t) := Lib.hid (fun h => if_pos h)
  generalize (if tagree a.t b.t = true then tmeetT a.t b.t else tzero) = t at *
  generalize tmeetT a.t b.t = t' at *
  generalize tagree a.t b.t = g at *
  cases g with
  | false =>
    rw [if_pos rfl]
    clear HZ
    go_enter Try.func27, Try.ntmps27
    go_wp2_with (go_at_call 53; refine (HM.out _).mono ?_; rintro e w1 ⟨rfl, hb⟩; have B1 := Lib.hid (bl3 hb).1; have X3 := ((box_z w _ _ _).next hb).six0; clear hb; obtain ⟨g1, g2, g3⟩ := X3)
    exact bodyPost_ret (v := .tuple #[.agg #[.int .u64 (U bzero.ul), .int .u64 (U bzero.uh), .int .i64 (S bzero.sl), .int .i64 (S bzero.sh), .int .u64 (U bzero.t.v), .int .u64 (U bzero.t.m)], .bool false]) (by simp [results, Try.results27, go_sem, g1, g3, bzero, U_0, S_0]) rfl ⟨rfl, (set6 B1.out (by omega)).alloc (by simp; have := B1.out.size; omega) _⟩
  | true =>
    rw [if_neg (by simp)]
    have ht : t = t' := HZ.out rfl
    subst ht
    clear HZ
    have HT := Lib.hid (fun W => btidy_any ⟨umax a.ul b.ul, umin a.uh b.uh, smax a.sl b.sl, smin a.sh b.sh, t⟩ W)
    generalize tidy ⟨umax a.ul b.ul, umin a.uh b.uh, smax a.sl b.sl, smin a.sh b.sh, t⟩ = o at *
    cases o with
    | none =>
      simp only [tidyV] at HT
      go_enter Try.func27, Try.ntmps27
      go_wp2_with (first
        | (go_at_call 12; refine (HT.out _).mono ?_; rintro e w2 ⟨rfl, hb⟩; have B2 := Lib.hid (bnext B1.out (bl1 hb).1); have X4 := (X3'.out.next (bl1 hb).1).six0; clear hb g1 g2 g3; obtain ⟨g1, g2, g3⟩ := X4)
        | (go_at_call 53; refine (HM.out _).mono ?_; rintro e w1 ⟨rfl, hb⟩; have B1 := Lib.hid (bl3 hb).1; have X1 := ((box_ab w a b _ _ _).1.next hb).six; have X2 := ((box_ab w a b _ _ _).2.next hb).six; have X3' := Lib.hid ((box_z w _ _ _).next hb); have X3 := X3'.out.six0; clear hb; obtain ⟨g1, g2, g3⟩ := X3; obtain ⟨p1, p2, p3⟩ := X1; obtain ⟨q1, q2, q3⟩ := X2))
      exact bodyPost_ret (v := .tuple #[.agg #[.int .u64 (U bzero.ul), .int .u64 (U bzero.uh), .int .i64 (S bzero.sl), .int .i64 (S bzero.sh), .int .u64 (U bzero.t.v), .int .u64 (U bzero.t.m)], .bool false]) (by simp [results, Try.results27, go_sem, g1, bzero, U_0, S_0]) rfl ⟨rfl, set6 B2.out (by omega)⟩
    | some c =>
      simp only [tidyV] at HT
      go_enter Try.func27, Try.ntmps27
      go_wp2_with (first
        | (go_at_call 12; refine (HT.out _).mono ?_; rintro e w2 ⟨rfl, hb⟩; have B2 := Lib.hid (bnext B1.out (bl1 hb).1); have X4 := (X3'.out.next (bl1 hb).1).six0; clear hb g1 g2 g3; obtain ⟨g1, g2, g3⟩ := X4)
        | (go_at_call 53; refine (HM.out _).mono ?_; rintro e w1 ⟨rfl, hb⟩; have B1 := Lib.hid (bl3 hb).1; have X1 := ((box_ab w a b _ _ _).1.next hb).six; have X2 := ((box_ab w a b _ _ _).2.next hb).six; have X3' := Lib.hid ((box_z w _ _ _).next hb); have X3 := X3'.out.six0; clear hb; obtain ⟨g1, g2, g3⟩ := X3; obtain ⟨p1, p2, p3⟩ := X1; obtain ⟨q1, q2, q3⟩ := X2))
      exact bodyPost_ret (v := .tuple #[.agg #[.int .u64 (U c.ul), .int .u64 (U c.uh), .int .i64 (S c.sl), .int .i64 (S c.sh), .int .u64 (U c.t.v), .int .u64 (U c.t.m)], .bool true]) (by simp [results, Try.results27, go_sem, g1]) rfl ⟨rfl, set6 B2.out (by omega)⟩
set_option maxRecDepth 100000 in
set_option maxHeartbeats 2000000 in
theorem blow_any (b : Bd) (w : World) : Calls Try.prog 30 #[.agg #[.int .u64 (U b.ul), .int .u64 (U b.uh), .int .i64 (S b.sl), .int .i64 (S b.sh), .int .u64 (U b.t.v), .int .u64 (U b.t.m)]] w fun e w' => e = .returned (.agg #[.int .u64 (U (blow b).ul), .int .u64 (U (blow b).uh), .int .i64 (S (blow b).sl), .int .i64 (S (blow b).sh), .int .u64 (U (blow b).t.v), .int .u64 (U (blow b).t.m)]) ∧ Below w.heap.size w w' := by
  by_cases h : U b.uh ≤ 4294967295
  · rw [blow_1 h]
    go_enter Try.func30, Try.ntmps30
    go_wp2_with fail
    exact bodyPost_ret (v := .agg #[.int .u64 (U b.ul), .int .u64 (U b.uh), .int .i64 (S b.sl), .int .i64 (S b.sh), .int .u64 (U b.t.v), .int .u64 (U b.t.m)]) (by simp [results, Try.results30, go_sem]) rfl ⟨rfl, b2⟩
  have h' : 4294967295 < U b.uh := by omega
  clear h
  have HL := Lib.hid (fun W => tlow_any b.t W)
  have HP : Hid (∀ W, Calls Try.prog 47 #[.int .u64 4294967295, .agg #[.int .u64 (U (tlow b.t).v), .int .u64 (U (tlow b.t).m)]] W fun e w' => e = .returned (.agg #[.int .u64 (U (({ bupto low32 with t := tlow b.t } : Bd)).ul), .int .u64 (U (({ bupto low32 with t := tlow b.t } : Bd)).uh), .int .i64 (S (({ bupto low32 with t := tlow b.t } : Bd)).sl), .int .i64 (S (({ bupto low32 with t := tlow b.t } : Bd)).sh), .int .u64 (U (({ bupto low32 with t := tlow b.t } : Bd)).t.v), .int .u64 (U (({ bupto low32 with t := tlow b.t } : Bd)).t.m)]) ∧ Below W.heap.size W w') := Lib.hid (fun W => upto_any low32 (tlow b.t) W)
  have HS := Lib.hid (fun W => bsize_any 4 W)
  rw [show bsize 4 = bupto low32 from rfl] at HS
  have HT := Lib.hid (fun W => btidy_any { bupto low32 with t := tlow b.t } W)
  have HO := Lib.hid (blow_2 h' rfl)
  generalize tlow b.t = t at *
  generalize ({ bupto low32 with t := t } : Bd) = D' at *
  generalize hO : tidy D' = o at *
  clear hO
  rw [HO.out]
  generalize bupto low32 = D at *
  cases o with
  | none =>
    simp only [tidyV] at HT
    show Calls Try.prog 30 #[.agg #[.int .u64 (U b.ul), .int .u64 (U b.uh), .int .i64 (S b.sl), .int .i64 (S b.sh), .int .u64 (U b.t.v), .int .u64 (U b.t.m)]] w fun e w' => e = .returned (.agg #[.int .u64 (U D.ul), .int .u64 (U D.uh), .int .i64 (S D.sl), .int .i64 (S D.sh), .int .u64 (U D.t.v), .int .u64 (U D.t.m)]) ∧ Below w.heap.size w w'
    go_enter Try.func30, Try.ntmps30
    go_wp2_with (first
      | (go_at_call 24; refine (HS.out _).mono ?_; rintro e w4 ⟨rfl, hb⟩; have B4 := Lib.hid (bnext B3.out (bl1 hb).1); have Z4 := (Z3.out.next (bl1 hb).1).six0; clear hb; obtain ⟨g1, g2, g3⟩ := Z4)
      | (go_at_call 12; refine (HT.out _).mono ?_; rintro e w3 ⟨rfl, hb⟩; have B3 := Lib.hid (bnext B2.out hb); have Z3 := Lib.hid (Z2.out.next hb); clear hb)
      | (go_at_call 47; refine (HP.out _).mono ?_; rintro e w2 ⟨rfl, hb⟩; have B2 := Lib.hid (bnext B1.out hb); have Z2 := Lib.hid (Z1.out.next hb); clear hb)
      | (go_at_call 55; refine (HL.out _).mono ?_; rintro e w1 ⟨rfl, hb⟩; have B1 := Lib.hid (bl2 hb).1; have Z1 := Lib.hid ((box_z2 w _ _).next hb); clear hb))
    exact bodyPost_ret (v := .agg #[.int .u64 (U D.ul), .int .u64 (U D.uh), .int .i64 (S D.sl), .int .i64 (S D.sh), .int .u64 (U D.t.v), .int .u64 (U D.t.m)]) (by simp [results, Try.results30, go_sem, g1]) rfl ⟨rfl, set6 B4.out (by omega)⟩
  | some c =>
    simp only [tidyV] at HT
    show Calls Try.prog 30 #[.agg #[.int .u64 (U b.ul), .int .u64 (U b.uh), .int .i64 (S b.sl), .int .i64 (S b.sh), .int .u64 (U b.t.v), .int .u64 (U b.t.m)]] w fun e w' => e = .returned (.agg #[.int .u64 (U c.ul), .int .u64 (U c.uh), .int .i64 (S c.sl), .int .i64 (S c.sh), .int .u64 (U c.t.v), .int .u64 (U c.t.m)]) ∧ Below w.heap.size w w'
    go_enter Try.func30, Try.ntmps30
    go_wp2_with (first
      | (go_at_call 12; refine (HT.out _).mono ?_; rintro e w3 ⟨rfl, hb⟩; have B3 := Lib.hid (bnext B2.out hb); have Z3 := (Z2.out.next hb).six0; clear hb; obtain ⟨g1, g2, g3⟩ := Z3)
      | (go_at_call 47; refine (HP.out _).mono ?_; rintro e w2 ⟨rfl, hb⟩; have B2 := Lib.hid (bnext B1.out hb); have Z2 := Lib.hid (Z1.out.next hb); clear hb)
      | (go_at_call 55; refine (HL.out _).mono ?_; rintro e w1 ⟨rfl, hb⟩; have B1 := Lib.hid (bl2 hb).1; have Z1 := Lib.hid ((box_z2 w _ _).next hb); clear hb))
    exact bodyPost_ret (v := .agg #[.int .u64 (U c.ul), .int .u64 (U c.uh), .int .i64 (S c.sl), .int .i64 (S c.sh), .int .u64 (U c.t.v), .int .u64 (U c.t.m)]) (by simp [results, Try.results30, go_sem, g1, g3]) rfl ⟨rfl, (set6 B3.out (by omega)).alloc (by simp; have := B3.out.size; omega) _⟩
end Go.Proofs.Ytaolcmmdefchmaa
