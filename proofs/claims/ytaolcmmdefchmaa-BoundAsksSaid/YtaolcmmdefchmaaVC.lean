/- Bounds: contracts of package bound: one round of tidying. -/
import Derived.Test.YtaolcmmdefchmaaVA
import Derived.Test.YtaolcmmdefchmaaVB
namespace Go.Proofs.Ytaolcmmdefchmaa
open Go.RowKit
attribute [local go_sem] b_and b_or b_xor b_andNot b_low b_top b_most b_signed b_unsigned b_zero b_eq s_eq b_nzero b_neq s_neq b_max b_min s_max s_min
attribute [local go_sem ↓] Go.wp_at_zero Go.wp_at_succ

noncomputable def reg5n : Code := ((Try.f33.body.bind (regionOf 5)).getD .skip)
set_option maxRecDepth 100000 in
set_option maxHeartbeats 4000000 in
theorem reg5n_wp (n : Nat) (w : World) (E : Bd) (R Z : Tn) (g : Bool) (W3 : World) (c0 c2 c3 c4 c5 c6 c7 c8 c9 c10 c11 c12 c13 c14 c15 c16 c17 c18 c19 c20 c21 c22 c23 c24 c25 c26 c27 c28 c29 c30 c31 c32 c33 c34 c35 : Value) (Q : Exit → Act → World → Prop)
    (HR : Hid (∀ W, Calls Try.prog 59 #[.int .u64 (U E.ul), .int .u64 (U E.uh)] W fun e w' => e = .returned (.agg #[.int .u64 (U R.v), .int .u64 (U R.m)]) ∧ Below W.heap.size W w'))
    (HM : Hid (∀ W, Calls Try.prog 53 #[.agg #[.int .u64 (U E.t.v), .int .u64 (U E.t.m)], .agg #[.int .u64 (U R.v), .int .u64 (U R.m)]] W fun e w' => e = .returned (.tuple #[.agg #[.int .u64 (U Z.v), .int .u64 (U Z.m)], .bool g]) ∧ Below W.heap.size W w'))
    (HV2 : Hid (Below n w W3)) (HZ1 : Hid (Box W3 n (bv E))) (HZ2 : Hid (Box W3 (n + 1) (bv bzero)))
    (hQ : ∀ (s4 s5 s14 s15 s16 s17 s18 s19 s20 s21 s22 s23 s24 : Value) (W : World), RelM n w E Z g s4 s5 W → Q .normal ⟨(c0 :: .pointer (some ⟨n, 0, none⟩) :: c2 :: c3 :: s4 :: s5 :: c6 :: c7 :: c8 :: c9 :: c10 :: c11 :: c12 :: c13 :: s14 :: s15 :: s16 :: s17 :: s18 :: s19 :: s20 :: s21 :: s22 :: s23 :: s24 :: c25 :: c26 :: c27 :: c28 :: c29 :: c30 :: c31 :: c32 :: c33 :: c34 :: c35 :: []).toArray, []⟩ W) :
    Code.wp Try.prog reg5n Q ⟨(c0 :: .pointer (some ⟨n, 0, none⟩) :: c2 :: c3 :: c4 :: c5 :: c6 :: c7 :: c8 :: c9 :: c10 :: c11 :: c12 :: c13 :: c14 :: c15 :: c16 :: c17 :: c18 :: c19 :: c20 :: c21 :: c22 :: c23 :: c24 :: c25 :: c26 :: c27 :: c28 :: c29 :: c30 :: c31 :: c32 :: c33 :: c34 :: c35 :: []).toArray, []⟩ W3 := by
  have HQ := Lib.hid hQ
  have z3 : n + 1 < W3.heap.size := HZ2.out.lt
  clear hQ
  conv => arg 2; whnf
  have f4 := HZ1.out.four
  go_region_held3 (fun W => W.cell? ⟨n, 0, none⟩ = some (.int .u64 (U E.ul)) ∧ W.cell? ⟨n, 1, none⟩ = some (.int .u64 (U E.uh)) ∧ W.cell? ⟨n, 4, none⟩ = some (.int .u64 (U E.t.v)) ∧ W.cell? ⟨n, 5, none⟩ = some (.int .u64 (U E.t.m)))
    (first | with_reducible exact K5 | with_reducible exact K4 | with_reducible exact four_set K5 (by omega) | with_reducible exact four_al K5 (by omega) _ | with_reducible exact four_al K4 (by omega) _ | with_reducible exact four_dr f4 | with_reducible exact four_dal f4 (by omega) _)
    (first
    | (go_at_call 53; refine (HM.out _).mono ?_; rintro e w5 ⟨rfl, hb⟩; have hc : Below w4.heap.size w4 w5 := (by first | exact hb | exact below_2 hb); have HC5 := Lib.hid (HC4.out.trans (hc.mono HC4.out.size)); have z5 := Nat.lt_of_lt_of_le z4 hc.size; have K5 := (HZ1.out.next HC5.out).four; (first | (have y6 := Nat.lt_of_lt_of_le y4 hc.size; have BU := Lib.hid (BT.out.next hc); have u1 := BU.out.cell 0 _ rfl; have u2 := BU.out.cell 1 _ rfl; have u3 := BU.out.frozen 0; have u4 := BU.out.frozen 1) | (have y5 := size_2 hb; have BU := Lib.hid ((Box.new w4 [.int .u64 0, .int .u64 0] 24 rfl).next hb); have u1 := BU.out.cell 0 _ rfl; have u2 := BU.out.cell 1 _ rfl; have u3 := BU.out.frozen 0; have u4 := BU.out.frozen 1) | skip); clear hb hc)
    | (go_at_call 59; refine (HR.out _).mono ?_; rintro e w4 ⟨rfl, hb⟩; have hc : Below W3.heap.size W3 w4 := (by first | exact below_0 hb | exact below_1 hb); have HC4 := Lib.hid hc; have z4 := Nat.lt_of_lt_of_le z3 hc.size; have K4 := (HZ1.out.next hc).four; (first | (have y4 := size_1 hb; have BT := Lib.hid ((Box.new W3 [.int .u64 0, .int .u64 0] 24 (b := W3.heap.size) rfl).next (bdrewA hb))) | skip); clear hb hc))
  all_goals first
    | exact HQ.out _ _ _ _ _ _ _ _ _ _ _ _ _ _ (relM_new HV2.out HZ1.out HZ2.out (by omega) HC5.out)
    | exact HQ.out _ _ _ _ _ _ _ _ _ _ _ _ _ _ (relM_set HV2.out HZ1.out HZ2.out (by omega) HC5.out (by omega) BU.out)
theorem narrow_none {b D E : Bd} {g : Bool} {Z : Tn} (h : stepT b D E g Z) (hd : bgood D = false ∨ g = false ∨ bgood E = false) : Ending.returned (.tuple #[.agg #[.int .u64 (U bzero.ul), .int .u64 (U bzero.uh), .int .i64 (S bzero.sl), .int .i64 (S bzero.sh), .int .u64 (U bzero.t.v), .int .u64 (U bzero.t.m)], .bool false]) = .returned (tidyV (tidy1 b)) := by
  have : tidy1 b = none := by
    rw [h]
    rcases hd with hd | hd
    · rw [if_pos hd]
    · rw [if_pos hd]; split <;> rfl
  rw [this]; rfl
theorem narrow_some {b D E : Bd} {g : Bool} {Z : Tn} (h : stepT b D E g Z) (h1 : bgood D = true) (h2 : g = true) (h3 : bgood E = true) : Ending.returned (.tuple #[.agg #[.int .u64 (U E.ul), .int .u64 (U E.uh), .int .i64 (S E.sl), .int .i64 (S E.sh), .int .u64 (U Z.v), .int .u64 (U Z.m)], .bool true]) = .returned (tidyV (tidy1 b)) := by
  have : tidy1 b = some { E with t := Z } := by
    rw [h, if_neg (by rw [h1]; simp), if_neg (by rw [h2, h3]; simp)]
  rw [this]; rfl
theorem tmeet_if {a b : Tn} {g : Bool} (h : tagree a b = g) : (if tagree a b = true then tmeetT a b else tzero) = if g = true then tmeetT a b else tzero := by rw [h]
set_option maxRecDepth 100000 in
set_option maxHeartbeats 4000000 in
theorem narrow_any (b : Bd) (w : World) : Calls Try.prog 33 #[.agg #[.int .u64 (U b.ul), .int .u64 (U b.uh), .int .i64 (S b.sl), .int .i64 (S b.sh), .int .u64 (U b.t.v), .int .u64 (U b.t.m)]] w fun e w' => e = .returned (tidyV (tidy1 b)) ∧ Below w.heap.size w w' := by
  have HB := Lib.hid (fun W => bybits_any b W)
  have HT := Lib.hid (stepT_is b)
  generalize tidyB b = D at *
  have HS := Lib.hid (fun W => bysigns_any D W)
  have HG := Lib.hid (fun W => ordered_any D W)
  generalize tidyS D = E at *
  have HE := Lib.hid (fun W => ordered_any E W)
  have HR := Lib.hid (fun W => trange_any E.ul E.uh W)
  generalize rangeT E.ul E.uh = R at *
  have HM := Lib.hid (fun W => tmeet_any E.t R W)
  have HZ : Hid (tagree E.t R = true → (if tagree E.t R = true then tmeetT E.t R else tzero) = tmeetT E.t R) := Lib.hid (fun h => if_pos h)
  generalize (if tagree E.t R = true then tmeetT E.t R else tzero) = Z at *
  generalize tmeetT E.t R = Z' at *
  generalize tagree E.t R = g at *
  generalize hgD : bgood D = gD at *
  have HGD := Lib.hid hgD
  clear hgD
  generalize hgE : bgood E = gE at *
  have HGE := Lib.hid hgE
  clear hgE
  cases gD with
  | false =>
    go_enter Try.func33, Try.ntmps33
    go_wp2_with (first
      | (go_at_call 41; refine (HG.out _).mono ?_; rintro e w2 ⟨rfl, hb⟩; have B2 := Lib.hid (bnext HV.out hb); have f1' := (HY1.out.next hb).six; have g1' := (HY2.out.next hb).six0; clear hb f1 f2 f3 g1 g2 g3; obtain ⟨f1, f2, f3⟩ := f1'; obtain ⟨g1, g2, g3⟩ := g1')
      | (go_at_call 57; refine (HB.out _).mono ?_; rintro e w1 ⟨rfl, hb⟩; have B1 := Lib.hid (bl2 hb).1; have HY1 := Lib.hid (((box_a w b _ _).next hb).setD D); have HY2 := Lib.hid (((box_z2 w _ _).next hb).farD w.heap.size D (by omega)); have HV := Lib.hid (below_setD w.heap.size D B1.out (Nat.le_refl _)); have f1' := ((box_a w b _ _).next hb).six; have g1' := ((box_z2 w _ _).next hb).six0; clear hb; obtain ⟨f1, f2, f3⟩ := f1'; obtain ⟨g1, g2, g3⟩ := g1'))
    exact bodyPost_ret (v := .tuple #[.agg #[.int .u64 (U bzero.ul), .int .u64 (U bzero.uh), .int .i64 (S bzero.sl), .int .i64 (S bzero.sh), .int .u64 (U bzero.t.v), .int .u64 (U bzero.t.m)], .bool false]) (by simp [results, Try.results33, go_sem, bzero, U_0, S_0, g1]) rfl ⟨narrow_none HT.out (.inl HGD.out), set6 B2.out (by omega)⟩
  | true =>
    go_enter Try.func33, Try.ntmps33
    go_wp2_with (first
      | (go_at_call 58; refine (HS.out _).mono ?_; rintro e w3 ⟨rfl, hb⟩; have B3 := Lib.hid (bnext B2.out hb); have HZ1 := Lib.hid ((HX1.out.next hb).setD E); have HZ2 := Lib.hid ((HX2.out.next hb).farD w.heap.size E (by omega)); have HV2 := Lib.hid (below_setD w.heap.size E B3.out (Nat.le_refl _)); have f1' := (HX1.out.next hb).six; have g1' := (HX2.out.next hb).six0; clear f1 f2 f3 g1 g2 g3 hb; obtain ⟨f1, f2, f3⟩ := f1'; obtain ⟨g1, g2, g3⟩ := g1')
      | (go_at_call 41; refine (HG.out _).mono ?_; rintro e w2 ⟨rfl, hb⟩; have B2 := Lib.hid (bnext HV.out hb); have HX1 := Lib.hid (HY1.out.next hb); have HX2 := Lib.hid (HY2.out.next hb); clear hb f1 f2 f3 g1 g2 g3; obtain ⟨f1, f2, f3⟩ := HX1.out.six; obtain ⟨g1, g2, g3⟩ := HX2.out.six0)
      | (go_at_call 57; refine (HB.out _).mono ?_; rintro e w1 ⟨rfl, hb⟩; have B1 := Lib.hid (bl2 hb).1; have HY1 := Lib.hid (((box_a w b _ _).next hb).setD D); have HY2 := Lib.hid (((box_z2 w _ _).next hb).farD w.heap.size D (by omega)); have HV := Lib.hid (below_setD w.heap.size D B1.out (Nat.le_refl _)); have f1' := ((box_a w b _ _).next hb).six; have g1' := ((box_z2 w _ _).next hb).six0; clear hb; obtain ⟨f1, f2, f3⟩ := f1'; obtain ⟨g1, g2, g3⟩ := g1'))
    clear f1 f2 f3 g1 g2 g3
    generalize ((((((w3.setCell ⟨w.heap.size, 0, none⟩ (.int .u64 (U E.ul))).setCell ⟨w.heap.size, 1, none⟩ (.int .u64 (U E.uh))).setCell ⟨w.heap.size, 2, none⟩ (.int .i64 (S E.sl))).setCell ⟨w.heap.size, 3, none⟩ (.int .i64 (S E.sh))).setCell ⟨w.heap.size, 4, none⟩ (.int .u64 (U E.t.v))).setCell ⟨w.heap.size, 5, none⟩ (.int .u64 (U E.t.m))) = W3 at *
    refine reg5n_wp w.heap.size w E R Z g W3 _ _ _ _ _ _ _ _ _ _ _ _ _ _ _ _ _ _ _ _ _ _ _ _ _ _ _ _ _ _ _ _ _ _ _ _ HR HM HV2 HZ1 HZ2 ?_
    intro s4 s5 s14 s15 s16 s17 s18 s19 s20 s21 s22 s23 s24 W4 hM
    obtain ⟨T, rfl, rfl, hV, hX, hY, hT, hZ⟩ := hM
    clear HZ1 HZ2 HV2 HB HS HR HM B1 B2 B3 HY1 HY2 HV HX1 HX2
    have HV := Lib.hid hV
    have HX := Lib.hid hX
    have HY := Lib.hid hY
    have HQ := Lib.hid hZ
    obtain ⟨f1, f2, f3⟩ := hX.six
    obtain ⟨g1, g2, g3⟩ := hY.six0
    clear hV hX hY hZ
    cases g with
    | false =>
      go_wp2_with fail
      exact bodyPost_ret (v := .tuple #[.agg #[.int .u64 (U bzero.ul), .int .u64 (U bzero.uh), .int .i64 (S bzero.sl), .int .i64 (S bzero.sh), .int .u64 (U bzero.t.v), .int .u64 (U bzero.t.m)], .bool false]) (by simp [results, Try.results33, go_sem, bzero, U_0, S_0, g1]) rfl ⟨narrow_none HT.out (.inr (.inl rfl)), set6 HV.out (by omega)⟩
    | true =>
    cases gE with
    | false =>
      go_wp2_with (go_at_call 41; refine (HE.out _).mono ?_; rintro e w5 ⟨rfl, hb⟩; have B5 := Lib.hid (HV.out.trans (hb.mono HV.out.size)); clear f1 f2 f3 g1 g2 g3; obtain ⟨g1, g2, g3⟩ := (HY.out.next hb).six0; clear hb)
      exact bodyPost_ret (v := .tuple #[.agg #[.int .u64 (U bzero.ul), .int .u64 (U bzero.uh), .int .i64 (S bzero.sl), .int .i64 (S bzero.sh), .int .u64 (U bzero.t.v), .int .u64 (U bzero.t.m)], .bool false]) (by simp [results, Try.results33, go_sem, bzero, U_0, S_0, g1]) rfl ⟨narrow_none HT.out (.inr (.inr HGE.out)), set6 B5.out (by omega)⟩
    | true =>
      have HW := Lib.hid (HZ.out rfl)
      subst Z'
      go_wp2_with (go_at_call 41; refine (HE.out _).mono ?_; rintro e w5 ⟨rfl, hb⟩; have B5 := Lib.hid (HV.out.trans (hb.mono HV.out.size)); have QX := Lib.hid (HX.out.next hb); have QY := Lib.hid (HY.out.next hb); have t1 := (HQ.out.next hb).cell 0 _ rfl; have t2 := (HQ.out.next hb).cell 1 _ rfl; clear f1 f2 f3 g1 g2 g3 hb; obtain ⟨f1, f2, f3⟩ := QX.out.six; obtain ⟨g1, g2, g3⟩ := QY.out.six0)
      exact bodyPost_ret (v := .tuple #[.agg #[.int .u64 (U E.ul), .int .u64 (U E.uh), .int .i64 (S E.sl), .int .i64 (S E.sh), .int .u64 (U Z.v), .int .u64 (U Z.m)], .bool true]) (by simp [results, Try.results33, go_sem, g1]) rfl ⟨narrow_some HT.out HGD.out rfl HGE.out, set6 (below_set2 B5.out (Nat.le_refl _)) (by omega)⟩
end Go.Proofs.Ytaolcmmdefchmaa
