/- MemLays: which layouts and memories may be, and where addresses lead, is what the document says; no condition. -/
import Derived.Test.YtgchdiocbllppaaDoorRI
namespace Go.Proofs.YtgchdiocbllppaaDoor
open Go.RowKit M

/-- a law's world, and two areas of it in boxes of their own -/
structure LaysW (s : Nat → Addr) (w W : World) (c : Int) (cw : Bool) (q : Option Addr) (len cap : Nat) (ms : List Ar) (p1 p2 : Nat) (vs : Int) (vw : Bool) : Prop where
  law : LawW s w W c cw q len cap ms
  a0 : W.cell? ⟨p1, 0, none⟩ = some (.int .i64 vs)
  a1 : W.cell? ⟨p1, 1, none⟩ = some (.bool vw)
  d0 : W.cell? ⟨p2, 0, none⟩ = some (.int .i64 vs)
  d1 : W.cell? ⟨p2, 1, none⟩ = some (.bool vw)
  s1 : p1 < W.heap.size
  s2 : p2 < W.heap.size
theorem LaysW.next {s : Nat → Addr} {w W W' : World} {c : Int} {cw : Bool} {q : Option Addr} {len cap : Nat} {ms : List Ar} {p1 p2 : Nat} {vs : Int} {vw : Bool} (h : LaysW s w W c cw q len cap ms p1 p2 vs vw) (hb : Below W.heap.size W W') : LaysW s w W' c cw q len cap ms p1 p2 vs vw :=
  ⟨h.law.next hb, (hb.cell (p := ⟨p1, 0, none⟩) h.s1).trans h.a0, (hb.cell (p := ⟨p1, 1, none⟩) h.s1).trans h.a1, (hb.cell (p := ⟨p2, 0, none⟩) h.s2).trans h.d0, (hb.cell (p := ⟨p2, 1, none⟩) h.s2).trans h.d1, Nat.lt_of_lt_of_le h.s1 hb.size, Nat.lt_of_lt_of_le h.s2 hb.size⟩
set_option maxRecDepth 100000 in
set_option maxHeartbeats 4000000 in
theorem lays_any (s : Nat → Addr) (c : Int) (cw : Bool) (q : Option Addr) (len cap : Nat) (ms : List Ar) (mp : Option Addr) (mc : Nat) (Q : Nat → Option Addr) (C : Nat → Nat) (M : List (List Int)) (a n : Int) (w : World) (hs : Sent w s) (hm : MapsAt w q len ms) (hM : MemAt w mp Q C M) (ha : 0 ≤ a ∧ a < 18446744073709551616) :
    Calls Tryd.prog 4 #[.agg #[.int .i64 c, .bool cw, .slice q len cap], .slice mp M.length mc, .int .u64 a, .int .i64 n] w fun e w' => e = .returned (.bool true) ∧ Below w.heap.size w w' := by
  have H0 := Lib.hid (LawW.first (c := c) (cw := cw) (cap := cap) hs hm)
  have HM0 := Lib.hid (hM.alloc (.cells #[.int .i64 c, .bool cw, .slice q len cap] 26))
  have HF := Lib.hid (fun W hm => freshP c cw q len cap ms W hm)
  have HRF := Lib.hid (fun W hs hm => rfreshP s c cw q len cap ms W hs hm)
  have HSM := Lib.hid (fun m1 m2 c1 c2 Q1 Q2 C1 C2 => rsame_mem m1 m2 c1 c2 Q1 Q2 C1 C2 (freshL c ms len))
  have HCH := Lib.hid (fun W hm => check_any c cw q len cap ms W hm)
  have HRC := Lib.hid (fun W hm => rcheck_any c cw q len cap ms W hm)
  have HMY := Lib.hid (fun W hm hM => may_any c cw q len cap ms mp mc Q C M W hm hM)
  have HRM := Lib.hid (fun W hs hm hM => rmay_any s c cw q len cap ms mp mc Q C M W hs hm hM)
  have HSP := Lib.hid (fun W => split_any a W ha.1 ha.2)
  have HRS := Lib.hid (fun W => rsplit_any a W ha.1 ha.2)
  have HAR := Lib.hid (fun W hm => area2_any c cw q len cap ms (regOf a) W hm)
  have HRA := Lib.hid (fun W hm => rarea_any c cw q len cap ms (regOf a) W hm)
  have HAD := Lib.hid (address_any n (offOf a))
  have HRD := Lib.hid (raddress_any n (offOf a))
  have HAC1 := Lib.hid (fun W hs hm => access_any s c cw q len cap ms a n true W hs hm ha)
  have HAC0 := Lib.hid (fun W hs hm => access_any s c cw q len cap ms a n false W hs hm ha)
  have HRC1 := Lib.hid (fun W hm => raccess_any c cw q len cap ms a n true W hm ha)
  have HRC0 := Lib.hid (fun W hm => raccess_any c cw q len cap ms a n false W hm ha)
  obtain ⟨K, hK⟩ : ∃ K, M.length = K := ⟨_, rfl⟩
  rw [hK] at HMY HRM ⊢
  obtain ⟨N, hN⟩ : ∃ N, (freshL c ms len).length = N := ⟨_, rfl⟩
  rw [hN] at HF HRF HSM
  unfold FPost at HF HRF
  generalize freshL c ms len = FM at *
  generalize accN (findK c cw ms len a n true) = E1 at *
  generalize accN (findK c cw ms len a n false) = E0 at *
  generalize areaR c cw ms len (regOf a) = V at *
  generalize areaB c ms len (regOf a) = VB at *
  generalize mayB c ms len M = MB at *
  generalize addrOf n (offOf a) = AD at *
  generalize regOf a = R at *
  generalize offOf a = O at *
  generalize chk (okL c ms) = E at *
  clear hs hm hM hK ha hN
  obtain ⟨vs, vw⟩ := V
  dsimp only at HAR HRA
  have t0 : (E != E) = false := by simp
  have t1 : (MB != MB) = false := by simp
  have q23 := eql23 vs vw
  go_enter Tryd.func4, Tryd.ntmps4
  go_wp2_with (first
    | (go_at_call 9; refine (HF.out _ H0.out.maps).mono ?_; rintro e w1 ⟨g1, gc1, Q1, C1, rfl, hM, hb⟩; have H1 := Lib.hid (H0.out.next hb); have HM1 := Lib.hid (HM0.out.below hb); have HF1 := Lib.hid hM; have k0 := H1.out.b0; have k1 := H1.out.b1; have k2 := H1.out.b2; clear hb hM)
    | (go_at_call 16; refine (HRF.out _ H1.out.sent H1.out.maps).mono ?_; rintro e w2 ⟨g2, gc2, Q2, C2, rfl, hM, hb⟩; have H2 := Lib.hid (H1.out.next hb); have HM2 := Lib.hid (HM1.out.below hb); have HF2 := Lib.hid (HF1.out.below hb); have HG2 := Lib.hid hM; have j0 := H2.out.b0; have j1 := H2.out.b1; have j2 := H2.out.b2; clear hb hM))
  clear k0 k1 k2
  go_region_held3 (fun W => W.cell? ⟨w.heap.size, 0, none⟩ = some (.int .i64 c) ∧ W.cell? ⟨w.heap.size, 1, none⟩ = some (.bool cw) ∧ W.cell? ⟨w.heap.size, 2, none⟩ = some (.slice q len cap)) (go_keep)
    (first
    | (go_at_call 17; refine (HSM.out _ _ _ _ _ _ _ _ _ HF2.out.drew HG2.out.drew).mono ?_; rintro e w3 ⟨rfl, hb⟩; have H3 := Lib.hid (H2.out.drew.next hb); have HM3 := Lib.hid ((HM2.out.below (Below.refl _ _).drew).below hb); have k0 := H3.out.b0; have k1 := H3.out.b1; have k2 := H3.out.b2; clear hb)
    | (go_at_call 11; refine (HCH.out _ H3.out.maps).mono ?_; rintro e w4 ⟨rfl, hb⟩; have H4 := Lib.hid (H3.out.next hb); have HM4 := Lib.hid (HM3.out.below hb); have l0 := H4.out.b0; have l1 := H4.out.b1; have l2 := H4.out.b2; clear hb)
    | (go_at_call 18; refine (HRC.out _ H4.out.maps).mono ?_; rintro e w5 ⟨rfl, hb⟩; have H5 := Lib.hid (H4.out.next hb); have HM5 := Lib.hid (HM4.out.below hb); have i0 := H5.out.b0; have i1 := H5.out.b1; have i2 := H5.out.b2; clear hb)
    | (go_at_call 19; refine (HMY.out _ H5.out.maps HM5.out).mono ?_; rintro e w6 ⟨rfl, hb⟩; have H6 := Lib.hid (H5.out.next hb); have HM6 := Lib.hid (HM5.out.below hb); have m0 := H6.out.b0; have m1 := H6.out.b1; have m2 := H6.out.b2; clear hb)
    | (go_at_call 20; refine (HRM.out _ H6.out.sent H6.out.maps HM6.out).mono ?_; rintro e w7 ⟨rfl, hb⟩; have H7 := Lib.hid (H6.out.next hb); have n0 := H7.out.b0; have n1 := H7.out.b1; have n2 := H7.out.b2; clear hb))
  clear j0 j1 j2
  go_wp2_with (first
    | (go_at_call 21; refine (HSP.out _).mono ?_; rintro e w' ⟨rfl, rfl⟩)
    | (go_at_call 22; refine (HRS.out _).mono ?_; rintro e w' ⟨rfl, rfl⟩)
    | (go_at_call 10; refine (HAR.out _ H7.out.maps).mono ?_; rintro e w8 ⟨rfl, hb⟩; have H8 := Lib.hid (fun o => (H7.out.next hb).alloc o); have o0 := fun o => (H8.out o).b0; have o1 := fun o => (H8.out o).b1; have o2 := fun o => (H8.out o).b2; clear hb)
    | (go_at_call 23; refine (HRA.out _ (H8.out _).maps).mono ?_; rintro e w9 ⟨rfl, hb⟩; have H9 := Lib.hid (fun o => ((H8.out _).next hb).alloc o); have p0 := fun o => (H9.out o).b0; have p1 := fun o => (H9.out o).b1; have p2 := fun o => (H9.out o).b2; have hz := Lib.hid hb; clear hb))
  obtain ⟨W9, hW9⟩ : ∃ W9, w9.alloc (Obj.cells #[Value.int IntKind.i64 vs, Value.bool vw] 23) = W9 := ⟨_, rfl⟩
  rw [hW9]
  have HL9 : Hid (LaysW s w W9 c cw q len cap ms w8.heap.size w9.heap.size vs vw) := Lib.hid (by
    subst hW9
    have hz8 : w8.heap.size < (w8.alloc (Obj.cells #[Value.int IntKind.i64 vs, Value.bool vw] 23)).heap.size := by simp
    have hb9 := (hz.out.alloc hz.out.size (Obj.cells #[Value.int IntKind.i64 vs, Value.bool vw] 23))
    exact ⟨H9.out _, (hb9.cell (p := ⟨w8.heap.size, 0, none⟩) hz8).trans (cell_new w8 rfl), (hb9.cell (p := ⟨w8.heap.size, 1, none⟩) hz8).trans (cell_new w8 rfl), cell_new w9 rfl, cell_new w9 rfl, Nat.lt_of_lt_of_le hz8 hb9.size, by simp⟩)
  generalize w8.heap.size = P1 at *
  generalize w9.heap.size = P2 at *
  have tokA : True := trivial
  have tokB : True := trivial
  have L9a := HL9.out.law.b0
  have L9b := HL9.out.law.b1
  have L9c := HL9.out.law.b2
  have L9d := HL9.out.a0
  have L9e := HL9.out.a1
  have L9f := HL9.out.d0
  have L9g := HL9.out.d1
  clear H0 H1 H2 H3 H4 H5 H6 H7 H8 H9 HM0 HM1 HM2 HM3 HM4 HM5 HM6 HF1 HF2 HG2 o0 o1 o2 p0 p1 p2 hz HSM HCH HRC HMY HRM HSP HRS HAR HRA HF HRF k0 k1 k2 l0 l1 l2 i0 i1 i2 m0 m1 m2 n0 n1 n2 hW9
  go_region_held3 (fun W => W.cell? ⟨w.heap.size, 0, none⟩ = some (.int .i64 c) ∧ W.cell? ⟨w.heap.size, 1, none⟩ = some (.bool cw) ∧ W.cell? ⟨w.heap.size, 2, none⟩ = some (.slice q len cap) ∧ W.cell? ⟨P1, 0, none⟩ = some (.int .i64 vs) ∧ W.cell? ⟨P1, 1, none⟩ = some (.bool vw) ∧ W.cell? ⟨P2, 0, none⟩ = some (.int .i64 vs) ∧ W.cell? ⟨P2, 1, none⟩ = some (.bool vw)) (first | exact ⟨L9a, L9b, L9c, L9d, L9e, L9f, L9g⟩ | exact ⟨T1a, T1b, T1c, T1d, T1e, T1f, T1g⟩ | exact ⟨T2a, T2b, T2c, T2d, T2e, T2f, T2g⟩ | exact ⟨T3a, T3b, T3c, T3d, T3e, T3f, T3g⟩ | exact ⟨T4a, T4b, T4c, T4d, T4e, T4f, T4g⟩ | exact ⟨T5a, T5b, T5c, T5d, T5e, T5f, T5g⟩)
    (first
    | (go_at_call 14; refine (HAD.out _).mono ?_; rintro e w' ⟨rfl, rfl⟩)
    | (go_at_call 24; refine (HRD.out _).mono ?_; rintro e w' ⟨rfl, rfl⟩)
    | (go_at_call 15; clear tokA; refine (HAC1.out _ (HL9.out.next (Below.refl _ _).drew).law.sent (HL9.out.next (Below.refl _ _).drew).law.maps).mono ?_; rintro e w1 ⟨rfl, hb⟩; have T1 := Lib.hid ((HL9.out.next (Below.refl _ _).drew).next hb); have T1a := T1.out.law.b0; have T1b := T1.out.law.b1; have T1c := T1.out.law.b2; have T1d := T1.out.a0; have T1e := T1.out.a1; have T1f := T1.out.d0; have T1g := T1.out.d1; clear hb)
    | (go_at_call 25; clear tokB; refine (HRC1.out _ T1.out.law.maps).mono ?_; rintro e w2 ⟨rfl, hb⟩; have T2 := Lib.hid (T1.out.next hb); have T2a := T2.out.law.b0; have T2b := T2.out.law.b1; have T2c := T2.out.law.b2; have T2d := T2.out.a0; have T2e := T2.out.a1; have T2f := T2.out.d0; have T2g := T2.out.d1; clear hb)
    | (go_at_call 15; refine (HAC0.out _ T2.out.law.sent T2.out.law.maps).mono ?_; rintro e w3 ⟨rfl, hb⟩; have T3 := Lib.hid (T2.out.next hb); have T3a := T3.out.law.b0; have T3b := T3.out.law.b1; have T3c := T3.out.law.b2; have T3d := T3.out.a0; have T3e := T3.out.a1; have T3f := T3.out.d0; have T3g := T3.out.d1; clear hb)
    | (go_at_call 25; refine (HRC0.out _ T3.out.law.maps).mono ?_; rintro e w4 ⟨rfl, hb⟩; have T4 := Lib.hid (T3.out.next hb); have T4a := T4.out.law.b0; have T4b := T4.out.law.b1; have T4c := T4.out.law.b2; have T4d := T4.out.a0; have T4e := T4.out.a1; have T4f := T4.out.d0; have T4g := T4.out.d1; clear hb)
    | (go_at_call 12; refine (heads_any s _ T4.out.law.sent).mono ?_; rintro e w5 ⟨rfl, hb⟩; have T5 := Lib.hid (T4.out.next hb); have T5a := T5.out.law.b0; have T5b := T5.out.law.b1; have T5c := T5.out.law.b2; have T5d := T5.out.a0; have T5e := T5.out.a1; have T5f := T5.out.d0; have T5g := T5.out.d1; clear hb))
  go_wp2_with fail
  go_ret
  exact ⟨rfl, T5.out.law.below⟩
end Go.Proofs.YtgchdiocbllppaaDoor
