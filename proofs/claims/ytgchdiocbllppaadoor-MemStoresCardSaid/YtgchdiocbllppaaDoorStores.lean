/- MemStores: what a memory is behind a store and a fill is what the document says, and what is handed in stays; no condition. -/
import Derived.Test.YtgchdiocbllppaaDoorRN
namespace Go.Proofs.YtgchdiocbllppaaDoor
open Go.RowKit M

set_option maxRecDepth 100000 in
set_option maxHeartbeats 4000000 in
theorem stores_any (s : Nat → Addr) (c : Int) (cw : Bool) (q : Option Addr) (len cap : Nat) (ms : List Ar) (mp : Option Addr) (mc : Nat) (Q : Nat → Option Addr) (C : Nat → Nat) (M : List (List Int)) (a n x : Int) (bq : Option Addr) (bs : List Int) (bc : Nat) (w : World) (hs : Sent w s) (hm : MapsAt w q len ms) (hM : MemAt w mp Q C M) (h24 : M.length * 24 ≤ 140737488351232) (hbs : RowAt w bq bs) (ha : 0 ≤ a ∧ a < 18446744073709551616) :
    Calls Tryd.prog 6 #[.agg #[.int .i64 c, .bool cw, .slice q len cap], .slice mp M.length mc, .int .u64 a, .int .i64 n, .int .u64 x, .slice bq bs.length bc] w fun e w' => e = .returned (.bool true) ∧ Below w.heap.size w w' := by
  have H0 := Lib.hid (LawW.first (c := c) (cw := cw) (cap := cap) hs hm)
  have HM0 := Lib.hid (hM.alloc (.cells #[.int .i64 c, .bool cw, .slice q len cap] 26))
  have HB0 := Lib.hid (hbs.alloc (.cells #[.int .i64 c, .bool cw, .slice q len cap] 26))
  have HCP : Hid (∀ W, MemAt W mp Q C M → Calls Tryd.prog 30 #[.slice mp M.length mc] W fun e w' => ∃ mp' mc' Q' C', e = .returned (.slice mp' M.length mc') ∧ Below W.heap.size W w' ∧ MemAt w' mp' Q' C' M) := fun W h =>
    (copy_any mp mc Q C M W h h24).mono fun e w' ⟨v, B, C', he, hb, ho, hc⟩ => by
      obtain ⟨mp', mc', hv, hmem⟩ := copies_mem h.small h.rsmall h.byte ⟨rfl, fun _ => rfl⟩ ho hc
      exact ⟨mp', mc', _, C', by rw [he, hv], hb, hmem⟩
  have HST := Lib.hid (fun mp mc Q C W hs hm hM => store_any s c cw q len cap ms mp mc Q C M a n x W hs hm hM ha)
  have HRS := Lib.hid (fun W hs hm hM => rstore_any s c cw q len cap ms mp mc Q C M a n x W hs hm hM ha)
  have HFL := Lib.hid (fun mp mc Q C W hs hm hM hb => fill_any s c cw q len cap ms mp mc Q C M a bq bs bc W hs hm hM hb ha)
  have HRF := Lib.hid (fun W hs hm hM hb => rfill_any s c cw q len cap ms mp mc Q C M a bq bs bc W hs hm hM hb ha)
  have HS1 := Lib.hid (fun m1 m2 c1 c2 Q1 Q2 C1 C2 => rsame_mem m1 m2 c1 c2 Q1 Q2 C1 C2 (stM c cw ms len M a n x))
  have HS2 := Lib.hid (fun m1 m2 c1 c2 Q1 Q2 C1 C2 => rsame_mem m1 m2 c1 c2 Q1 Q2 C1 C2 (flM c cw ms len M a bs))
  have HS3 := Lib.hid (fun m1 m2 c1 c2 Q1 Q2 C1 C2 => rsame_mem m1 m2 c1 c2 Q1 Q2 C1 C2 M)
  unfold MemPost at HST HRS HFL HRF
  generalize stM c cw ms len M a n x = M1 at *
  generalize flM c cw ms len M a bs = M2 at *
  generalize stE c cw ms len M a n = E1 at *
  generalize accN (rdK c cw ms len M a bs.length true) = E2 at *
  obtain ⟨K, hK⟩ : ∃ K, M.length = K := ⟨_, rfl⟩
  obtain ⟨K1, hK1⟩ : ∃ K, M1.length = K := ⟨_, rfl⟩
  obtain ⟨K2, hK2⟩ : ∃ K, M2.length = K := ⟨_, rfl⟩
  obtain ⟨N, hN⟩ : ∃ N, bs.length = N := ⟨_, rfl⟩
  rw [hK1] at HST HRS HS1
  rw [hK2] at HFL HRF HS2
  rw [hN] at HFL HRF
  rw [hK] at HCP HST HRS HFL HRF HS3
  rw [hK, hN]
  clear hs hm hM hK hK1 hK2 hN ha hbs h24
  have t1 : (E1 == E1) = true := by simp
  have t2 : (E2 == E2) = true := by simp
  go_enter Tryd.func6, Tryd.ntmps6
  go_wp2_with (first
    | (go_at_call 30; refine (HCP.out _ HM0.out).mono ?_; rintro e w1 ⟨mp1, mc1, Q1, C1, rfl, hb, hm1⟩; have H1 := Lib.hid (H0.out.next hb); have HM1 := Lib.hid (HM0.out.below hb); have HB1 := Lib.hid (HB0.out.below hb); have HO1 := Lib.hid hm1; have k0 := H1.out.b0; have k1 := H1.out.b1; have k2 := H1.out.b2; clear hb hm1)
    | (go_at_call 31; refine (HST.out _ _ _ _ _ H1.out.sent H1.out.maps HO1.out).mono ?_; rintro e w2 ⟨mp2, mc2, Q2, C2, rfl, hb, hm1⟩; have H2 := Lib.hid (H1.out.next hb); have HM2 := Lib.hid (HM1.out.below hb); have HB2 := Lib.hid (HB1.out.below hb); have HO2 := Lib.hid (HO1.out.below hb); have HP2 := Lib.hid hm1; have j0 := H2.out.b0; have j1 := H2.out.b1; have j2 := H2.out.b2; clear hb hm1)
    | (go_at_call 32; refine (HRS.out _ H2.out.sent H2.out.maps HM2.out).mono ?_; rintro e w3 ⟨mp3, mc3, Q3, C3, rfl, hb, hm1⟩; have H3 := Lib.hid (H2.out.next hb); have HM3 := Lib.hid (HM2.out.below hb); have HB3 := Lib.hid (HB2.out.below hb); have HO3 := Lib.hid (HO2.out.below hb); have HP3 := Lib.hid (HP2.out.below hb); have HQ3 := Lib.hid hm1; have i0 := H3.out.b0; have i1 := H3.out.b1; have i2 := H3.out.b2; clear hb hm1)
    | (go_at_call 33; refine (HFL.out _ _ _ _ _ H3.out.sent H3.out.maps HO3.out HB3.out).mono ?_; rintro e w4 ⟨mp4, mc4, Q4, C4, rfl, hb, hm1⟩; have H4 := Lib.hid (H3.out.next hb); have HM4 := Lib.hid (HM3.out.below hb); have HB4 := Lib.hid (HB3.out.below hb); have HO4 := Lib.hid (HO3.out.below hb); have HP4 := Lib.hid (HP3.out.below hb); have HQ4 := Lib.hid (HQ3.out.below hb); have HR4 := Lib.hid hm1; have l0 := H4.out.b0; have l1 := H4.out.b1; have l2 := H4.out.b2; clear hb hm1)
    | (go_at_call 34; refine (HRF.out _ H4.out.sent H4.out.maps HM4.out HB4.out).mono ?_; rintro e w5 ⟨mp5, mc5, Q5, C5, rfl, hb, hm1⟩; have H5 := Lib.hid (H4.out.next hb); have HM5 := Lib.hid (HM4.out.below hb); have HO5 := Lib.hid (HO4.out.below hb); have HP5 := Lib.hid (HP4.out.below hb); have HQ5 := Lib.hid (HQ4.out.below hb); have HR5 := Lib.hid (HR4.out.below hb); have HS5 := Lib.hid hm1; clear hb hm1; have tok1 : True := trivial; have tok2 : True := trivial)
    | (go_at_call 17; clear tok1; refine (HS1.out _ _ _ _ _ _ _ _ _ HP5.out HQ5.out).mono ?_; rintro e w6 ⟨rfl, hb⟩; have H6 := Lib.hid (H5.out.next hb); have HM6 := Lib.hid (HM5.out.below hb); have HO6 := Lib.hid (HO5.out.below hb); have HR6 := Lib.hid (HR5.out.below hb); have HS6 := Lib.hid (HS5.out.below hb); clear hb)
    | (go_at_call 17; clear tok2; refine (HS2.out _ _ _ _ _ _ _ _ _ HR6.out HS6.out).mono ?_; rintro e w7 ⟨rfl, hb⟩; have H7 := Lib.hid (H6.out.next hb); have HM7 := Lib.hid (HM6.out.below hb); have HO7 := Lib.hid (HO6.out.below hb); clear hb)
    | (go_at_call 17; refine (HS3.out _ _ _ _ _ _ _ _ _ HO7.out HM7.out).mono ?_; rintro e w8 ⟨rfl, hb⟩; have H8 := Lib.hid (H7.out.next hb); clear hb)
    | (go_at_call 12; refine (heads_any s _ H8.out.sent).mono ?_; rintro e w9 ⟨rfl, hb⟩; have H9 := Lib.hid (H8.out.next hb); clear hb))
  go_ret
  exact ⟨rfl, H9.out.below⟩
end Go.Proofs.YtgchdiocbllppaaDoor
