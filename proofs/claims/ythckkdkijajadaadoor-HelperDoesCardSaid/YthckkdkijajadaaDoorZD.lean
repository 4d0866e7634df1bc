/- HelperDoes: what a helper answers, writes, and what is told. -/
import Derived.Test.YthckkdkijajadaaDoorZH
import Derived.Test.YthckkdkijajadaaDoorZA
import Derived.Test.YthckkdkijajadaaDoorZB
namespace Go.Proofs.YthckkdkijajadaaDoor
open Go.RowKit M

set_option maxRecDepth 100000 in
set_option maxHeartbeats 8000000 in
theorem does_any (s s' : Nat → Addr) (c : Int) (cw : Bool) (p : Option Addr) (len cap : Nat) (ms : List Ar) (mp : Option Addr) (mc : Nat) (Q : Nat → Option Addr) (C : Nat → Nat) (M : List (List Int)) (n : Int) (q : Option Addr) (A : List Int) (cc : Nat) (sq : Option Addr) (S : List Int) (sc : Nat) (w : World)
    (hs : HSent w s) (hS : Sent w s') (hm : MapsAt w p len ms) (hM : MemAt w mp Q C M) (h24 : M.length * 24 ≤ 140737488351232) (hA : WordsAt w q A) (hcc : A.length ≤ cc) (hSS : WordsAt w sq S) (hn : (Lit.int .i64 n).wf = true) :
    Calls Tryd.prog 5 #[.agg #[.int .i64 c, .bool cw, .slice p len cap], .slice mp M.length mc, .int .i64 n, .slice q A.length cc, .slice sq S.length sc] w fun e w' => e = .returned (.bool true) ∧ Below w.heap.size w w' := by
  obtain ⟨k, hk⟩ : ∃ k, doK n A c cw ms len M = k := ⟨_, rfl⟩
  have H0 := Lib.hid (LawW.first (c := c) (cw := cw) (cap := cap) hS hm)
  have HS0 := Lib.hid (hs.alloc (.cells #[.int .i64 c, .bool cw, .slice p len cap] 27))
  have HM0 := Lib.hid (hM.alloc (.cells #[.int .i64 c, .bool cw, .slice p len cap] 27))
  have HA0 := Lib.hid (hA.alloc (.cells #[.int .i64 c, .bool cw, .slice p len cap] 27))
  have HSS0 := Lib.hid (hSS.alloc (.cells #[.int .i64 c, .bool cw, .slice p len cap] 27))
  have HCP := Lib.hid (fun W (h : MemAt W mp Q C M) => rcopy_new (mc := mc) h h24)
  have HDO := Lib.hid (fun W mp mc Q C hs hS hm hM hA hSS => do_any s s' c cw p len cap ms mp mc Q C M n q A cc sq S sc W hs hS hm hM hA hcc hSS hn k hk)
  have HRD := Lib.hid (fun W hS hm hM hA hSS => rdo_any s' c cw p len cap ms mp mc Q C M n q A cc sq S sc W hS hm hM hA hcc hSS k hk)
  have HTS := Lib.hid (fun b1 b2 q1 q2 d1 d2 c1 c2 e1 e2 f1 f2 => rtold_same b1 b2 q1 q2 d1 d2 c1 c2 e1 e2 f1 f2 (doH n k) (doT n A k) (doD n A c cw ms len M k))
  have HS1 := Lib.hid (fun m1 m2 c1 c2 Q1 Q2 C1 C2 => rsame_mem m1 m2 c1 c2 Q1 Q2 C1 C2 (doR n A S c cw ms len M k))
  have HS2 := Lib.hid (fun m1 m2 c1 c2 Q1 Q2 C1 C2 => rsame_mem m1 m2 c1 c2 Q1 Q2 C1 C2 M)
  unfold DoPost at HDO HRD
  generalize doV n A S k = V at *
  generalize doR n A S c cw ms len M k = R at *
  generalize doH n k = Hn at *
  generalize doT n A k = T at *
  generalize doD n A c cw ms len M k = D at *
  generalize doE k = E at *
  obtain ⟨K, hK⟩ : ∃ K, M.length = K := ⟨_, rfl⟩
  obtain ⟨K1, hK1⟩ : ∃ K, R.length = K := ⟨_, rfl⟩
  obtain ⟨NA, hNA⟩ : ∃ N, A.length = N := ⟨_, rfl⟩
  obtain ⟨NS, hNS⟩ : ∃ N, S.length = N := ⟨_, rfl⟩
  obtain ⟨NT, hNT⟩ : ∃ N, T.length = N := ⟨_, rfl⟩
  obtain ⟨ND, hND⟩ : ∃ N, D.length = N := ⟨_, rfl⟩
  rw [hK1] at HDO HRD HS1
  rw [hNT, hND] at HDO HRD HTS
  rw [hNA, hNS] at HDO HRD
  rw [hK] at HCP HDO HRD HS2
  rw [hK, hNA, hNS]
  clear hs hS hm hM hK hK1 hNA hNS hNT hND hA hSS hcc h24 hn hk
  have t1 : (V == V) = true := by simp
  have t2 : (E == E) = true := by simp
  go_enter Tryd.func5, Tryd.ntmps5
  go_wp2_with (first
    | (go_at_call 16; refine (HCP.out _ HM0.out).mono ?_; rintro e w1 ⟨mp1, mc1, Q1, C1, rfl, hb, hm1, _⟩; have H1 := Lib.hid (H0.out.next hb); have HS1' := Lib.hid (HS0.out.below hb); have HM1 := Lib.hid (HM0.out.below hb); have HA1 := Lib.hid (HA0.out.below hb); have HSS1 := Lib.hid (HSS0.out.below hb); have HO1 := Lib.hid hm1; have k0 := H1.out.b0; have k1 := H1.out.b1; have k2 := H1.out.b2; clear hb hm1)
    | (go_at_call 9; refine (HDO.out _ _ _ _ _ HS1'.out H1.out.sent H1.out.maps HO1.out HA1.out HSS1.out).mono ?_; rintro e w2 ⟨mp2, mc2, Q2, C2, tq2, tc2, dq2, dc2, rfl, hb, hm2, _, ht2, hd2⟩; have H2 := Lib.hid (H1.out.next hb |>.alloc (.cells #[.int .i64 Hn, .slice tq2 NT tc2, .slice dq2 ND dc2] 35)); have HS2' := Lib.hid (HS1'.out.below hb |>.alloc (.cells #[.int .i64 Hn, .slice tq2 NT tc2, .slice dq2 ND dc2] 35)); have HM2 := Lib.hid (HM1.out.below hb |>.alloc (.cells #[.int .i64 Hn, .slice tq2 NT tc2, .slice dq2 ND dc2] 35)); have HA2 := Lib.hid (HA1.out.below hb |>.alloc (.cells #[.int .i64 Hn, .slice tq2 NT tc2, .slice dq2 ND dc2] 35)); have HSS2 := Lib.hid (HSS1.out.below hb |>.alloc (.cells #[.int .i64 Hn, .slice tq2 NT tc2, .slice dq2 ND dc2] 35)); have HO2 := Lib.hid (HO1.out.below hb |>.alloc (.cells #[.int .i64 Hn, .slice tq2 NT tc2, .slice dq2 ND dc2] 35)); have HP2 := Lib.hid (hm2.alloc (.cells #[.int .i64 Hn, .slice tq2 NT tc2, .slice dq2 ND dc2] 35)); have HT2 := Lib.hid (ht2.alloc (.cells #[.int .i64 Hn, .slice tq2 NT tc2, .slice dq2 ND dc2] 35)); have HD2 := Lib.hid (hd2.alloc (.cells #[.int .i64 Hn, .slice tq2 NT tc2, .slice dq2 ND dc2] 35)); have HB2 := Lib.hid (Box.new w2 [.int .i64 Hn, .slice tq2 NT tc2, .slice dq2 ND dc2] 35 rfl); clear k0 k1 k2; have k0 := H2.out.b0; have k1 := H2.out.b1; have k2 := H2.out.b2; clear hb hm2 ht2 hd2)
    | (go_at_call 17; refine (HRD.out _ H2.out.sent H2.out.maps HM2.out HA2.out HSS2.out).mono ?_; rintro e w3 ⟨mp3, mc3, Q3, C3, tq3, tc3, dq3, dc3, rfl, hb, hm3, _, ht3, hd3⟩; have H3 := Lib.hid (H2.out.next hb |>.alloc (.cells #[.int .i64 Hn, .slice tq3 NT tc3, .slice dq3 ND dc3] 35)); have HS3' := Lib.hid (HS2'.out.below hb |>.alloc (.cells #[.int .i64 Hn, .slice tq3 NT tc3, .slice dq3 ND dc3] 35)); have HM3 := Lib.hid (HM2.out.below hb |>.alloc (.cells #[.int .i64 Hn, .slice tq3 NT tc3, .slice dq3 ND dc3] 35)); have HO3 := Lib.hid (HO2.out.below hb |>.alloc (.cells #[.int .i64 Hn, .slice tq3 NT tc3, .slice dq3 ND dc3] 35)); have HP3 := Lib.hid (HP2.out.below hb |>.alloc (.cells #[.int .i64 Hn, .slice tq3 NT tc3, .slice dq3 ND dc3] 35)); have HT3 := Lib.hid (HT2.out.below hb |>.alloc (.cells #[.int .i64 Hn, .slice tq3 NT tc3, .slice dq3 ND dc3] 35)); have HD3 := Lib.hid (HD2.out.below hb |>.alloc (.cells #[.int .i64 Hn, .slice tq3 NT tc3, .slice dq3 ND dc3] 35)); have HB3 := Lib.hid (HB2.out.next hb |>.alloc (.cells #[.int .i64 Hn, .slice tq3 NT tc3, .slice dq3 ND dc3] 35)); have HR3 := Lib.hid (hm3.alloc (.cells #[.int .i64 Hn, .slice tq3 NT tc3, .slice dq3 ND dc3] 35)); have HU3 := Lib.hid (ht3.alloc (.cells #[.int .i64 Hn, .slice tq3 NT tc3, .slice dq3 ND dc3] 35)); have HE3 := Lib.hid (hd3.alloc (.cells #[.int .i64 Hn, .slice tq3 NT tc3, .slice dq3 ND dc3] 35)); have HC3 := Lib.hid (Box.new w3 [.int .i64 Hn, .slice tq3 NT tc3, .slice dq3 ND dc3] 35 rfl); clear k0 k1 k2 hb hm3 ht3 hd3; have tok1 : True := trivial)
    | (go_at_call 18; clear tok1; refine (HS1.out _ _ _ _ _ _ _ _ _ HP3.out HR3.out).mono ?_; rintro e w4 ⟨rfl, hb⟩; have H4 := Lib.hid (H3.out.next hb); have HS4 := Lib.hid (HS3'.out.below hb); have HM4 := Lib.hid (HM3.out.below hb); have HO4 := Lib.hid (HO3.out.below hb); have HT4 := Lib.hid (HT3.out.below hb); have HD4 := Lib.hid (HD3.out.below hb); have HU4 := Lib.hid (HU3.out.below hb); have HE4 := Lib.hid (HE3.out.below hb); have HB4 := HB3.out.next hb; have HC4 := HC3.out.next hb; have m0 := HB4.cell 0 _ rfl; have m1 := HB4.cell 1 _ rfl; have m2 := HB4.cell 2 _ rfl; have l0 := fun o => (HC4.alloc o).cell 0 _ rfl; have l1 := fun o => (HC4.alloc o).cell 1 _ rfl; have l2 := fun o => (HC4.alloc o).cell 2 _ rfl; clear hb HB4 HC4)
    | (go_at_call 19; refine (HTS.out _ _ _ _ _ _ _ _ _ _ _ _ _ ((Box.new w4 [.int .i64 Hn, .slice tq2 NT tc2, .slice dq2 ND dc2] 35 rfl).alloc _) (Box.new (w4.alloc (.cells #[.int .i64 Hn, .slice tq2 NT tc2, .slice dq2 ND dc2] 35)) [.int .i64 Hn, .slice tq3 NT tc3, .slice dq3 ND dc3] 35 (by simp)) ((HT4.out.alloc _).alloc _) ((HU4.out.alloc _).alloc _) ((HD4.out.alloc _).alloc _) ((HE4.out.alloc _).alloc _)).mono ?_; rintro e w5 ⟨rfl, hb⟩; have H5 := Lib.hid (((H4.out.alloc _).alloc _).next hb); have HS5 := Lib.hid (((HS4.out.alloc _).alloc _).below hb); have HM5 := Lib.hid (((HM4.out.alloc _).alloc _).below hb); have HO5 := Lib.hid (((HO4.out.alloc _).alloc _).below hb); clear hb m0 m1 m2 l0 l1 l2)
    | (go_at_call 18; refine (HS2.out _ _ _ _ _ _ _ _ _ HO5.out HM5.out).mono ?_; rintro e w6 ⟨rfl, hb⟩; have H6 := Lib.hid (H5.out.next hb); have HS6 := Lib.hid (HS5.out.below hb); clear hb)
    | (go_at_call 10; refine (heads_any s s' _ HS6.out H6.out.sent).mono ?_; rintro e w7 ⟨rfl, hb⟩; have H7 := Lib.hid (H6.out.next hb); clear hb))
  trace_state
  go_ret
  exact ⟨rfl, H7.out.below⟩
end Go.Proofs.YthckkdkijajadaaDoor
