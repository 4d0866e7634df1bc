/- HelperKeeps: a helper that writes nothing leaves the memory; one that does changes only what it should. -/
import Derived.Test.YthckkdkijajadaaDoorZH
import Derived.Test.YthckkdkijajadaaDoorZR
namespace Go.Proofs.YthckkdkijajadaaDoor
open Go.RowKit M

section
variable (s s' : Nat → Addr) (c : Int) (cw : Bool) (p : Option Addr) (len cap : Nat) (ms : List Ar) (mp : Option Addr) (mc : Nat) (Q : Nat → Option Addr) (C : Nat → Nat) (M : List (List Int)) (n : Int) (q : Option Addr) (A : List Int) (cc : Nat) (sq : Option Addr) (S : List Int) (sc : Nat) (a : Int) (w : World)
    (hs : HSent w s) (hS : Sent w s') (hm : MapsAt w p len ms) (hM : MemAt w mp Q C M) (hA : WordsAt w q A) (hcc : A.length ≤ cc) (hSS : WordsAt w sq S) (hn : (Lit.int .i64 n).wf = true) (ha : 0 ≤ a ∧ a < 18446744073709551616)
include hs hS hm hM hA hcc hSS hn ha
set_option maxRecDepth 100000 in
set_option maxHeartbeats 8000000 in
omit ha in
theorem keeps_no (k : Nat) (hk : doK n A c cw ms len M = k) (hk5 : k ≠ 5) :
    Calls Tryd.prog 6 #[.agg #[.int .i64 c, .bool cw, .slice p len cap], .slice mp M.length mc, .int .i64 n, .slice q A.length cc, .slice sq S.length sc, .int .u64 a] w fun e w' => e = .returned (.bool true) ∧ Below w.heap.size w w' := by
  have H0 := Lib.hid (LawW.first (c := c) (cw := cw) (cap := cap) hS hm)
  have HS0 := Lib.hid (hs.alloc (.cells #[.int .i64 c, .bool cw, .slice p len cap] 27))
  have HM0 := Lib.hid (hM.alloc (.cells #[.int .i64 c, .bool cw, .slice p len cap] 27))
  have HA0 := Lib.hid (hA.alloc (.cells #[.int .i64 c, .bool cw, .slice p len cap] 27))
  have HSS0 := Lib.hid (hSS.alloc (.cells #[.int .i64 c, .bool cw, .slice p len cap] 27))
  have HDO := Lib.hid (fun W hs hS hm hM hA hSS => do_any s s' c cw p len cap ms mp mc Q C M n q A cc sq S sc W hs hS hm hM hA hcc hSS hn k hk)
  have hE := doE_ne hk5
  have eR : doR n A S c cw ms len M k = [] := by simp [doR, hk5]
  have eH : doH n k = 0 := by simp [doH, hk5]
  unfold DoPost at HDO
  rw [eR, eH] at HDO
  generalize doV n A S k = V at *
  generalize doT n A k = T at *
  generalize doD n A c cw ms len M k = D at *
  generalize doE k = E at *
  obtain ⟨K, hK⟩ : ∃ K, M.length = K := ⟨_, rfl⟩
  obtain ⟨NA, hNA⟩ : ∃ N, A.length = N := ⟨_, rfl⟩
  obtain ⟨NS, hNS⟩ : ∃ N, S.length = N := ⟨_, rfl⟩
  obtain ⟨NT, hNT⟩ : ∃ N, T.length = N := ⟨_, rfl⟩
  obtain ⟨ND, hND⟩ : ∃ N, D.length = N := ⟨_, rfl⟩
  rw [hNT, hND, hNA, hNS, hK] at HDO
  rw [show ([] : List (List Int)).length = 0 from rfl] at HDO
  rw [hK, hNA, hNS]
  clear hs hS hm hM hK hNA hNS hNT hND hA hSS hcc hn hk hk5 eR eH
  go_enter Tryd.func6, Tryd.ntmps6
  go_wp2_with (first
    | (go_at_call 9; refine (HDO.out _ HS0.out H0.out.sent H0.out.maps HM0.out HA0.out HSS0.out).mono ?_; rintro e w2 ⟨mp2, mc2, Q2, C2, tq2, tc2, dq2, dc2, rfl, hb, _⟩; have H2 := Lib.hid (H0.out.next hb); have HS2 := Lib.hid (HS0.out.below hb); clear hb)
    | (go_at_call 10; refine (heads_any s s' _ (HS2.out.alloc _) (H2.out.alloc _).sent).mono ?_; rintro e w3 ⟨rfl, hb⟩; have H3 := Lib.hid ((H2.out.alloc _).next hb); clear hb))
  go_ret
  exact ⟨rfl, H3.out.below⟩
set_option maxRecDepth 100000 in
set_option maxHeartbeats 8000000 in
theorem keeps_plain (hk : doK n A c cw ms len M = 5) (h4 : n ≠ 4) :
    Calls Tryd.prog 6 #[.agg #[.int .i64 c, .bool cw, .slice p len cap], .slice mp M.length mc, .int .i64 n, .slice q A.length cc, .slice sq S.length sc, .int .u64 a] w fun e w' => e = .returned (.bool true) ∧ Below w.heap.size w w' := by
  have H0 := Lib.hid (LawW.first (c := c) (cw := cw) (cap := cap) hS hm)
  have HS0 := Lib.hid (hs.alloc (.cells #[.int .i64 c, .bool cw, .slice p len cap] 27))
  have HM0 := Lib.hid (hM.alloc (.cells #[.int .i64 c, .bool cw, .slice p len cap] 27))
  have HA0 := Lib.hid (hA.alloc (.cells #[.int .i64 c, .bool cw, .slice p len cap] 27))
  have HSS0 := Lib.hid (hSS.alloc (.cells #[.int .i64 c, .bool cw, .slice p len cap] 27))
  have HDO := Lib.hid (fun W hs hS hm hM hA hSS => do_any s s' c cw p len cap ms mp mc Q C M n q A cc sq S sc W hs hS hm hM hA hcc hSS hn 5 hk)
  have HSP := Lib.hid (fun W hs hA => spans_any s n q A cc W hs hA hcc hn)
  have HLD := Lib.hid (fun W mp mc Q C hS hm hM => rload_any s' c cw p len cap ms mp mc Q C M a 1 W hS hm hM ha)
  have HSM := Lib.hid (fun m1 m2 c1 c2 Q1 Q2 C1 C2 => rsame_mem m1 m2 c1 c2 Q1 Q2 C1 C2 M)
  have eR : doR n A S c cw ms len M 5 = M := plain_keeps h4
  have eH : doH n 5 = n := rfl
  have eE : doE 5 = 0 := rfl
  have e3 : spAt n A 4 = 0 := by simp [spAt, h4]
  have e4 : spN n A 4 = 0 := by simp [spN, h4]
  unfold DoPost at HDO
  unfold SpPost at HSP
  rw [eR, eH, eE] at HDO
  rw [e3, e4] at HSP
  generalize doV n A S 5 = V at *
  generalize doT n A 5 = T at *
  generalize doD n A c cw ms len M 5 = D at *
  generalize spAt n A 3 = x1 at *
  generalize spN n A 3 = x2 at *
  generalize spOk n A = ok at *
  generalize loadV c cw ms len M a 1 = V1 at *
  generalize loadE c cw ms len M a 1 = E1 at *
  obtain ⟨K, hK⟩ : ∃ K, M.length = K := ⟨_, rfl⟩
  obtain ⟨NA, hNA⟩ : ∃ N, A.length = N := ⟨_, rfl⟩
  obtain ⟨NS, hNS⟩ : ∃ N, S.length = N := ⟨_, rfl⟩
  obtain ⟨NT, hNT⟩ : ∃ N, T.length = N := ⟨_, rfl⟩
  obtain ⟨ND, hND⟩ : ∃ N, D.length = N := ⟨_, rfl⟩
  rw [hNT, hND, hNA, hNS, hK] at HDO
  rw [hNA] at HSP
  rw [hK] at HLD HSM
  rw [hK, hNA, hNS]
  have t4 : (n == 4) = false := by simpa using h4
  have t1 : (V1 == V1) = true := by simp
  have t2 : (E1 == E1) = true := by simp
  have t3 : (n == n) = true := by simp
  have g1 : (0 : Int) ≤ a := ha.1
  have g2 : a < 18446744073709551616 := ha.2
  clear hs hS hm hM hK hNA hNS hNT hND hA hSS hcc hn hk h4 eR eH eE e3 e4 ha
  go_enter Tryd.func6, Tryd.ntmps6
  go_wp2_with (first
    | (go_at_call 9; refine (HDO.out _ HS0.out H0.out.sent H0.out.maps HM0.out HA0.out HSS0.out).mono ?_; rintro e w2 ⟨mp2, mc2, Q2, C2, tq2, tc2, dq2, dc2, rfl, hb, hm2, _⟩; have H2 := Lib.hid (H0.out.next hb |>.alloc (.cells #[.int .i64 n, .slice tq2 NT tc2, .slice dq2 ND dc2] 35)); have HS2 := Lib.hid (HS0.out.below hb |>.alloc (.cells #[.int .i64 n, .slice tq2 NT tc2, .slice dq2 ND dc2] 35)); have HM2 := Lib.hid (HM0.out.below hb |>.alloc (.cells #[.int .i64 n, .slice tq2 NT tc2, .slice dq2 ND dc2] 35)); have HA2 := Lib.hid (HA0.out.below hb |>.alloc (.cells #[.int .i64 n, .slice tq2 NT tc2, .slice dq2 ND dc2] 35)); have HP2 := Lib.hid (hm2.alloc (.cells #[.int .i64 n, .slice tq2 NT tc2, .slice dq2 ND dc2] 35)); have HB2 := Lib.hid (Box.new w2 [.int .i64 n, .slice tq2 NT tc2, .slice dq2 ND dc2] 35 rfl); clear hb hm2)
    | (go_at_call 13; refine (HSP.out _ HS2.out HA2.out).mono ?_; rintro e w3 ⟨rfl, hb⟩; have H3 := Lib.hid ((H2.out.next hb).alloc (.cells #[.int .u64 x1, .int .i64 x2] 47) |>.alloc (.cells #[.int .u64 0, .int .i64 0] 47)); have HS3 := Lib.hid ((HS2.out.below hb).alloc (.cells #[.int .u64 x1, .int .i64 x2] 47) |>.alloc (.cells #[.int .u64 0, .int .i64 0] 47)); have HM3 := Lib.hid ((HM2.out.below hb).alloc (.cells #[.int .u64 x1, .int .i64 x2] 47) |>.alloc (.cells #[.int .u64 0, .int .i64 0] 47)); have HP3 := Lib.hid ((HP2.out.below hb).alloc (.cells #[.int .u64 x1, .int .i64 x2] 47) |>.alloc (.cells #[.int .u64 0, .int .i64 0] 47)); have HB3 := Lib.hid ((HB2.out.next hb).alloc (.cells #[.int .u64 x1, .int .i64 x2] 47) |>.alloc (.cells #[.int .u64 0, .int .i64 0] 47)); have HC3 := Lib.hid (Box.new (w3.alloc (.cells #[.int .u64 x1, .int .i64 x2] 47)) [.int .u64 0, .int .i64 0] 47 (b := w3.heap.size + 1) (by simp)); have k0 := H3.out.b0; have k1 := H3.out.b1; have k2 := H3.out.b2; clear hb; have tok1 : True := trivial)
    | (go_at_call 20; clear tok1; refine (HLD.out _ _ _ _ _ H3.out.sent H3.out.maps HM3.out).mono ?_; rintro e w4 ⟨rfl, hb⟩; have H4 := Lib.hid (H3.out.next hb); have HS4 := Lib.hid (HS3.out.below hb); have HM4 := Lib.hid (HM3.out.below hb); have HP4 := Lib.hid (HP3.out.below hb); have HB4 := Lib.hid (HB3.out.next hb); have HC4 := Lib.hid (HC3.out.next hb); clear k0 k1 k2; have k0 := H4.out.b0; have k1 := H4.out.b1; have k2 := H4.out.b2; clear hb)
    | (go_at_call 20; refine (HLD.out _ _ _ _ _ H4.out.sent H4.out.maps HP4.out).mono ?_; rintro e w5 ⟨rfl, hb⟩; have H5 := Lib.hid (H4.out.next hb); have HS5 := Lib.hid (HS4.out.below hb); have HM5 := Lib.hid (HM4.out.below hb); have HP5 := Lib.hid (HP4.out.below hb); have HB5 := HB4.out.next hb; have HC5 := HC4.out.next hb; have m0 := HB5.cell 0 _ rfl; have n0 := HC5.cell 0 _ rfl; have n1 := HC5.cell 1 _ rfl; clear k0 k1 k2 hb HB5 HC5)
    | (go_at_call 18; refine (HSM.out _ _ _ _ _ _ _ _ _ HM5.out HP5.out).mono ?_; rintro e w6 ⟨rfl, hb⟩; have H6 := Lib.hid (H5.out.next hb); have HS6 := Lib.hid (HS5.out.below hb); clear hb)
    | (go_at_call 10; refine (heads_any s s' _ HS6.out H6.out.sent).mono ?_; rintro e w7 ⟨rfl, hb⟩; have H7 := Lib.hid (H6.out.next hb); clear hb))
  go_ret
  exact ⟨rfl, H7.out.below⟩
end
set_option maxRecDepth 100000 in
set_option maxHeartbeats 16000000 in
theorem keeps_recv (s s' : Nat → Addr) (c : Int) (cw : Bool) (p : Option Addr) (len cap : Nat) (ms : List Ar) (mp : Option Addr) (mc : Nat) (Q : Nat → Option Addr) (C : Nat → Nat) (M : List (List Int)) (q : Option Addr) (A : List Int) (cc : Nat) (sq : Option Addr) (S : List Int) (sc : Nat) (a : Int) (w : World)
    (hs : HSent w s) (hS : Sent w s') (hm : MapsAt w p len ms) (hM : MemAt w mp Q C M) (hA : WordsAt w q A) (hcc : A.length ≤ cc) (hSS : WordsAt w sq S) (ha : 0 ≤ a ∧ a < 18446744073709551616) (hk : doK 4 A c cw ms len M = 5) :
    Calls Tryd.prog 6 #[.agg #[.int .i64 c, .bool cw, .slice p len cap], .slice mp M.length mc, .int .i64 4, .slice q A.length cc, .slice sq S.length sc, .int .u64 a] w fun e w' => e = .returned (.bool true) ∧ Below w.heap.size w w' := by
  have hn : (Lit.int .i64 4).wf = true := by decide
  obtain ⟨hh, hl, z1, z2, _, _⟩ := doK_fine hk (.inr rfl)
  obtain ⟨rE, rV⟩ := recv_keeps (S := S) hm.hlen hk a
  have hbd := hA.bd 0 (by have : cnt 4 = 2 := rfl; omega)
  have hok : spOk 4 A = true := by simp [spOk, hh, hl]
  have e3 : spAt 4 A 4 = A.getD 0 0 := by simp [spAt, hok]
  have e4 : spN 4 A 4 = szC (A.getD 1 0) := by simp [spN, hok]
  have H0 := Lib.hid (LawW.first (c := c) (cw := cw) (cap := cap) hS hm)
  have HS0 := Lib.hid (hs.alloc (.cells #[.int .i64 c, .bool cw, .slice p len cap] 27))
  have HM0 := Lib.hid (hM.alloc (.cells #[.int .i64 c, .bool cw, .slice p len cap] 27))
  have HA0 := Lib.hid (hA.alloc (.cells #[.int .i64 c, .bool cw, .slice p len cap] 27))
  have HSS0 := Lib.hid (hSS.alloc (.cells #[.int .i64 c, .bool cw, .slice p len cap] 27))
  have HDO := Lib.hid (fun W hs hS hm hM hA hSS => do_any s s' c cw p len cap ms mp mc Q C M 4 q A cc sq S sc W hs hS hm hM hA hcc hSS hn 5 hk)
  have HSP := Lib.hid (fun W hs hA => spans_any s 4 q A cc W hs hA hcc hn)
  have HLD := Lib.hid (fun W hS hm hM => rload_any s' c cw p len cap ms mp mc Q C M a 1 W hS hm hM ha)
  have HLR := Lib.hid (fun W mp mc Q C hS hm hM => rload_any s' c cw p len cap ms mp mc Q C (doR 4 A S c cw ms len M 5) a 1 W hS hm hM ha)
  have eH : doH 4 5 = 4 := rfl
  have eE : doE 5 = 0 := rfl
  unfold DoPost at HDO
  unfold SpPost at HSP
  rw [eH, eE] at HDO
  rw [e3, e4, hok] at HSP
  rw [rE] at HLR
  generalize doV 4 A S 5 = V at *
  generalize doT 4 A 5 = T at *
  generalize doD 4 A c cw ms len M 5 = D at *
  generalize doR 4 A S c cw ms len M 5 = R at *
  generalize spAt 4 A 3 = x1 at *
  generalize spN 4 A 3 = x2 at *
  generalize A.getD 0 0 = x3 at *
  generalize szC (A.getD 1 0) = x4 at *
  generalize loadV c cw ms len M a 1 = V1 at *
  generalize loadV c cw ms len R a 1 = V2 at *
  generalize loadE c cw ms len M a 1 = E1 at *
  obtain ⟨K, hK⟩ : ∃ K, M.length = K := ⟨_, rfl⟩
  obtain ⟨K1, hK1⟩ : ∃ K, R.length = K := ⟨_, rfl⟩
  obtain ⟨NA, hNA⟩ : ∃ N, A.length = N := ⟨_, rfl⟩
  obtain ⟨NS, hNS⟩ : ∃ N, S.length = N := ⟨_, rfl⟩
  obtain ⟨NT, hNT⟩ : ∃ N, T.length = N := ⟨_, rfl⟩
  obtain ⟨ND, hND⟩ : ∃ N, D.length = N := ⟨_, rfl⟩
  rw [hK1, hNT, hND, hNA, hNS, hK] at HDO
  rw [hNA] at HSP
  rw [hK] at HLD
  rw [hK1] at HLR
  rw [hK, hNA, hNS]
  have t2 : (E1 == E1) = true := by simp
  have g1 : (0 : Int) ≤ a := ha.1
  have g2 : a < 18446744073709551616 := ha.2
  have g3 : (0 : Int) ≤ x3 := hbd.1
  have g4 : x3 < 18446744073709551616 := hbd.2
  clear hs hS hm hM hK hK1 hNA hNS hNT hND hA hSS hcc hn hk eH eE e3 e4 ha hbd hok rE hh hl
  have t1 : (V1 == V1) = true := by simp
  have hcases : (V2 = V1 ∧ a < x3) ∨ (V2 = V1 ∧ x3 ≤ a ∧ a - x3 < x4) ∨ (V2 = V1 ∧ x3 ≤ a ∧ x4 ≤ a - x3) ∨ ((V1 == V2) = false ∧ x3 ≤ a ∧ a - x3 < x4) := by
    by_cases hv : V2 = V1
    · rcases Int.lt_or_le a x3 with h | h
      · exact .inl ⟨hv, h⟩
      · rcases Int.lt_or_le (a - x3) x4 with h' | h'
        · exact .inr (.inl ⟨hv, h, h'⟩)
        · exact .inr (.inr (.inl ⟨hv, h, h'⟩))
    · have h := rV.resolve_right hv
      exact .inr (.inr (.inr ⟨by simp; exact fun e => hv e.symm, h.1, by omega⟩))
  clear rV
  rcases hcases with ⟨rfl, h1⟩ | ⟨rfl, h1, h2⟩ | ⟨rfl, h1, h2⟩ | ⟨t5, h1, h2⟩
  all_goals
    go_enter Tryd.func6, Tryd.ntmps6
    go_wp2_with (first
    | (go_at_call 9; refine (HDO.out _ HS0.out H0.out.sent H0.out.maps HM0.out HA0.out HSS0.out).mono ?_; rintro e w2 ⟨mp2, mc2, Q2, C2, tq2, tc2, dq2, dc2, rfl, hb, hm2, _⟩; have H2 := Lib.hid (H0.out.next hb |>.alloc (.cells #[.int .i64 4, .slice tq2 NT tc2, .slice dq2 ND dc2] 35)); have HS2 := Lib.hid (HS0.out.below hb |>.alloc (.cells #[.int .i64 4, .slice tq2 NT tc2, .slice dq2 ND dc2] 35)); have HM2 := Lib.hid (HM0.out.below hb |>.alloc (.cells #[.int .i64 4, .slice tq2 NT tc2, .slice dq2 ND dc2] 35)); have HA2 := Lib.hid (HA0.out.below hb |>.alloc (.cells #[.int .i64 4, .slice tq2 NT tc2, .slice dq2 ND dc2] 35)); have HP2 := Lib.hid (hm2.alloc (.cells #[.int .i64 4, .slice tq2 NT tc2, .slice dq2 ND dc2] 35)); have HB2 := Lib.hid (Box.new w2 [.int .i64 4, .slice tq2 NT tc2, .slice dq2 ND dc2] 35 rfl); clear hb hm2)
    | (go_at_call 13; refine (HSP.out _ HS2.out HA2.out).mono ?_; rintro e w3 ⟨rfl, hb⟩; have H3 := Lib.hid ((H2.out.next hb).alloc (.cells #[.int .u64 x1, .int .i64 x2] 47) |>.alloc (.cells #[.int .u64 x3, .int .i64 x4] 47)); have HS3 := Lib.hid ((HS2.out.below hb).alloc (.cells #[.int .u64 x1, .int .i64 x2] 47) |>.alloc (.cells #[.int .u64 x3, .int .i64 x4] 47)); have HM3 := Lib.hid ((HM2.out.below hb).alloc (.cells #[.int .u64 x1, .int .i64 x2] 47) |>.alloc (.cells #[.int .u64 x3, .int .i64 x4] 47)); have HP3 := Lib.hid ((HP2.out.below hb).alloc (.cells #[.int .u64 x1, .int .i64 x2] 47) |>.alloc (.cells #[.int .u64 x3, .int .i64 x4] 47)); have HB3 := Lib.hid ((HB2.out.next hb).alloc (.cells #[.int .u64 x1, .int .i64 x2] 47) |>.alloc (.cells #[.int .u64 x3, .int .i64 x4] 47)); have HC3 := Lib.hid (Box.new (w3.alloc (.cells #[.int .u64 x1, .int .i64 x2] 47)) [.int .u64 x3, .int .i64 x4] 47 (b := w3.heap.size + 1) (by simp)); have k0 := H3.out.b0; have k1 := H3.out.b1; have k2 := H3.out.b2; clear hb; have tok1 : True := trivial)
    | (go_at_call 20; clear tok1; refine (HLD.out _ H3.out.sent H3.out.maps HM3.out).mono ?_; rintro e w4 ⟨rfl, hb⟩; have H4 := Lib.hid (H3.out.next hb); have HS4 := Lib.hid (HS3.out.below hb); have HP4 := Lib.hid (HP3.out.below hb); have HB4 := Lib.hid (HB3.out.next hb); have HC4 := Lib.hid (HC3.out.next hb); clear k0 k1 k2; have k0 := H4.out.b0; have k1 := H4.out.b1; have k2 := H4.out.b2; clear hb)
    | (go_at_call 20; refine (HLR.out _ _ _ _ _ H4.out.sent H4.out.maps HP4.out).mono ?_; rintro e w5 ⟨rfl, hb⟩; have H5 := Lib.hid (H4.out.next hb); have HS5 := Lib.hid (HS4.out.below hb); have HB5 := HB4.out.next hb; have HC5 := HC4.out.next hb; have m0 := HB5.cell 0 _ rfl; have n0 := HC5.cell 0 _ rfl; have n1 := HC5.cell 1 _ rfl; clear k0 k1 k2 hb HB5 HC5)
    | (go_at_call 10; refine (heads_any s s' _ HS5.out H5.out.sent).mono ?_; rintro e w7 ⟨rfl, hb⟩; have H7 := Lib.hid (H5.out.next hb); clear hb))
    go_ret
    exact ⟨rfl, H7.out.below⟩
theorem keeps_any (s s' : Nat → Addr) (c : Int) (cw : Bool) (p : Option Addr) (len cap : Nat) (ms : List Ar) (mp : Option Addr) (mc : Nat) (Q : Nat → Option Addr) (C : Nat → Nat) (M : List (List Int)) (n : Int) (q : Option Addr) (A : List Int) (cc : Nat) (sq : Option Addr) (S : List Int) (sc : Nat) (a : Int) (w : World)
    (hs : HSent w s) (hS : Sent w s') (hm : MapsAt w p len ms) (hM : MemAt w mp Q C M) (hA : WordsAt w q A) (hcc : A.length ≤ cc) (hSS : WordsAt w sq S) (hn : (Lit.int .i64 n).wf = true) (ha : 0 ≤ a ∧ a < 18446744073709551616) :
    Calls Tryd.prog 6 #[.agg #[.int .i64 c, .bool cw, .slice p len cap], .slice mp M.length mc, .int .i64 n, .slice q A.length cc, .slice sq S.length sc, .int .u64 a] w fun e w' => e = .returned (.bool true) ∧ Below w.heap.size w w' := by
  by_cases h5 : doK n A c cw ms len M = 5
  · by_cases h4 : n = 4
    · subst h4
      exact keeps_recv s s' c cw p len cap ms mp mc Q C M q A cc sq S sc a w hs hS hm hM hA hcc hSS ha h5
    · exact keeps_plain s s' c cw p len cap ms mp mc Q C M n q A cc sq S sc a w hs hS hm hM hA hcc hSS hn ha h5 h4
  · exact keeps_no s s' c cw p len cap ms mp mc Q C M n q A cc sq S sc a w hs hS hm hM hA hcc hSS hn _ rfl h5
end Go.Proofs.YthckkdkijajadaaDoor
