/- HelperSends: what is sent are the bytes that lie there. -/
import Derived.Test.YthckkdkijajadaaDoorZH
import Derived.Test.YthckkdkijajadaaDoorZR
namespace Go.Proofs.YthckkdkijajadaaDoor
open Go.RowKit M

theorem send_size {a z c : Int} {cw : Bool} {ms : List Ar} {len : Nat} {M : List (List Int)} (h : doK 3 [a, z] c cw ms len M = 5) : 1 ≤ z ∧ z ≤ 64 ∧ szC z = z ∧ rdK c cw ms len M a z false = 4 := by
  obtain ⟨_, _, h1, h2, h3, h4⟩ := doK_fine h (.inl rfl)
  have e : ([a, z] : List Int).getD 1 0 = z := rfl
  have e0 : ([a, z] : List Int).getD 0 0 = a := rfl
  rw [e] at h1 h2 h3
  rw [e0] at h3
  have es := szC_size h2
  rw [es] at h1 h2 h3
  refine ⟨h1, h2, es, ?_⟩
  unfold rdK
  rw [if_pos h4]
  exact h3
theorem words_at' {W : World} {g o : Nat} {xs : List Int} (h : WordsAt W (some ⟨g, o, none⟩) xs) (j : Nat) (hj : j < xs.length) : g < W.heap.size ∧ W.cell? ⟨g, o + j, none⟩ = some (.int .u64 (xs.getD j 0)) := by
  obtain ⟨b, off, e, hl, hc⟩ := h.cells j hj
  obtain rfl : g = b := by injection e with e; injection e
  obtain rfl : o = off := by injection e with e; injection e
  exact ⟨hl, hc⟩
section
variable (s s' : Nat → Addr) (c : Int) (cw : Bool) (p : Option Addr) (len cap : Nat) (ms : List Ar) (mp : Option Addr) (mc : Nat) (Q : Nat → Option Addr) (C : Nat → Nat) (M : List (List Int)) (a z : Int) (w : World)
  (hs : HSent w s) (hS : Sent w s') (hm : MapsAt w p len ms) (hM : MemAt w mp Q C M) (ha : 0 ≤ a ∧ a < 18446744073709551616) (hz : 0 ≤ z ∧ z < 18446744073709551616)
include hs hS hm hM ha hz
set_option maxRecDepth 100000 in
set_option maxHeartbeats 8000000 in
theorem sends_no (k : Nat) (hk : doK 3 [a, z] c cw ms len M = k) (hk5 : k ≠ 5) :
    Calls Tryd.prog 7 #[.agg #[.int .i64 c, .bool cw, .slice p len cap], .slice mp M.length mc, .int .u64 a, .int .u64 z] w fun e w' => e = .returned (.bool true) ∧ Below w.heap.size w w' := by
  have H0 := Lib.hid (LawW.first (c := c) (cw := cw) (cap := cap) hS hm)
  have HS0 := Lib.hid (hs.alloc (.cells #[.int .i64 c, .bool cw, .slice p len cap] 27))
  have HM0 := Lib.hid (hM.alloc (.cells #[.int .i64 c, .bool cw, .slice p len cap] 27))
  have HDO := Lib.hid (fun W g (hs : HSent W s) (hS : Sent W s') hm hM (hB : Box W g [.int .u64 a, .int .u64 z]) => do_any s s' c cw p len cap ms mp mc Q C M 3 (some ⟨g, 0, none⟩) [a, z] 2 none [] 0 W hs hS hm hM (words_cells (by simp) (bd2 ha hz) hB) (Nat.le_refl _) (WordsAt.nil _ _) (by decide) k hk)
  have hE := doE_ne hk5
  unfold DoPost at HDO
  generalize doV 3 [a, z] [] k = V at *
  generalize doR 3 [a, z] [] c cw ms len M k = R at *
  generalize doH 3 k = Hn at *
  generalize doT 3 [a, z] k = T at *
  generalize doD 3 [a, z] c cw ms len M k = D at *
  generalize doE k = E at *
  obtain ⟨K, hK⟩ : ∃ K, M.length = K := ⟨_, rfl⟩
  obtain ⟨K1, hK1⟩ : ∃ K, R.length = K := ⟨_, rfl⟩
  obtain ⟨NT, hNT⟩ : ∃ N, T.length = N := ⟨_, rfl⟩
  obtain ⟨ND, hND⟩ : ∃ N, D.length = N := ⟨_, rfl⟩
  rw [hK1, hNT, hND, hK] at HDO
  rw [hK]
  clear hs hS hm hM hK hK1 hNT hND hk hk5 ha hz
  have k0 := H0.out.b0
  have k1 := H0.out.b1
  have k2 := H0.out.b2
  clear k0 k1 k2
  go_enter Tryd.func7, Tryd.ntmps7
  go_wp2_with (first
    | (go_at_call 9; refine (HDO.out _ _ (HS0.out.alloc _) (H0.out.alloc _).sent (H0.out.alloc _).maps (HM0.out.alloc _) (Box.new (w.alloc (.cells #[.int .i64 c, .bool cw, .slice p len cap] 27)) [.int .u64 a, .int .u64 z] 22 (by simp))).mono ?_; rintro e w2 ⟨mp2, mc2, Q2, C2, tq2, tc2, dq2, dc2, rfl, hb, _⟩; have H2 := Lib.hid ((H0.out.alloc _).next hb); have HS2 := Lib.hid ((HS0.out.alloc _).below hb); clear hb)
    | (go_at_call 10; refine (heads_any s s' _ (HS2.out.alloc _) (H2.out.alloc _).sent).mono ?_; rintro e w3 ⟨rfl, hb⟩; have H3 := Lib.hid ((H2.out.alloc _).next hb); clear hb))
  go_ret
  exact ⟨rfl, H3.out.below⟩
set_option maxRecDepth 100000 in
set_option maxHeartbeats 8000000 in
theorem sends_yes (hk : doK 3 [a, z] c cw ms len M = 5) :
    Calls Tryd.prog 7 #[.agg #[.int .i64 c, .bool cw, .slice p len cap], .slice mp M.length mc, .int .u64 a, .int .u64 z] w fun e w' => e = .returned (.bool true) ∧ Below w.heap.size w w' := by
  obtain ⟨z1, z2, hsz, hrk⟩ := send_size hk
  have H0 := Lib.hid (LawW.first (c := c) (cw := cw) (cap := cap) hS hm)
  have HS0 := Lib.hid (hs.alloc (.cells #[.int .i64 c, .bool cw, .slice p len cap] 27))
  have HM0 := Lib.hid (hM.alloc (.cells #[.int .i64 c, .bool cw, .slice p len cap] 27))
  have HDO := Lib.hid (fun W g (hs : HSent W s) (hS : Sent W s') hm hM (hB : Box W g [.int .u64 a, .int .u64 z]) => do_any s s' c cw p len cap ms mp mc Q C M 3 (some ⟨g, 0, none⟩) [a, z] 2 none [] 0 W hs hS hm hM (words_cells (by simp) (bd2 ha hz) hB) (Nat.le_refl _) (WordsAt.nil _ _) (by decide) 5 hk)
  have HRB := Lib.hid (fun W hs hm hM => rbytes_any s' c cw p len cap ms mp mc Q C M a z W hs hm hM ha)
  have HSR := Lib.hid (fun q1 q2 c1 c2 => rsame_rows q1 q2 c1 c2 (rdB c cw ms len M a z))
  have eD : doD 3 [a, z] c cw ms len M 5 = rdB c cw ms len M a z := by
    show rdB c cw ms len M a (szC z) = _
    rw [hsz]
  have eT : doT 3 [a, z] 5 = [0, z] := rfl
  have eE : doE 5 = 0 := rfl
  unfold DoPost at HDO
  unfold RowPost at HRB
  rw [eD, eT, eE] at HDO
  rw [hrk, accN_4] at HRB
  generalize doV 3 [a, z] [] 5 = V at *
  generalize doR 3 [a, z] [] c cw ms len M 5 = R at *
  generalize doH 3 5 = Hn at *
  generalize rdB c cw ms len M a z = D at *
  obtain ⟨K, hK⟩ : ∃ K, M.length = K := ⟨_, rfl⟩
  obtain ⟨K1, hK1⟩ : ∃ K, R.length = K := ⟨_, rfl⟩
  obtain ⟨ND, hND⟩ : ∃ N, D.length = N := ⟨_, rfl⟩
  rw [hK1, hND, hK] at HDO
  rw [hK, hND] at HRB
  rw [hND] at HSR
  rw [hK]
  clear hs hS hm hM hK hK1 hND hk ha hz hsz hrk eD eT eE
  go_enter Tryd.func7, Tryd.ntmps7
  go_wp2_with (first
    | (go_at_call 9; refine (HDO.out _ _ (HS0.out.alloc _) (H0.out.alloc _).sent (H0.out.alloc _).maps (HM0.out.alloc _) (Box.new (w.alloc (.cells #[.int .i64 c, .bool cw, .slice p len cap] 27)) [.int .u64 a, .int .u64 z] 22 (by simp))).mono ?_; rintro e w2 ⟨mp2, mc2, Q2, C2, tq2, tc2, dq2, dc2, rfl, hb, _, _, ht, hd⟩; obtain ⟨g2, o2, rfl, _, _⟩ := ht.cells 0 (by simp); have H2 := Lib.hid ((H0.out.alloc _).next hb |>.alloc (.cells #[.int .i64 Hn, .slice (some ⟨g2, o2, none⟩) 2 tc2, .slice dq2 ND dc2] 35)); have HS2 := Lib.hid ((HS0.out.alloc _).below hb |>.alloc (.cells #[.int .i64 Hn, .slice (some ⟨g2, o2, none⟩) 2 tc2, .slice dq2 ND dc2] 35)); have HM2 := Lib.hid ((HM0.out.alloc _).below hb |>.alloc (.cells #[.int .i64 Hn, .slice (some ⟨g2, o2, none⟩) 2 tc2, .slice dq2 ND dc2] 35)); have HT2 := Lib.hid (ht.alloc (.cells #[.int .i64 Hn, .slice (some ⟨g2, o2, none⟩) 2 tc2, .slice dq2 ND dc2] 35)); have HD2 := Lib.hid (hd.alloc (.cells #[.int .i64 Hn, .slice (some ⟨g2, o2, none⟩) 2 tc2, .slice dq2 ND dc2] 35)); have HB2 := Lib.hid (Box.new w2 [.int .i64 Hn, .slice (some ⟨g2, o2, none⟩) 2 tc2, .slice dq2 ND dc2] 35 rfl); have k0 := H2.out.b0; have k1 := H2.out.b1; have k2 := H2.out.b2; clear hb ht hd)
    | (go_at_call 21; refine (HRB.out _ H2.out.sent H2.out.maps HM2.out).mono ?_; rintro e w3 ⟨q3, c3, rfl, hb, hr, _⟩; have H3 := Lib.hid (H2.out.next hb); have HS3 := Lib.hid (HS2.out.below hb); have HD3 := Lib.hid (HD2.out.below hb); have HR3 := Lib.hid hr; have HB3 := HB2.out.next hb; have m1 := HB3.cell 1 _ rfl; have m2 := HB3.cell 2 _ rfl; have n0 : w3.cell? ⟨g2, o2, none⟩ = some (.int .u64 0) := (words_at' (HT2.out.below hb) 0 (by simp)).2; have n1 : w3.cell? ⟨g2, o2 + 1, none⟩ = some (.int .u64 z) := (words_at' (HT2.out.below hb) 1 (by simp)).2; clear hb hr k0 k1 k2 HB3)
    | (go_at_call 22; refine (HSR.out _ _ _ _ _ HD3.out HR3.out).mono ?_; rintro e w4 ⟨rfl, rfl⟩)
    | (go_at_call 10; refine (heads_any s s' _ HS3.out H3.out.sent).mono ?_; rintro e w5 ⟨rfl, hb⟩; have H5 := Lib.hid (H3.out.next hb); clear hb))
  go_ret
  exact ⟨rfl, H5.out.below⟩
theorem sends_any :
    Calls Tryd.prog 7 #[.agg #[.int .i64 c, .bool cw, .slice p len cap], .slice mp M.length mc, .int .u64 a, .int .u64 z] w fun e w' => e = .returned (.bool true) ∧ Below w.heap.size w w' := by
  by_cases h5 : doK 3 [a, z] c cw ms len M = 5
  · exact sends_yes s s' c cw p len cap ms mp mc Q C M a z w hs hS hm hM ha hz h5
  · exact sends_no s s' c cw p len cap ms mp mc Q C M a z w hs hS hm hM ha hz _ rfl h5
end
end Go.Proofs.YthckkdkijajadaaDoor
