/- MemBack: what is stored is loaded, and all that does not lie there is as it was; no condition. -/
import Derived.Test.YtgchdiocbllppaaDoorR
import Derived.Test.YtgchdiocbllppaaDoorQ
namespace Go.Proofs.YtgchdiocbllppaaDoor
open Go.RowKit M

set_option maxRecDepth 100000 in
set_option maxHeartbeats 1000000 in
theorem back_no (s : Nat → Addr) (c : Int) (cw : Bool) (q : Option Addr) (len cap : Nat) (ms : List Ar) (mp : Option Addr) (mc : Nat) (Q : Nat → Option Addr) (C : Nat → Nat) (M : List (List Int)) (a n x b : Int) (w : World) (hs : Sent w s) (hm : MapsAt w q len ms) (hM : MemAt w mp Q C M)
    (ha : 0 ≤ a ∧ a < 18446744073709551616) (he : stE c cw ms len M a n ≠ 0) (hst : stM c cw ms len M a n x = []) :
    Calls Tryd.prog 7 #[.agg #[.int .i64 c, .bool cw, .slice q len cap], .slice mp M.length mc, .int .u64 a, .int .i64 n, .int .u64 x, .int .u64 b] w fun e w' => e = .returned (.bool true) ∧ Below w.heap.size w w' := by
  have H0 := Lib.hid (LawW.first (c := c) (cw := cw) (cap := cap) hs hm)
  have HM0 := Lib.hid (hM.alloc (.cells #[.int .i64 c, .bool cw, .slice q len cap] 26))
  have HST := Lib.hid (fun W hs hm hM => store_any s c cw q len cap ms mp mc Q C M a n x W hs hm hM ha)
  rw [hst] at HST
  obtain ⟨E, hE⟩ : ∃ E, stE c cw ms len M a n = E := ⟨_, rfl⟩
  obtain ⟨K, hK⟩ : ∃ K, M.length = K := ⟨_, rfl⟩
  rw [hE] at HST he
  rw [hK] at HST ⊢
  unfold MemPost at HST
  have hE0 : (E != 0) = true := by simpa using he
  clear hs hm hM ha hst hE hK he
  go_enter Tryd.func7, Tryd.ntmps7
  go_wp2_with (first
    | (go_at_call 31; refine (HST.out _ H0.out.sent H0.out.maps HM0.out).mono ?_; rintro e w1 ⟨mp1, mc1, Q1, C1, rfl, hb, _⟩; have H1 := Lib.hid (H0.out.next hb); clear hb)
    | (go_at_call 12; refine (heads_any s _ H1.out.sent).mono ?_; rintro e w4 ⟨rfl, hb⟩; have H4 := Lib.hid (H1.out.next hb); clear hb))
  go_ret
  exact ⟨rfl, H4.out.below⟩

set_option maxRecDepth 100000 in
set_option maxHeartbeats 2000000 in
theorem back_yes (s : Nat → Addr) (c : Int) (cw : Bool) (q : Option Addr) (len cap : Nat) (ms : List Ar) (mp : Option Addr) (mc : Nat) (Q : Nat → Option Addr) (C : Nat → Nat) (M : List (List Int)) (a x b : Int) (n : Nat) (w : World) (hs : Sent w s) (hm : MapsAt w q len ms) (hM : MemAt w mp Q C M)
    (ha : 0 ≤ a ∧ a < 18446744073709551616) (hb : 0 ≤ b ∧ b < 18446744073709551616) (hz : isSize n = true) (hk : rdK c cw ms len M a n true = 4) :
    Calls Tryd.prog 7 #[.agg #[.int .i64 c, .bool cw, .slice q len cap], .slice mp M.length mc, .int .u64 a, .int .i64 n, .int .u64 x, .int .u64 b] w fun e w' => e = .returned (.bool true) ∧ Below w.heap.size w w' := by
  obtain ⟨r1, r2, r3⟩ := read_back (x := x) hm.hlen hk
  have hn8 : n ≤ 8 ∧ 1 ≤ n := by have := isSize_of hz; omega
  have hother := fun ho => read_other (x := x) (b := b) hm.hlen hk ho
  have hM2l := fillM_length M (regOf a - 1).toNat (offOf a).toNat (putL x n)
  have H0 := Lib.hid (LawW.first (c := c) (cw := cw) (cap := cap) hs hm)
  have HM0 := Lib.hid (hM.alloc (.cells #[.int .i64 c, .bool cw, .slice q len cap] 26))
  have HST := Lib.hid (fun W hs hm hM => store_good s c cw q len cap ms mp mc Q C M a x n W hs hm hM ha hz hk)
  have HL1 := Lib.hid (fun W hs hm hM => load_any s c cw q len cap ms mp mc Q C M b 1 W hs hm hM hb)
  have HPUT := Lib.hid (fun W => rput_yes x n W hz hn8.1 hn8.2)
  have hPL := putL_length x n
  have HGET := Lib.hid (fun g gc W h => rget_any (some ⟨g, 0, none⟩) gc (putL x n) W h)
  generalize hM2 : fillM M (regOf a - 1).toNat (offOf a).toNat (putL x n) = M2 at *
  have HL2 := Lib.hid (fun mp mc Q C W hs hm hM => load_any s c cw q len cap ms mp mc Q C M2 b 1 W hs hm hM hb)
  have HLB := Lib.hid (fun mp mc Q C W hs hm hM => load_any s c cw q len cap ms mp mc Q C M2 a n W hs hm hM ha)
  have HMAY := Lib.hid (fun mp mc Q C W hm hM => may_is c cw q len cap ms mp mc Q C M2 W hm hM r3)
  have e1 : loadE c cw ms len M2 a n = 0 := by simp [loadE, hz, r1, accN_4]
  have e2 : loadV c cw ms len M2 a n = getN (putL x n) := by simp [loadV, hz, r2]
  rw [e1, e2] at HLB
  obtain ⟨E1, hE1⟩ : ∃ E, loadE c cw ms len M b 1 = E := ⟨_, rfl⟩
  obtain ⟨U, hU⟩ : ∃ U, loadV c cw ms len M b 1 = U := ⟨_, rfl⟩
  obtain ⟨E2, hE2⟩ : ∃ E, loadE c cw ms len M2 b 1 = E := ⟨_, rfl⟩
  obtain ⟨V, hV⟩ : ∃ V, loadV c cw ms len M2 b 1 = V := ⟨_, rfl⟩
  rw [hE1, hU] at HL1
  rw [hE2, hV] at HL2
  have hEE : E1 = E2 := by
    rw [← hE1, ← hE2]
    unfold loadE rdK
    rw [r3, (rdK_ok hk).1]
  subst hEE
  have hUV : b < a ∨ a + n ≤ b → U = V := fun ho => by
    rw [← hU, ← hV]
    unfold loadV
    rw [(hother ho).2]
  obtain ⟨G, hG⟩ : ∃ G, getN (putL x n) = G := ⟨_, rfl⟩
  rw [hG] at HLB HGET
  unfold PutPost at HPUT
  generalize putL x n = B at *
  obtain ⟨K, hK⟩ : ∃ K, M.length = K := ⟨_, rfl⟩
  rw [hK] at hM2l
  rw [hM2l] at HL2 HLB HMAY
  rw [hK] at HST HL1 ⊢
  rw [hPL] at HPUT HGET
  unfold MemPost at HST
  rw [hM2l] at HST
  have hNB : 0 ≤ (n : Int) ∧ (n : Int) ≤ 8 := by omega
  have hcases : (a ≤ b ∧ b - a < n) ∨ (b < a ∧ U = V) ∨ (a ≤ b ∧ ¬ b - a < n ∧ U = V) := by
    by_cases h1 : b < a
    · exact .inr (.inl ⟨h1, hUV (.inl h1)⟩)
    · by_cases h2 : b - a < n
      · exact .inl ⟨by omega, h2⟩
      · exact .inr (.inr ⟨by omega, h2, hUV (.inr (by omega))⟩)
  obtain ⟨ha0, ha1⟩ := ha
  obtain ⟨hb0, hb1⟩ := hb
  have W1 : IntKind.u64.wrap (n : Int) = n := by rw [IntKind.wrap_u64]; omega
  clear hs hm hM hz hk r1 r2 r3 hother hM2l hM2 e1 e2 hE1 hU hE2 hV hUV hG hPL hK hn8
  rcases hcases with ⟨h1, h2⟩ | ⟨h1, rfl⟩ | ⟨h1, h2, rfl⟩
  · have W2 : IntKind.u64.wrap (b - a) = b - a := by rw [IntKind.wrap_u64]; omega
    clear ha0 ha1 hb0 hb1
    go_enter Tryd.func7, Tryd.ntmps7
    go_wp2_with fail
    refine (HST.out _ H0.out.sent H0.out.maps HM0.out).mono ?_
    rintro e w1 ⟨mp1, mc1, Q1, C1, rfl, hb, hM1⟩
    have H1 := Lib.hid (H0.out.next hb)
    have HM1 := Lib.hid (HM0.out.below hb)
    have HN1 := Lib.hid hM1
    have k0 := H1.out.b0
    have k1 := H1.out.b1
    have k2 := H1.out.b2
    clear hb hM1
    go_wp2_with fail
    refine (HLB.out _ _ _ _ _ H1.out.sent H1.out.maps HN1.out).mono ?_
    rintro e w2 ⟨rfl, hb⟩
    have H2 := Lib.hid (H1.out.next hb)
    have HM2 := Lib.hid (HM1.out.below hb)
    have HN2 := Lib.hid (HN1.out.below hb)
    have j0 := H2.out.b0
    have j1 := H2.out.b1
    have j2 := H2.out.b2
    clear hb k0 k1 k2
    go_wp2_with fail
    refine (HMAY.out _ _ _ _ _ H2.out.maps HN2.out).mono ?_
    rintro e w3 ⟨rfl, hb⟩
    have H3 := Lib.hid (H2.out.next hb)
    have HM3 := Lib.hid (HM2.out.below hb)
    have HN3 := Lib.hid (HN2.out.below hb)
    clear hb j0 j1 j2
    go_wp2_with fail
    refine (HPUT.out _).mono ?_
    rintro e w4 ⟨g4, c4, rfl, hb, hrow⟩
    have H4 := Lib.hid (H3.out.next hb)
    have HM4 := Lib.hid (HM3.out.below hb)
    have HN4 := Lib.hid (HN3.out.below hb)
    have HROW := Lib.hid hrow
    have i0 := H4.out.b0
    have i1 := H4.out.b1
    have i2 := H4.out.b2
    clear hb hrow
    go_wp2_with fail
    refine (HGET.out _ _ _ HROW.out).mono ?_
    rintro e w5 ⟨rfl, rfl⟩
    go_wp2_with fail
    refine (HL1.out _ H4.out.sent H4.out.maps HM4.out).mono ?_
    rintro e w6 ⟨rfl, hb⟩
    have H6 := Lib.hid (H4.out.next hb)
    have HN6 := Lib.hid (HN4.out.below hb)
    have l0 := H6.out.b0
    have l1 := H6.out.b1
    have l2 := H6.out.b2
    clear hb i0 i1 i2
    go_wp2_with fail
    refine (HL2.out _ _ _ _ _ H6.out.sent H6.out.maps HN6.out).mono ?_
    rintro e w7 ⟨rfl, hb⟩
    have H7 := Lib.hid (H6.out.next hb)
    clear hb l0 l1 l2
    go_wp2_with fail
    refine (heads_any s _ H7.out.sent).mono ?_
    rintro e w8 ⟨rfl, hb⟩
    have H8 := Lib.hid (H7.out.next hb)
    clear hb
    go_wp2_with fail
    go_ret
    exact ⟨rfl, H8.out.below⟩
  · clear ha0 ha1 hb0 hb1
    go_enter Tryd.func7, Tryd.ntmps7
    go_wp2_with fail
    refine (HST.out _ H0.out.sent H0.out.maps HM0.out).mono ?_
    rintro e w1 ⟨mp1, mc1, Q1, C1, rfl, hb, hM1⟩
    have H1 := Lib.hid (H0.out.next hb)
    have HM1 := Lib.hid (HM0.out.below hb)
    have HN1 := Lib.hid hM1
    have k0 := H1.out.b0
    have k1 := H1.out.b1
    have k2 := H1.out.b2
    clear hb hM1
    go_wp2_with fail
    refine (HLB.out _ _ _ _ _ H1.out.sent H1.out.maps HN1.out).mono ?_
    rintro e w2 ⟨rfl, hb⟩
    have H2 := Lib.hid (H1.out.next hb)
    have HM2 := Lib.hid (HM1.out.below hb)
    have HN2 := Lib.hid (HN1.out.below hb)
    have j0 := H2.out.b0
    have j1 := H2.out.b1
    have j2 := H2.out.b2
    clear hb k0 k1 k2
    go_wp2_with fail
    refine (HMAY.out _ _ _ _ _ H2.out.maps HN2.out).mono ?_
    rintro e w3 ⟨rfl, hb⟩
    have H3 := Lib.hid (H2.out.next hb)
    have HM3 := Lib.hid (HM2.out.below hb)
    have HN3 := Lib.hid (HN2.out.below hb)
    clear hb j0 j1 j2
    go_wp2_with fail
    refine (HPUT.out _).mono ?_
    rintro e w4 ⟨g4, c4, rfl, hb, hrow⟩
    have H4 := Lib.hid (H3.out.next hb)
    have HM4 := Lib.hid (HM3.out.below hb)
    have HN4 := Lib.hid (HN3.out.below hb)
    have HROW := Lib.hid hrow
    have i0 := H4.out.b0
    have i1 := H4.out.b1
    have i2 := H4.out.b2
    clear hb hrow
    go_wp2_with fail
    refine (HGET.out _ _ _ HROW.out).mono ?_
    rintro e w5 ⟨rfl, rfl⟩
    go_wp2_with fail
    refine (HL1.out _ H4.out.sent H4.out.maps HM4.out).mono ?_
    rintro e w6 ⟨rfl, hb⟩
    have H6 := Lib.hid (H4.out.next hb)
    have HN6 := Lib.hid (HN4.out.below hb)
    have l0 := H6.out.b0
    have l1 := H6.out.b1
    have l2 := H6.out.b2
    clear hb i0 i1 i2
    go_wp2_with fail
    refine (HL2.out _ _ _ _ _ H6.out.sent H6.out.maps HN6.out).mono ?_
    rintro e w7 ⟨rfl, hb⟩
    have H7 := Lib.hid (H6.out.next hb)
    clear hb l0 l1 l2
    go_wp2_with fail
    refine (heads_any s _ H7.out.sent).mono ?_
    rintro e w8 ⟨rfl, hb⟩
    have H8 := Lib.hid (H7.out.next hb)
    clear hb
    go_wp2_with fail
    go_ret
    exact ⟨rfl, H8.out.below⟩
  · have W2 : IntKind.u64.wrap (b - a) = b - a := by rw [IntKind.wrap_u64]; omega
    clear ha0 ha1 hb0 hb1
    go_enter Tryd.func7, Tryd.ntmps7
    go_wp2_with fail
    refine (HST.out _ H0.out.sent H0.out.maps HM0.out).mono ?_
    rintro e w1 ⟨mp1, mc1, Q1, C1, rfl, hb, hM1⟩
    have H1 := Lib.hid (H0.out.next hb)
    have HM1 := Lib.hid (HM0.out.below hb)
    have HN1 := Lib.hid hM1
    have k0 := H1.out.b0
    have k1 := H1.out.b1
    have k2 := H1.out.b2
    clear hb hM1
    go_wp2_with fail
    refine (HLB.out _ _ _ _ _ H1.out.sent H1.out.maps HN1.out).mono ?_
    rintro e w2 ⟨rfl, hb⟩
    have H2 := Lib.hid (H1.out.next hb)
    have HM2 := Lib.hid (HM1.out.below hb)
    have HN2 := Lib.hid (HN1.out.below hb)
    have j0 := H2.out.b0
    have j1 := H2.out.b1
    have j2 := H2.out.b2
    clear hb k0 k1 k2
    go_wp2_with fail
    refine (HMAY.out _ _ _ _ _ H2.out.maps HN2.out).mono ?_
    rintro e w3 ⟨rfl, hb⟩
    have H3 := Lib.hid (H2.out.next hb)
    have HM3 := Lib.hid (HM2.out.below hb)
    have HN3 := Lib.hid (HN2.out.below hb)
    clear hb j0 j1 j2
    go_wp2_with fail
    refine (HPUT.out _).mono ?_
    rintro e w4 ⟨g4, c4, rfl, hb, hrow⟩
    have H4 := Lib.hid (H3.out.next hb)
    have HM4 := Lib.hid (HM3.out.below hb)
    have HN4 := Lib.hid (HN3.out.below hb)
    have HROW := Lib.hid hrow
    have i0 := H4.out.b0
    have i1 := H4.out.b1
    have i2 := H4.out.b2
    clear hb hrow
    go_wp2_with fail
    refine (HGET.out _ _ _ HROW.out).mono ?_
    rintro e w5 ⟨rfl, rfl⟩
    go_wp2_with fail
    refine (HL1.out _ H4.out.sent H4.out.maps HM4.out).mono ?_
    rintro e w6 ⟨rfl, hb⟩
    have H6 := Lib.hid (H4.out.next hb)
    have HN6 := Lib.hid (HN4.out.below hb)
    have l0 := H6.out.b0
    have l1 := H6.out.b1
    have l2 := H6.out.b2
    clear hb i0 i1 i2
    go_wp2_with fail
    refine (HL2.out _ _ _ _ _ H6.out.sent H6.out.maps HN6.out).mono ?_
    rintro e w7 ⟨rfl, hb⟩
    have H7 := Lib.hid (H6.out.next hb)
    clear hb l0 l1 l2
    go_wp2_with fail
    refine (heads_any s _ H7.out.sent).mono ?_
    rintro e w8 ⟨rfl, hb⟩
    have H8 := Lib.hid (H7.out.next hb)
    clear hb
    go_wp2_with fail
    go_ret
    exact ⟨rfl, H8.out.below⟩
end Go.Proofs.YtgchdiocbllppaaDoor
