/- MemLoads: what is read is what the document says; no condition. -/
import Derived.Test.YtgchdiocbllppaaDoorRE
namespace Go.Proofs.YtgchdiocbllppaaDoor
open Go.RowKit M

set_option maxRecDepth 100000 in
set_option maxHeartbeats 1000000 in
theorem loads_any (s : Nat → Addr) (c : Int) (cw : Bool) (q : Option Addr) (len cap : Nat) (ms : List Ar) (mp : Option Addr) (mc : Nat) (Q : Nat → Option Addr) (C : Nat → Nat) (M : List (List Int)) (a n : Int) (w : World) (hs : Sent w s) (hm : MapsAt w q len ms) (hM : MemAt w mp Q C M) (ha : 0 ≤ a ∧ a < 18446744073709551616) :
    Calls Tryd.prog 5 #[.agg #[.int .i64 c, .bool cw, .slice q len cap], .slice mp M.length mc, .int .u64 a, .int .i64 n] w fun e w' => e = .returned (.bool true) ∧ Below w.heap.size w w' := by
  have H0 := Lib.hid (LawW.first (c := c) (cw := cw) (cap := cap) hs hm)
  have HM0 := Lib.hid (hM.alloc (.cells #[.int .i64 c, .bool cw, .slice q len cap] 26))
  have HL := Lib.hid (fun W hs hm hM => load_any s c cw q len cap ms mp mc Q C M a n W hs hm hM ha)
  have HR := Lib.hid (fun W hs hm hM => rload_any s c cw q len cap ms mp mc Q C M a n W hs hm hM ha)
  have HB := Lib.hid (fun W hs hm hM => bytes_any s c cw q len cap ms mp mc Q C M a n W hs hm hM ha)
  have HC := Lib.hid (fun W hs hm hM => rbytes_any s c cw q len cap ms mp mc Q C M a n W hs hm hM ha)
  obtain ⟨K, hK⟩ : ∃ K, M.length = K := ⟨_, rfl⟩
  rw [hK] at HL HR HB HC ⊢
  unfold BytesPost at HB
  unfold RowPost at HC
  generalize loadV c cw ms len M a n = V at *
  generalize loadE c cw ms len M a n = E at *
  generalize accN (rdK c cw ms len M a n false) = E2 at *
  have HSM := Lib.hid (rsame_any · · · · (rdB c cw ms len M a n))
  generalize rdB c cw ms len M a n = B at *
  obtain ⟨N, hN⟩ : ∃ N, B.length = N := ⟨_, rfl⟩
  rw [hN] at HB HC HSM
  clear hs hm hM hK ha hN
  go_enter Tryd.func5, Tryd.ntmps5
  go_wp2_with (first
    | (go_at_call 26; refine (HL.out _ H0.out.sent H0.out.maps HM0.out).mono ?_; rintro e w1 ⟨rfl, hb⟩; have H1 := Lib.hid (H0.out.next hb); have HM1 := Lib.hid (HM0.out.below hb); have k0 := H1.out.b0; have k1 := H1.out.b1; have k2 := H1.out.b2; clear hb)
    | (go_at_call 27; refine (HR.out _ H1.out.sent H1.out.maps HM1.out).mono ?_; rintro e w2 ⟨rfl, hb⟩; have H2 := Lib.hid (H1.out.next hb); have HM2 := Lib.hid (HM1.out.below hb); have j0 := H2.out.b0; have j1 := H2.out.b1; have j2 := H2.out.b2; clear hb)
    | (go_at_call 13; refine (HB.out _ H2.out.sent H2.out.maps HM2.out).mono ?_; rintro e w3 ⟨g3, rfl, hb, hrow⟩; have H3 := Lib.hid (H2.out.next hb); have HM3 := Lib.hid (HM2.out.below hb); have HROW3 := Lib.hid hrow; have i0 := H3.out.b0; have i1 := H3.out.b1; have i2 := H3.out.b2; clear hb hrow)
    | (go_at_call 28; refine (HC.out _ H3.out.sent H3.out.maps HM3.out).mono ?_; rintro e w4 ⟨g4, gc4, rfl, hb, hrow, hq⟩; have H4 := Lib.hid (H3.out.next hb); have HROW4 := Lib.hid hrow; have HROW5 := Lib.hid (HROW3.out.below hb); have HQ := Lib.hid hq; clear hb hrow hq)
    | (go_at_call 29; refine (HSM.out _ _ _ _ _ HROW5.out HROW4.out (.inr ⟨g3, rfl⟩) HQ.out).mono ?_; rintro e w5 ⟨rfl, rfl⟩)
    | (go_at_call 12; refine (heads_any s _ H4.out.sent).mono ?_; rintro e w6 ⟨rfl, hb⟩; have H6 := Lib.hid (H4.out.next hb); clear hb))
  go_ret
  exact ⟨rfl, H6.out.below⟩
end Go.Proofs.YtgchdiocbllppaaDoor
