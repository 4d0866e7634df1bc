/- MemFresh: a fresh memory is all nought, and what may be read is what is left; no condition. -/
import Derived.Test.YtgchdiocbllppaaDoorQ
import Derived.Deep.RegionHeld3
namespace Go.Proofs.YtgchdiocbllppaaDoor
open Go.RowKit M

set_option maxRecDepth 100000 in
set_option maxHeartbeats 1000000 in
theorem lawFresh_bad (s : Nat → Addr) (c : Int) (cw : Bool) (q : Option Addr) (len cap : Nat) (ms : List Ar) (r o : Int) (w : World) (hs : Sent w s) (hm : MapsAt w q len ms) (ho : okL c ms = false) :
    Calls Tryd.prog 3 #[.agg #[.int .i64 c, .bool cw, .slice q len cap], .int .i64 r, .int .i64 o] w fun e w' => e = .returned (.bool true) ∧ Below w.heap.size w w' := by
  have H0 := Lib.hid (LawW.first (c := c) (cw := cw) (cap := cap) hs hm)
  have HF := Lib.hid (fun W hm => fresh_bad c cw q len cap ms W hm ho)
  have hAB : areaB c ms len r = false := by simp [areaB, ho]
  have hAR : areaR c cw ms len r = none_ := by simp [areaR, ho]
  have HA := Lib.hid (area2_is hAR hAB q cap)
  have HC := Lib.hid (fun W hm => check_is c cw q len cap ms W hm ho)
  clear hs hm ho hAB hAR
  go_enter Tryd.func3, Tryd.ntmps3
  go_wp2_with (first
    | (go_at_call 9; refine (HF.out _ H0.out.maps).mono ?_; rintro e w1 ⟨rfl, hb⟩; have H1 := Lib.hid (H0.out.next hb); have k0 := H1.out.b0; have k1 := H1.out.b1; have k2 := H1.out.b2; clear hb)
    | (go_at_call 10; refine (HA.out _ H1.out.maps).mono ?_; rintro e w2 ⟨rfl, hb⟩; have H2 := Lib.hid (fun o => (H1.out.next hb).alloc o); have j0 := fun o => (H2.out o).b0; have j1 := fun o => (H2.out o).b1; have j2 := fun o => (H2.out o).b2; clear hb)
    | (go_at_call 11; refine (HC.out _ (H2.out _).maps).mono ?_; rw [chk_false]; rintro e w3 ⟨rfl, hb⟩; have H3 := Lib.hid ((H2.out _).next hb); clear hb)
    | (go_at_call 12; refine (heads_any s _ H3.out.sent).mono ?_; rintro e w4 ⟨rfl, hb⟩; have H4 := Lib.hid (H3.out.next hb); clear hb))
  go_ret
  exact ⟨rfl, H4.out.below⟩

set_option maxRecDepth 100000 in
set_option maxHeartbeats 1000000 in
theorem lawFresh_out (s : Nat → Addr) (c : Int) (cw : Bool) (q : Option Addr) (len cap : Nat) (ms : List Ar) (r o : Int) (v : Ar) (w : World) (hs : Sent w s) (hm : MapsAt w q len ms) (ho : okL c ms = true)
    (b : Bool) (hAB : areaB c ms len r = b) (hAR : areaR c cw ms len r = v) (hout : b = false ∨ b = true ∧ (o < 0 ∨ 0 ≤ o ∧ v.size ≤ o)) :
    Calls Tryd.prog 3 #[.agg #[.int .i64 c, .bool cw, .slice q len cap], .int .i64 r, .int .i64 o] w fun e w' => e = .returned (.bool true) ∧ Below w.heap.size w w' := by
  have H0 := Lib.hid (LawW.first (c := c) (cw := cw) (cap := cap) hs hm)
  have HF := Lib.hid (fun W hm => fresh_ok c cw q len cap ms W hm ho)
  have HA := Lib.hid (area2_is hAR hAB q cap)
  have HC := Lib.hid (fun W hm => check_is c cw q len cap ms W hm ho)
  obtain ⟨N, hN⟩ : ∃ N, len + 2 = N := ⟨_, rfl⟩
  unfold FreshPost at HF
  rw [hN] at HF
  clear hs hm ho hAB hAR hN
  rcases hout with h | ⟨h, h | ⟨h, h'⟩⟩
  all_goals
    subst b
    go_enter Tryd.func3, Tryd.ntmps3
    go_wp2_with (first
      | (go_at_call 9; refine (HF.out _ H0.out.maps).mono ?_; rintro e w1 ⟨g, gc, Q, rfl, hM, hb⟩; have H1 := Lib.hid (H0.out.next hb); have k0 := H1.out.b0; have k1 := H1.out.b1; have k2 := H1.out.b2; clear hb hM)
      | (go_at_call 10; refine (HA.out _ H1.out.maps).mono ?_; rintro e w2 ⟨rfl, hb⟩; have H2 := Lib.hid (fun o => (H1.out.next hb).alloc o); have j0 := fun o => (H2.out o).b0; have j1 := fun o => (H2.out o).b1; have j2 := fun o => (H2.out o).b2; clear hb)
      | (go_at_call 11; refine (HC.out _ (H2.out _).maps).mono ?_; rw [chk_true]; rintro e w3 ⟨rfl, hb⟩; have H3 := Lib.hid ((H2.out _).next hb); clear hb)
      | (go_at_call 12; refine (heads_any s _ H3.out.sent).mono ?_; rintro e w4 ⟨rfl, hb⟩; have H4 := Lib.hid (H3.out.next hb); clear hb))
    go_ret
    exact ⟨rfl, H4.out.below⟩
end Go.Proofs.YtgchdiocbllppaaDoor
