/- Contracts of the document's own answer: areas, accesses, whose a memory is. -/
import Derived.Test.YtgchdiocbllppaaDoorQ
namespace Go.Proofs.YtgchdiocbllppaaDoor
open Go.RowKit M

set_option maxRecDepth 100000 in
set_option maxHeartbeats 1000000 in
theorem rarea_any (c : Int) (cw : Bool) (q : Option Addr) (len cap : Nat) (ms : List Ar) (r : Int) (w : World) (hm : MapsAt w q len ms) :
    Calls Tryd.prog 23 #[.agg #[.int .i64 c, .bool cw, .slice q len cap], .int .i64 r] w fun e w' =>
      e = .returned (.tuple #[.agg #[.int .i64 (areaR c cw ms len r).size, .bool (areaR c cw ms len r).write], .bool (areaB c ms len r)]) ∧ Below w.heap.size w w' := by
  have HM := Lib.hid hm
  have hsm := hm.small
  have hlen := hm.hlen
  clear hm
  cases ho : okL c ms
  · have e1 : areaR c cw ms len r = none_ := by simp [areaR, ho]
    have e2 : areaB c ms len r = false := by simp [areaB, ho]
    rw [e1, e2]
    have HO := Lib.hid ho
    clear e1 e2 ho hlen
    go_enter Tryd.func23, Tryd.ntmps23
    go_wp2_with (go_at_call 18; refine (rcheck_is _ _ _ _ _ ms _ ((HM.out.alloc _).alloc _) HO.out).mono ?_; rw [chk_false]; rintro e w1 ⟨rfl, hb⟩; obtain ⟨hc, hf⟩ := bcell hb; obtain ⟨hy, hz⟩ := two_in hb)
    refine bodyPost_ret (v := .tuple #[.agg #[.int .i64 0, .bool false], .bool false]) (by simp [results, Tryd.results23, go_sem, hc]) rfl ⟨rfl, ?_⟩
    exact (below2 hb).setCell (by simp) _ |>.setCell (by simp) _
  · have HO := Lib.hid ho
    by_cases h1 : r = 1
    · subst h1
      have e1 : areaR c cw ms len 1 = ⟨c, cw⟩ := by
        have : hasReg len 1 = true := by simp [hasReg]; omega
        simp [areaR, ho, this, areaOf]
      have e2 : areaB c ms len 1 = true := by
        have : hasReg len 1 = true := by simp [hasReg]; omega
        simp [areaB, ho, this]
      rw [e1, e2]
      clear e1 e2 ho hlen
      go_enter Tryd.func23, Tryd.ntmps23
      go_wp2_with (go_at_call 18; refine (rcheck_is _ _ _ _ _ ms _ ((HM.out.alloc _).alloc _) HO.out).mono ?_; rw [chk_true]; rintro e w1 ⟨rfl, hb⟩; obtain ⟨hc, hf⟩ := bcell hb; obtain ⟨hy, hz⟩ := two_in hb)
      refine bodyPost_ret (v := .tuple #[.agg #[.int .i64 c, .bool cw], .bool true]) (by simp [results, Tryd.results23, go_sem, hc]) rfl ⟨rfl, ?_⟩
      exact (below2 hb).setCell (by simp) _ |>.setCell (by simp) _
    · by_cases h2 : r = 2
      · subst h2
        have e1 : areaR c cw ms len 2 = ⟨512, true⟩ := by
          have : hasReg len 2 = true := by simp [hasReg]; omega
          simp [areaR, ho, this, areaOf]
        have e2 : areaB c ms len 2 = true := by
          have : hasReg len 2 = true := by simp [hasReg]; omega
          simp [areaB, ho, this]
        rw [e1, e2]
        clear e1 e2 ho hlen h1
        go_enter Tryd.func23, Tryd.ntmps23
        go_wp2_with (go_at_call 18; refine (rcheck_is _ _ _ _ _ ms _ ((HM.out.alloc _).alloc _) HO.out).mono ?_; rw [chk_true]; rintro e w1 ⟨rfl, hb⟩; obtain ⟨hc, hf⟩ := bcell hb; obtain ⟨hy, hz⟩ := two_in hb)
        refine bodyPost_ret (v := .tuple #[.agg #[.int .i64 512, .bool true], .bool true]) (by simp [results, Tryd.results23, go_sem, hc]) rfl ⟨rfl, ?_⟩
        exact (below2 hb).setCell (by simp) _ |>.setCell (by simp) _
      · by_cases h3 : 3 ≤ r
        · by_cases h4 : r < 3 + (len : Int)
          · have hR : hasReg len r = true := by simp [hasReg]; omega
            have e1 : areaR c cw ms len r = ms.getD (r - 3).toNat none_ := by simp [areaR, ho, hR, areaOf, h1, h2]
            have e2 : areaB c ms len r = true := by simp [areaB, ho, hR]
            rw [e1, e2]
            obtain ⟨k, hk⟩ : ∃ k : Nat, r = (k : Int) + 3 := ⟨(r - 3).toNat, by omega⟩
            subst hk
            have e3 : ((k : Int) + 3 - 3).toNat = k := by omega
            rw [e3]
            have hkl : k < len := by omega
            obtain ⟨b, off, rfl, hbl, c1, c2⟩ := HM.out.cells k (by omega)
            generalize ms.getD k none_ = v at c1 c2
            have HC1 := Lib.hid c1
            have HC2 := Lib.hid c2
            clear e1 e2 e3 ho hlen hR c1 c2
            go_enter Tryd.func23, Tryd.ntmps23
            go_wp2_with (go_at_call 18; refine (rcheck_is _ _ _ _ _ ms _ ((HM.out.alloc _).alloc _) HO.out).mono ?_; rw [chk_true]; rintro e w1 ⟨rfl, hb⟩; obtain ⟨hc, hf⟩ := bcell hb; obtain ⟨hy, hz⟩ := two_in hb; have d1 := ((below2 hb).cell (p := ⟨b, off + k * 2, none⟩) hbl).trans HC1.out; have d2 := ((below2 hb).cell (p := ⟨b, off + k * 2 + 1, none⟩) hbl).trans HC2.out; have hcz := hc w.heap.size; clear hbl)
            refine bodyPost_ret (v := .tuple #[.agg #[.int .i64 v.size, .bool v.write], .bool true]) (by simp [results, Tryd.results23, go_sem, hc]) rfl ⟨rfl, ?_⟩
            exact (below2 hb).setCell (by simp) _ |>.setCell (by simp) _
          · have hR : hasReg len r = false := by simp [hasReg]; omega
            have e1 : areaR c cw ms len r = none_ := by simp [areaR, hR]
            have e2 : areaB c ms len r = false := by simp [areaB, hR]
            rw [e1, e2]
            clear e1 e2 ho hlen hR
            go_enter Tryd.func23, Tryd.ntmps23
            go_wp2_with (go_at_call 18; refine (rcheck_is _ _ _ _ _ ms _ ((HM.out.alloc _).alloc _) HO.out).mono ?_; rw [chk_true]; rintro e w1 ⟨rfl, hb⟩; obtain ⟨hc, hf⟩ := bcell hb; obtain ⟨hy, hz⟩ := two_in hb)
            refine bodyPost_ret (v := .tuple #[.agg #[.int .i64 0, .bool false], .bool false]) (by simp [results, Tryd.results23, go_sem, hc]) rfl ⟨rfl, ?_⟩
            exact (below2 hb).setCell (by simp) _ |>.setCell (by simp) _
        · have hR : hasReg len r = false := by simp [hasReg]; omega
          have e1 : areaR c cw ms len r = none_ := by simp [areaR, hR]
          have e2 : areaB c ms len r = false := by simp [areaB, hR]
          rw [e1, e2]
          clear e1 e2 ho hlen hR
          go_enter Tryd.func23, Tryd.ntmps23
          go_wp2_with (go_at_call 18; refine (rcheck_is _ _ _ _ _ ms _ ((HM.out.alloc _).alloc _) HO.out).mono ?_; rw [chk_true]; rintro e w1 ⟨rfl, hb⟩; obtain ⟨hc, hf⟩ := bcell hb; obtain ⟨hy, hz⟩ := two_in hb)
          refine bodyPost_ret (v := .tuple #[.agg #[.int .i64 0, .bool false], .bool false]) (by simp [results, Tryd.results23, go_sem, hc]) rfl ⟨rfl, ?_⟩
          exact (below2 hb).setCell (by simp) _ |>.setCell (by simp) _
end Go.Proofs.YtgchdiocbllppaaDoor
