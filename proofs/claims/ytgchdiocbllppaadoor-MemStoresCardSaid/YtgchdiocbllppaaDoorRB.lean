/- Contracts of the document's own answer: accesses, whose a memory is, and both asked. -/
import Derived.Test.YtgchdiocbllppaaDoorRA
namespace Go.Proofs.YtgchdiocbllppaaDoor
open Go.RowKit M

theorem rarea_is {c : Int} {cw : Bool} {ms : List Ar} {len : Nat} {r : Int} {v : Ar} {b : Bool} (h : areaR c cw ms len r = v) (h' : areaB c ms len r = b) (q : Option Addr) (cap : Nat) (w : World) (hm : MapsAt w q len ms) :
    Calls Tryd.prog 23 #[.agg #[.int .i64 c, .bool cw, .slice q len cap], .int .i64 r] w fun e w' =>
      e = .returned (.tuple #[.agg #[.int .i64 v.size, .bool v.write], .bool b]) ∧ Below w.heap.size w w' := by
  rw [← h, ← h']; exact rarea_any c cw q len cap ms r w hm
set_option maxRecDepth 100000 in
set_option maxHeartbeats 1000000 in
theorem raccess_any (c : Int) (cw : Bool) (q : Option Addr) (len cap : Nat) (ms : List Ar) (a n : Int) (write : Bool) (w : World) (hm : MapsAt w q len ms) (ha : 0 ≤ a ∧ a < 18446744073709551616) :
    Calls Tryd.prog 25 #[.agg #[.int .i64 c, .bool cw, .slice q len cap], .int .u64 a, .int .i64 n, .bool write] w fun e w' =>
      e = .returned (.int .i64 (accN (findK c cw ms len a n write))) ∧ Below w.heap.size w w' := by
  have HM := Lib.hid hm
  have hbd := areaR_bd c cw ms len (regOf a) hm.hlen
  have HSP := Lib.hid (fun W => rsplit_any a W ha.1 ha.2)
  have ho : 0 ≤ offOf a ∧ offOf a < 4294967296 := by unfold offOf; omega
  have hrr : 0 ≤ regOf a ∧ regOf a < 4294967296 := by unfold regOf; omega
  have hB1 := Lib.hid ((Below.refl w.heap.size w).alloc (Nat.le_refl _) (.cells #[.int .i64 c, .bool cw, .slice q len cap] 26))
  by_cases h1 : n < 1
  · have e : accN (findK c cw ms len a n write) = 2 := by
      unfold findK; rw [if_pos (inB_false (by omega))]; rfl
    rw [e]
    clear hm hbd ho hrr e ha
    go_enter Tryd.func25, Tryd.ntmps25
    go_wp2
    go_ret
    exact ⟨rfl, hB1.out⟩
  · by_cases h2 : 4096 < n
    · have e : accN (findK c cw ms len a n write) = 2 := by
        unfold findK; rw [if_pos (inB_false (by omega))]; rfl
      rw [e]
      clear hm hbd ho hrr e ha
      go_enter Tryd.func25, Tryd.ntmps25
      go_wp2
      go_ret
      exact ⟨rfl, hB1.out⟩
    · have hin : inB n 1 = true := inB_true (by omega)
      have HAR := Lib.hid (fun W hm => rarea_any c cw q len cap ms (regOf a) W hm)
      have e0 : findK c cw ms len a n write = if areaB c ms len (regOf a) = false then 1 else if (areaR c cw ms len (regOf a)).size - n < offOf a then 1 else if write = true ∧ (areaR c cw ms len (regOf a)).write = false then 2 else 4 := by
        unfold findK; rw [hin, if_neg (by simp)]
      rw [e0]
      generalize areaR c cw ms len (regOf a) = v at *
      generalize areaB c ms len (regOf a) = b at *
      have hn2 : 1 ≤ n ∧ n ≤ 4096 := by omega
      clear hm e0 hin ha
      cases b
      · rw [if_pos rfl]
        have e : accN 1 = 20 := by decide
        rw [e]
        go_enter Tryd.func25, Tryd.ntmps25
        go_wp2_with (first
          | (go_at_call 22; refine (HSP.out _).mono ?_; rintro e w' ⟨rfl, rfl⟩)
          | (go_at_call 23; refine (HAR.out _ (HM.out.alloc _)).mono ?_; rintro e w1 ⟨rfl, hb⟩; obtain ⟨hc, hf⟩ := bcell hb; have hz := one_in hb))
        go_ret
        exact ⟨rfl, (below1 hb).alloc (Nat.le_of_lt hz) _⟩
      · rw [if_neg (by simp)]
        by_cases h3 : v.size - n < offOf a
        · rw [if_pos h3]
          have e : accN 1 = 20 := by decide
          rw [e]
          go_enter Tryd.func25, Tryd.ntmps25
          go_wp2_with (first
            | (go_at_call 22; refine (HSP.out _).mono ?_; rintro e w' ⟨rfl, rfl⟩)
            | (go_at_call 23; refine (HAR.out _ (HM.out.alloc _)).mono ?_; rintro e w1 ⟨rfl, hb⟩; obtain ⟨hc, hf⟩ := bcell hb; have hz := one_in hb))
          go_ret
          exact ⟨rfl, (below1 hb).alloc (Nat.le_of_lt hz) _⟩
        · rw [if_neg h3]
          have h3' : offOf a ≤ v.size - n := by omega
          cases write
          · have e : accN (if false = true ∧ v.write = false then 2 else 4) = 0 := by simp [accN]
            rw [e]
            go_enter Tryd.func25, Tryd.ntmps25
            go_wp2_with (first
              | (go_at_call 22; refine (HSP.out _).mono ?_; rintro e w' ⟨rfl, rfl⟩)
              | (go_at_call 23; refine (HAR.out _ (HM.out.alloc _)).mono ?_; rintro e w1 ⟨rfl, hb⟩; obtain ⟨hc, hf⟩ := bcell hb; have hz := one_in hb))
            go_ret
            exact ⟨rfl, (below1 hb).alloc (Nat.le_of_lt hz) _⟩
          · cases hvw : v.write
            · have e : accN (if true = true ∧ false = false then 2 else 4) = 21 := by decide
              rw [e]
              have HVW := Lib.hid hvw
              rw [hvw] at HAR
              clear hvw
              go_enter Tryd.func25, Tryd.ntmps25
              go_wp2_with (first
                | (go_at_call 22; refine (HSP.out _).mono ?_; rintro e w' ⟨rfl, rfl⟩)
                | (go_at_call 23; refine (HAR.out _ (HM.out.alloc _)).mono ?_; rintro e w1 ⟨rfl, hb⟩; obtain ⟨hc, hf⟩ := bcell hb; have hz := one_in hb))
              go_ret
              exact ⟨rfl, (below1 hb).alloc (Nat.le_of_lt hz) _⟩
            · have e : accN (if true = true ∧ true = false then 2 else 4) = 0 := by decide
              rw [e]
              rw [hvw] at HAR
              clear hvw
              go_enter Tryd.func25, Tryd.ntmps25
              go_wp2_with (first
                | (go_at_call 22; refine (HSP.out _).mono ?_; rintro e w' ⟨rfl, rfl⟩)
                | (go_at_call 23; refine (HAR.out _ (HM.out.alloc _)).mono ?_; rintro e w1 ⟨rfl, hb⟩; obtain ⟨hc, hf⟩ := bcell hb; have hz := one_in hb))
              go_ret
              exact ⟨rfl, (below1 hb).alloc (Nat.le_of_lt hz) _⟩
end Go.Proofs.YtgchdiocbllppaaDoor
