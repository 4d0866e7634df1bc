/- Contract of the document's own answer: whose a memory is. -/
import Derived.Test.YtgchdiocbllppaaDoorRA
namespace Go.Proofs.YtgchdiocbllppaaDoor
open Go.RowKit M

theorem rarea_sz {c : Int} {cw : Bool} {ms : List Ar} {i : Nat} (q : Option Addr) (len cap : Nat) (w : World) (hm : MapsAt w q len ms) (ho : okL c ms = true) (hi : i < len + 2) :
    Calls Tryd.prog 23 #[.agg #[.int .i64 c, .bool cw, .slice q len cap], .int .i64 ((i : Int) + 1)] w fun e w' =>
      (∃ b, e = .returned (.tuple #[.agg #[.int .i64 (szOf c ms i), .bool b], .bool true])) ∧ Below w.heap.size w w' := by
  have h1 : areaR c cw ms len ((i : Int) + 1) = areaOf c cw ms ((i : Int) + 1) := by simp [areaR, ho, hasReg_in hi]
  have h2 : areaB c ms len ((i : Int) + 1) = true := by simp [areaB, ho, hasReg_in hi]
  have h := rarea_any c cw q len cap ms ((i : Int) + 1) w hm
  rw [h1, h2, szOf_eq] at h
  exact h.mono fun e w' ⟨h1, h2⟩ => ⟨⟨_, h1⟩, h2⟩
set_option maxRecDepth 100000 in
set_option maxHeartbeats 1000000 in
theorem rmay_any (s : Nat → Addr) (c : Int) (cw : Bool) (q : Option Addr) (len cap : Nat) (ms : List Ar) (mp : Option Addr) (mc : Nat) (Q : Nat → Option Addr) (C : Nat → Nat) (M : List (List Int)) (w : World) (hs : Sent w s) (hm : MapsAt w q len ms) (hM : MemAt w mp Q C M) :
    Calls Tryd.prog 20 #[.agg #[.int .i64 c, .bool cw, .slice q len cap], .slice mp M.length mc] w fun e w' =>
      e = .returned (.bool (mayB c ms len M)) ∧ Below w.heap.size w w' := by
  have H0 := Lib.hid (LawW.first (c := c) (cw := cw) (cap := cap) hs hm)
  have HMM := Lib.hid hM
  have hlen := hm.hlen
  have hls := hm.small
  have hsm := hM.small
  have HCK := Lib.hid (fun W hm => rcheck_any c cw q len cap ms W hm)
  obtain ⟨K, hK⟩ : ∃ K, M.length = K := ⟨_, rfl⟩
  rw [hK] at hsm ⊢
  cases ho : okL c ms
  · have HR : mayB c ms len M = false := by simp [mayB, ho]
    rw [HR]
    rw [ho, chk_false] at HCK
    clear HR ho hK hlen hs hm hM
    go_enter Tryd.func20, Tryd.ntmps20
    go_wp2_with (go_at_call 18; refine (HCK.out _ H0.out.maps).mono ?_; rintro e w1 ⟨rfl, hb⟩; have H1 := Lib.hid (H0.out.next hb); clear hb)
    go_ret
    exact ⟨rfl, H1.out.below⟩
  · rw [ho, chk_true] at HCK
    have hl8 : len ≤ 8 := by have := (okL_parts ho).2.1; omega
    have HO := Lib.hid ho
    by_cases hKL : K = len + 2
    · have HSB := Lib.hid (fun i hi => szOf_bd (i := i) hlen HO.out hi)
      have hkl : K ≤ len + 2 := by omega
      have hkl2 : len + 2 ≤ K := by omega
      have hk1 : ((K : Int) != 2 + (len : Int)) = false := by simp; omega
      have HKL := Lib.hid hKL
      have HKK := Lib.hid hK
      clear hKL hK ho hlen hs hm hM
      go_enter Tryd.func20, Tryd.ntmps20
      go_wp2_with (go_at_call 18; refine (HCK.out _ H0.out.maps).mono ?_; rintro e w1 ⟨rfl, hb⟩; have H1 := Lib.hid (H0.out.next hb); have k0 := H1.out.b0; have k1 := H1.out.b1; have k2 := H1.out.b2; clear hb)
      clear k0 k1 k2
      go_loopw [5] (fun i wr => ∃ k : Nat, k ≤ K ∧ i = .int .i64 k ∧ Hid (∀ i, i < k → ((M.getD i []).length : Int) = szOf c ms i) ∧ Hid (LawW s w wr c cw q len cap ms)) (fun i _ => K - (intOf i).toNat)
      case atStart => exact ⟨0, Nat.zero_le _, rfl, (fun i hi => absurd hi (Nat.not_lt_zero _)), H1.out⟩
      case round =>
        obtain ⟨k, hk, rfl, HE, HW⟩ := hrel
        by_cases hlt : k < K
        · have hkl3 : k < len + 2 := by omega
          obtain ⟨b, off, rfl, hbl, g1, _, _⟩ := HMM.out.cells k (by rw [HKK.out]; omega)
          have hkb := HMM.out.rsmall k
          obtain ⟨L, hL⟩ : ∃ L, (M.getD k []).length = L := ⟨_, rfl⟩
          rw [hL] at g1 hkb
          have HAR := Lib.hid (fun W hm => rarea_sz (c := c) (cw := cw) (ms := ms) q len cap W hm HO.out hkl3)
          obtain ⟨z, hz'⟩ : ∃ z, szOf c ms k = z := ⟨_, rfl⟩
          rw [hz'] at HAR
          have HL := Lib.hid hL
          have HZ := Lib.hid hz'
          have HG1 := Lib.hid g1
          have k0 := HW.out.b0
          have k1 := HW.out.b1
          have k2 := HW.out.b2
          clear hL hz' g1
          go_wp2_with fail
          refine (HAR.out _ HW.out.maps).mono ?_
          rintro e w3 ⟨⟨bb, rfl⟩, hb⟩
          have H3 := Lib.hid (fun o => (HW.out.next hb).alloc o)
          have d1 : ∀ o, (w3.alloc o).cell? ⟨b, off + k, none⟩ = some (.slice (Q k) L (C k)) := fun o => ((H3.out o).below.cell (p := ⟨b, off + k, none⟩) hbl).trans HG1.out
          clear hb k0 k1 k2
          go_wp2_with fail
          by_cases heq : (L : Int) = z
          · have t1 : ((L : Int) != z) = false := by simp [heq]
            have HEQ := Lib.hid heq
            clear heq
            go_region
            all_goals
              go_wp2
              go_roundw
              case rel =>
                refine ⟨k + 1, by omega, by go_num, (fun i hi => ?_), (H3.out _).drew⟩
                by_cases h : i < k
                · exact HE.out i h
                · have : i = k := by omega
                  subst this
                  rw [HL.out, HZ.out]; exact HEQ.out
              case measure => simp [intOf]; omega
          · have t1 : ((L : Int) != z) = true := by simp [heq]
            have HEQ := Lib.hid heq
            clear heq
            go_region
            all_goals
              go_wp2
              go_ret
              exact ⟨ret_bool (mayB_no k hkl3 (by rw [HL.out, HZ.out]; exact HEQ.out)).symm, (H3.out _).drew.below⟩
        · go_wp2
          go_ret
          refine ⟨ret_bool ?_, HW.out.below⟩
          have : len + 2 ≤ k := by omega
          simp only [mayB, HO.out, Bool.true_and]
          exact (decide_eq_true ⟨by rw [HKK.out]; exact HKL.out, fun i hi => HE.out i (by omega)⟩).symm
    · have HR : mayB c ms len M = false := by
        simp only [mayB, Bool.and_eq_false_iff, decide_eq_false_iff_not]
        exact .inr fun h' => hKL (hK ▸ h'.1)
      rw [HR]
      have t1 : ((K : Int) != 2 + (len : Int)) = true := by simp; omega
      clear hKL hK ho hlen HR hs hm hM
      go_enter Tryd.func20, Tryd.ntmps20
      go_wp2_with (go_at_call 18; refine (HCK.out _ H0.out.maps).mono ?_; rintro e w1 ⟨rfl, hb⟩; have H1 := Lib.hid (H0.out.next hb); have k0 := H1.out.b0; have k1 := H1.out.b1; have k2 := H1.out.b2; clear hb)
      go_ret
      exact ⟨rfl, H1.out.below⟩
end Go.Proofs.YtgchdiocbllppaaDoor
