/- MemFresh where the offset lies in the region: what is read is nought, and no more may be read. -/
import Derived.Test.YtgchdiocbllppaaDoorFresh
namespace Go.Proofs.YtgchdiocbllppaaDoor
open Go.RowKit M

set_option maxRecDepth 100000 in
set_option maxHeartbeats 4000000 in
theorem lawFresh_in (s : Nat → Addr) (c : Int) (cw : Bool) (q : Option Addr) (len cap : Nat) (ms : List Ar) (r o : Int) (v : Ar) (w : World) (hs : Sent w s) (hm : MapsAt w q len ms) (ho : okL c ms = true)
    (hr : hasReg len r = true) (hA : areaOf c cw ms r = v) (h0 : 0 ≤ o) (h1 : o < v.size) :
    Calls Tryd.prog 3 #[.agg #[.int .i64 c, .bool cw, .slice q len cap], .int .i64 r, .int .i64 o] w fun e w' => e = .returned (.bool true) ∧ Below w.heap.size w w' := by
  subst hA
  obtain ⟨f1, f2, f3⟩ := fresh_read (cw := cw) hm.hlen ho hr h0 h1
  have hvb := areaOf_bd (wr := cw) hm.hlen ho hr
  have hAB : areaB c ms len r = true := by simp [areaB, ho, hr]
  have hAR : areaR c cw ms len r = areaOf c cw ms r := by simp [areaR, ho, hr]
  have H0 := Lib.hid (LawW.first (c := c) (cw := cw) (cap := cap) hs hm)
  have HF := Lib.hid (fun W hm => fresh_ok c cw q len cap ms W hm ho)
  have HBY := Lib.hid (fun g gc Q W hs hm hM => bytes_any s c cw q len cap ms (some ⟨g, 0, none⟩) gc Q (zOf c ms) (freshM (zOf c ms) (len + 2)) (addrOf r o) ((areaOf c cw ms r).size - o) W hs hm hM (by simp only [addrOf, IntKind.wrap_u64]; omega))
  have HAC := Lib.hid (fun W hs hm => access_any s c cw q len cap ms (addrOf r o) ((areaOf c cw ms r).size - o + 1) false W hs hm (by simp only [addrOf, IntKind.wrap_u64]; omega))
  rw [f1, f2, accN_4] at HBY
  have hfl : (freshM (zOf c ms) (len + 2)).length = len + 2 := by simp [freshM]
  rw [hfl] at HBY
  obtain ⟨E, hE⟩ : ∃ E, accN (findK c cw ms len (addrOf r o) ((areaOf c cw ms r).size - o + 1) false) = E := ⟨_, rfl⟩
  rw [hE] at HAC f3
  have hE0 : (E != 0) = true := by simpa using f3
  rw [hAR.symm] at h1 hvb HBY HAC
  have HA := Lib.hid (area2_is (wr := cw) rfl hAB q cap)
  obtain ⟨v, hv⟩ : ∃ v, areaR c cw ms len r = v := ⟨_, rfl⟩
  rw [hv] at h1 hvb HBY HAC HA
  obtain ⟨K, hK⟩ : ∃ K, (v.size - o).toNat = K := ⟨_, rfl⟩
  have hKi : v.size - o = (K : Int) := by omega
  have hK2 : K ≤ 4096 := by omega
  rw [hK] at HBY
  unfold BytesPost at HBY
  rw [List.length_replicate] at HBY
  obtain ⟨N, hN⟩ : ∃ N, len + 2 = N := ⟨_, rfl⟩
  obtain ⟨M, hM⟩ : ∃ M, freshM (zOf c ms) (len + 2) = M := ⟨_, rfl⟩
  unfold FreshPost at HF
  rw [hM] at HF HBY
  rw [hN] at HF HBY
  have HKI := Lib.hid hKi
  have hne : ((K : Int) != v.size - o) = false := by simp; omega
  have HAD := Lib.hid (address_any r o)
  generalize addrOf r o = AD at *
  have hwr : IntKind.i64.wrap (v.size - o) = v.size - o := IntWalk.i64_in _ (by omega)
  have hwr2 : IntKind.i64.wrap (v.size - o + 1) = v.size - o + 1 := IntWalk.i64_in _ (by omega)
  clear hs hm ho hr hAB hAR hv f1 f2 f3 hE hK hKi hfl hN hM
  go_enter Tryd.func3, Tryd.ntmps3
  go_wp2_with (first
    | (go_at_call 9; refine (HF.out _ H0.out.maps).mono ?_; rintro e w1 ⟨g, gc, Q, rfl, hM, hb⟩; have H1 := Lib.hid (H0.out.next hb); have HM1 := Lib.hid hM; have k0 := H1.out.b0; have k1 := H1.out.b1; have k2 := H1.out.b2; clear hb hM)
    | (go_at_call 10; refine (HA.out _ H1.out.maps).mono ?_; rintro e w2 ⟨rfl, hb⟩; have H2 := Lib.hid (fun o => (H1.out.next hb).alloc o); have HM2 := Lib.hid (fun o => (HM1.out.below hb).alloc o); have j0 := fun o => (H2.out o).b0; have j1 := fun o => (H2.out o).b1; have j2 := fun o => (H2.out o).b2; clear hb))
  clear k0 k1 k2
  go_region_held3 (fun W => W.cell? ⟨w.heap.size, 0, none⟩ = some (.int .i64 c) ∧ W.cell? ⟨w.heap.size, 1, none⟩ = some (.bool cw) ∧ W.cell? ⟨w.heap.size, 2, none⟩ = some (.slice q len cap) ∧ W.cell? ⟨w2.heap.size, 0, none⟩ = some (.int .i64 v.size)) (go_keep)
    (first
    | (go_at_call 14; refine (HAD.out _).mono ?_; rintro e w' ⟨rfl, rfl⟩)
    | (go_at_call 13; refine (HBY.out _ _ _ _ (H2.out _).drew.sent (H2.out _).drew.maps (HM2.out _).drew).mono ?_; rintro e w4 ⟨g4, rfl, hb, hrow⟩; have H3 := Lib.hid ((H2.out _).drew.next hb); have HROW := Lib.hid hrow; have k0 := H3.out.b0; have k1 := H3.out.b1; have k2 := H3.out.b2; have k3 := (hb.cell (p := ⟨w2.heap.size, 0, none⟩) (by simp)).trans (cell_new w2 (i := 0) rfl); have z4 := Lib.hid (Nat.lt_of_lt_of_le (show w2.heap.size < (w2.alloc (.cells #[.int .i64 v.size, .bool v.write] 23)).heap.size by simp) hb.size); clear hb hrow))
  clear j0 j1 j2
  go_wp2_with fail
  go_loop [13] (fun i => ∃ k : Nat, k ≤ K ∧ i = .int .i64 k) (fun i => K - (intOf i).toNat)
  case atStart => exact ⟨0, Nat.zero_le _, rfl⟩
  case round =>
    obtain ⟨k, hk, rfl⟩ := hrel
    by_cases hlt : k < K
    · obtain ⟨b', off', e, _, hc⟩ := HROW.out.cells k (by simpa using hlt)
      injection e with e
      injection e with e1 e2
      subst e1 e2
      have e0 : (List.replicate K (0 : Int)).getD k 0 = 0 := by simp [hlt]
      rw [e0, Nat.zero_add] at hc
      go_wp2
      go_round
      case rel => exact ⟨k + 1, by omega, by go_num⟩
      case measure => simp [intOf]; omega
    · have hge : K ≤ k := by omega
      go_wp2_with fail
      go_region_held3 (fun W => W.cell? ⟨w.heap.size, 0, none⟩ = some (.int .i64 c) ∧ W.cell? ⟨w.heap.size, 1, none⟩ = some (.bool cw) ∧ W.cell? ⟨w.heap.size, 2, none⟩ = some (.slice q len cap) ∧ W.cell? ⟨w2.heap.size, 0, none⟩ = some (.int .i64 v.size)) (go_keep)
        (first
        | (go_at_call 14; refine (HAD.out _).mono ?_; rintro e w' ⟨rfl, rfl⟩)
        | (go_at_call 15; refine (HAC.out _ H3.out.drew.sent H3.out.drew.maps).mono ?_; rintro e w5 ⟨rfl, hb⟩; have H5 := Lib.hid (H3.out.drew.next hb); have l0 := H5.out.b0; have l1 := H5.out.b1; have l2 := H5.out.b2; have l3 := (hb.cell (p := ⟨w2.heap.size, 0, none⟩) z4.out).trans k3; have z5 := Lib.hid (Nat.lt_of_lt_of_le z4.out hb.size); clear hb)
        | (go_at_call 12; refine (heads_any s _ H5.out.sent).mono ?_; rintro e w6 ⟨rfl, hb⟩; have H6 := Lib.hid (H5.out.next hb); have i0 := H6.out.b0; have i1 := H6.out.b1; have i2 := H6.out.b2; have i3 := (hb.cell (p := ⟨w2.heap.size, 0, none⟩) z5.out).trans l3; clear hb))
      go_wp2_with fail
      go_ret
      exact ⟨rfl, H6.out.below⟩
end Go.Proofs.YtgchdiocbllppaaDoor
