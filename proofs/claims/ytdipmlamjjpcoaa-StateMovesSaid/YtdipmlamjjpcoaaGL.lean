/- States: package state's Check. -/
import Derived.Test.YtdipmlamjjpcoaaGK

/- States: package state's Check. -/
namespace Go.Proofs.Ytdipmlamjjpcoaa
open Go.RowKit
attribute [local go_sem] b_and b_or b_xor b_andNot b_low b_top b_most b_signed b_unsigned b_zero b_eq s_eq b_nzero b_neq s_neq b_max b_min s_max s_min
attribute [local go_sem ↓] Go.wp_at_zero Go.wp_at_succ

theorem scheck_len (A : AbA) (s : Ab) (hn : ¬ (s.regs.length = 11 ∧ s.set.length = 512 ∧ s.saved.length = 64)) (w : World) : Calls Try.prog 8 #[.agg #[.slice A.p1 s.regs.length A.c1, .slice A.p2 s.set.length A.c2, .slice A.p3 s.saved.length A.c3]] w fun e w' => e = .returned (.bool (checkS s)) ∧ Below w.heap.size w w' := by
  rw [check_no hn]
  have HF := Lib.hid (fun W => sfull_any A s.regs.length s.set.length s.saved.length W)
  rw [decide_eq_false hn] at HF
  clear hn
  generalize s.set.length = N2 at *
  generalize s.regs.length = N1 at *
  generalize s.saved.length = N3 at *
  go_enter Try.func8, Try.ntmps8
  go_wp2_with (go_at_call 25; (with_reducible refine (HF.out _).mono ?_); rintro e w1 ⟨rfl, hb⟩; have B1 := Lib.hid (bl1 hb).1; clear hb)
  go_ret
  exact ⟨rfl, B1.out⟩
theorem allB_no {p : Nat → Bool} {n : Nat} (h : allB p n = false) : ∃ k, k < n ∧ p k = false := by
  apply Classical.byContradiction
  intro hn
  have : allB p n = true := allB_iff.2 (fun i hi => by
    cases e : p i with
    | true => rfl
    | false => exact absurd ⟨i, hi, e⟩ hn)
  rw [h] at this; cases this
theorem check_no3 {s : Ab} (h : allB (fun i => right (rg s.regs i)) 11 = false) : checkS s = false := by
  obtain ⟨k, hk, h⟩ := allB_no h
  exact check_no1 hk h
theorem check_no4 {s : Ab} (h : allB (fun i => right (rg s.saved i)) 64 = false) : checkS s = false := by
  obtain ⟨k, hk, h⟩ := allB_no h
  exact check_no2 hk (savedB_no h)
theorem sset_8 (A : AbA) (s : Ab) (k : Nat) (w : World) (h : AbAt w A s) (hh : 8 * k + 8 ≤ s.set.length) : Calls Try.prog 28 #[.agg #[.slice A.p1 s.regs.length A.c1, .slice A.p2 s.set.length A.c2, .slice A.p3 s.saved.length A.c3], .int .i64 ((k : Int) * 8), .int .i64 (((k : Int) + 1) * 8)] w fun e w' => e = .returned (.bool (setB s.set (8 * k) 8)) ∧ Below w.heap.size w w' := by
  have h := sset_any A s (8 * k) (8 * k + 8) w h (by omega) hh (by omega)
  rw [show ((8 * k + 8 : Nat) : Int) = ((k : Int) + 1) * 8 by omega, show ((8 * k : Nat) : Int) = (k : Int) * 8 by omega, show 8 * k + 8 - 8 * k = 8 by omega] at h
  exact h
theorem Bx.bl {w W : World} {cs : List Value} {t : TypeId} (hb : Below (w.alloc (.cells cs.toArray t)).heap.size (w.alloc (.cells cs.toArray t)) W) : Bx w W cs := ⟨(bl1 hb).1, (Box.new w cs t rfl).next hb⟩
set_option maxRecDepth 100000 in
set_option maxHeartbeats 1000000 in
theorem scheck_no1 (A : AbA) (s : Ab) (w : World) (h : AbAt w A s) (hn : s.regs.length = 11 ∧ s.set.length = 512 ∧ s.saved.length = 64) (h1 : allB (fun i => right (rg s.regs i)) 11 = false) : Calls Try.prog 8 #[.agg #[.slice A.p1 s.regs.length A.c1, .slice A.p2 s.set.length A.c2, .slice A.p3 s.saved.length A.c3]] w fun e w' => e = .returned (.bool (checkS s)) ∧ Below w.heap.size w w' := by
  have HF := Lib.hid (fun W => sfull_any A 11 512 64 W)
  rw [decide_eq_true ⟨rfl, rfl, rfl⟩] at HF
  have hk := fun (W : World) (hb : Below w.heap.size w W) => scontf_any A.p1 s.regs A.c1 W (h.below hb).r
  obtain ⟨n1, n2, n3⟩ := hn
  rw [n1, h1] at hk
  have HK := Lib.hid hk
  rw [check_no3 h1, n1, n2, n3]
  clear h1 h n1 n2 n3 hk
  have HN0 := Lib.hid (fun W (hb : Below (w.alloc (.cells #[.slice A.p1 11 A.c1, .slice A.p2 512 A.c2, .slice A.p3 64 A.c3] 25)).heap.size (w.alloc (.cells #[.slice A.p1 11 A.c1, .slice A.p2 512 A.c2, .slice A.p3 64 A.c3] 25)) W) => Bx.bl (cs := [.slice A.p1 11 A.c1, .slice A.p2 512 A.c2, .slice A.p3 64 A.c3]) hb)
  go_enter Try.func8, Try.ntmps8
  go_wp2_with (first
    | (go_at_call 26; (with_reducible refine (HK.out _ HN.out.low).mono ?_); rintro e w2 ⟨rfl, hb⟩; have B2 := Lib.hid (bnext HN.out.low hb); clear hb)
    | (go_at_call 25; (with_reducible refine (HF.out _).mono ?_); rintro e w1 ⟨rfl, hb⟩; have HN := Lib.hid (HN0.out _ hb); have q1 := HN.out.bx.cell 0 _ rfl; have q2 := HN.out.bx.cell 1 _ rfl; have q3 := HN.out.bx.cell 2 _ rfl; have z0 := HN.out.bx.lt; clear hb))
  go_ret
  exact ⟨rfl, B2.out⟩
set_option maxRecDepth 100000 in
set_option maxHeartbeats 1000000 in
theorem scheck_no2 (A : AbA) (s : Ab) (w : World) (h : AbAt w A s) (hn : s.regs.length = 11 ∧ s.set.length = 512 ∧ s.saved.length = 64) (h1 : allB (fun i => right (rg s.regs i)) 11 = true) (h2 : allB (fun i => right (rg s.saved i)) 64 = false) : Calls Try.prog 8 #[.agg #[.slice A.p1 s.regs.length A.c1, .slice A.p2 s.set.length A.c2, .slice A.p3 s.saved.length A.c3]] w fun e w' => e = .returned (.bool (checkS s)) ∧ Below w.heap.size w w' := by
  have HF := Lib.hid (fun W => sfull_any A 11 512 64 W)
  rw [decide_eq_true ⟨rfl, rfl, rfl⟩] at HF
  have hk := fun (W : World) (hb : Below w.heap.size w W) => scontf_any A.p1 s.regs A.c1 W (h.below hb).r
  have hk2 := fun (W : World) (hb : Below w.heap.size w W) => scontf_any A.p3 s.saved A.c3 W (h.below hb).v
  obtain ⟨n1, n2, n3⟩ := hn
  rw [n1, h1] at hk
  rw [n3, h2] at hk2
  have HK := Lib.hid hk
  have HK2 := Lib.hid hk2
  rw [check_no4 h2, n1, n2, n3]
  clear h1 h2 h n1 n2 n3 hk hk2
  have HN0 := Lib.hid (fun W (hb : Below (w.alloc (.cells #[.slice A.p1 11 A.c1, .slice A.p2 512 A.c2, .slice A.p3 64 A.c3] 25)).heap.size (w.alloc (.cells #[.slice A.p1 11 A.c1, .slice A.p2 512 A.c2, .slice A.p3 64 A.c3] 25)) W) => Bx.bl (cs := [.slice A.p1 11 A.c1, .slice A.p2 512 A.c2, .slice A.p3 64 A.c3]) hb)
  go_enter Try.func8, Try.ntmps8
  go_wp2_with (first
    | (go_at_call 26; (with_reducible refine (HK2.out _ HM.out.low).mono ?_); rintro e w3 ⟨rfl, hb⟩; have B2 := Lib.hid (bnext HM.out.low hb); clear hb)
    | (go_at_call 26; (with_reducible refine (HK.out _ HN.out.low).mono ?_); rintro e w2 ⟨rfl, hb⟩; have HM := Lib.hid (HN.out.next hb); clear q1 q2 q3 z0; have q1 := HM.out.bx.cell 0 _ rfl; have q2 := HM.out.bx.cell 1 _ rfl; have q3 := HM.out.bx.cell 2 _ rfl; have z0 := HM.out.bx.lt; clear hb)
    | (go_at_call 25; (with_reducible refine (HF.out _).mono ?_); rintro e w1 ⟨rfl, hb⟩; have HN := Lib.hid (HN0.out _ hb); have q1 := HN.out.bx.cell 0 _ rfl; have q2 := HN.out.bx.cell 1 _ rfl; have q3 := HN.out.bx.cell 2 _ rfl; have z0 := HN.out.bx.lt; clear hb))
  go_ret
  exact ⟨rfl, B2.out⟩
end Go.Proofs.Ytdipmlamjjpcoaa

/- States: package state's Check, where what is known may be. -/
namespace Go.Proofs.Ytdipmlamjjpcoaa
open Go.RowKit
attribute [local go_sem] b_and b_or b_xor b_andNot b_low b_top b_most b_signed b_unsigned b_zero b_eq s_eq b_nzero b_neq s_neq b_max b_min s_max s_min
attribute [local go_sem ↓] Go.wp_at_zero Go.wp_at_succ

set_option maxRecDepth 100000 in
set_option maxHeartbeats 2000000 in
theorem scheck_yes (A : AbA) (s : Ab) (w : World) (h : AbAt w A s) (hn : s.regs.length = 11 ∧ s.set.length = 512 ∧ s.saved.length = 64) (h1 : allB (fun i => right (rg s.regs i)) 11 = true) (h2 : allB (fun i => right (rg s.saved i)) 64 = true) : Calls Try.prog 8 #[.agg #[.slice A.p1 s.regs.length A.c1, .slice A.p2 s.set.length A.c2, .slice A.p3 s.saved.length A.c3]] w fun e w' => e = .returned (.bool (checkS s)) ∧ Below w.heap.size w w' := by
  have HF := Lib.hid (fun W => sfull_any A 11 512 64 W)
  rw [decide_eq_true ⟨rfl, rfl, rfl⟩] at HF
  have hk := fun (W : World) (hb : Below w.heap.size w W) => scontf_any A.p1 s.regs A.c1 W (h.below hb).r
  have hk2 := fun (W : World) (hb : Below w.heap.size w W) => scontf_any A.p3 s.saved A.c3 W (h.below hb).v
  have HQ := Lib.hid (fun h3 => check_yes (s := s) hn (allB_iff.1 h1) h3)
  have HX2 := Lib.hid (fun (k : Nat) (h1 : k < 64) h2 => check_no2 (s := s) h1 h2)
  have HS := Lib.hid (fun (k : Nat) (hk : k < 64) (W : World) (hW : AbAt W A s) => sset_8 A s k W hW (by omega))
  have HA := Lib.hid (fun (W : World) (hb : Below w.heap.size w W) => h.below hb)
  have HV := Lib.hid (fun (i : Nat) (hi : i < 64) (W : World) (hb : Below w.heap.size w W) => (h.below hb).v.cells i (by omega))
  have HR := Lib.hid (allB_iff.1 h2)
  obtain ⟨n1, n2, n3⟩ := hn
  obtain ⟨b3', o3, hp3, _⟩ := h.v.cells 0 (by omega)
  have HP3 := Lib.hid hp3
  rw [n1, h1] at hk
  rw [n3, h2] at hk2
  rw [n1, n2, n3] at HS ⊢
  have HK := Lib.hid hk
  have HK2 := Lib.hid hk2
  clear h1 h2 h n1 n2 n3 hk hk2 hp3
  generalize checkS s = g at *
  have HN0 := Lib.hid (fun W (hb : Below (w.alloc (.cells #[.slice A.p1 11 A.c1, .slice A.p2 512 A.c2, .slice A.p3 64 A.c3] 25)).heap.size (w.alloc (.cells #[.slice A.p1 11 A.c1, .slice A.p2 512 A.c2, .slice A.p3 64 A.c3] 25)) W) => Bx.bl (cs := [.slice A.p1 11 A.c1, .slice A.p2 512 A.c2, .slice A.p3 64 A.c3]) hb)
  rw [HP3.out] at HF HK2 HS HN0 ⊢
  go_enter Try.func8, Try.ntmps8
  go_wp2_with (first
    | (go_at_call 26; (with_reducible refine (HK2.out _ HM.out.low).mono ?_); rintro e w3 ⟨rfl, hb⟩; have HL := Lib.hid (HM.out.next hb); clear q1 q2 q3 z0; have q1 := HL.out.bx.cell 0 _ rfl; have q2 := HL.out.bx.cell 1 _ rfl; have q3 := HL.out.bx.cell 2 _ rfl; have z0 := HL.out.bx.lt; clear hb)
    | (go_at_call 26; (with_reducible refine (HK.out _ HN.out.low).mono ?_); rintro e w2 ⟨rfl, hb⟩; have HM := Lib.hid (HN.out.next hb); clear q1 q2 q3 z0; have q1 := HM.out.bx.cell 0 _ rfl; have q2 := HM.out.bx.cell 1 _ rfl; have q3 := HM.out.bx.cell 2 _ rfl; have z0 := HM.out.bx.lt; clear hb)
    | (go_at_call 25; (with_reducible refine (HF.out _).mono ?_); rintro e w1 ⟨rfl, hb⟩; have HN := Lib.hid (HN0.out _ hb); have q1 := HN.out.bx.cell 0 _ rfl; have q2 := HN.out.bx.cell 1 _ rfl; have q3 := HN.out.bx.cell 2 _ rfl; have z0 := HN.out.bx.lt; clear hb))
  clear HK HK2 HF HN0 HN HM q1 q2 q3 z0
  go_loopw [21] (fun i wr => ∃ m : Nat, m ≤ 64 ∧ i = .int .i64 (m : Int) ∧ Hid (∀ j, j < m → savedB s j = true) ∧ Bx w wr [.slice A.p1 11 A.c1, .slice A.p2 512 A.c2, .slice (some ⟨b3', o3, none⟩) 64 A.c3]) (fun i _ => 64 - (intOf i).toNat)
  case atStart => exact ⟨0, Nat.zero_le _, rfl, Lib.hid (fun j hj => by omega), HL.out⟩
  case round =>
    clear HL
    obtain ⟨m, hm1, rfl, HL, hbx⟩ := hrel
    have HN := Lib.hid hbx
    have q1 := hbx.bx.cell 0 _ rfl
    have q2 := hbx.bx.cell 1 _ rfl
    have q3 := hbx.bx.cell 2 _ rfl
    have z0 := hbx.bx.lt
    clear hbx
    by_cases hm : m < 64
    · obtain ⟨b', off', hq, z1, e0, e1, e2, e3, e4, e5, e6, e7⟩ := HV.out m hm _ HN.out.low
      obtain ⟨rfl, rfl⟩ : b3' = b' ∧ o3 = off' := by rw [HP3.out] at hq; injection hq with hq; injection hq with h1 h2; exact ⟨h1, h2⟩
      clear hq
      have hv := HR.out m hm
      by_cases h0 : (rg s.saved m).kind = 0
      · have HK' : Hid (∀ j, j < m + 1 → savedB s j = true) := Lib.hid (fun j hj => by
          by_cases e : j = m
          · rw [e]; exact savedB_un hv h0
          · exact HL.out j (by omega))
        rw [h0] at e0
        clear hv h0
        generalize rg s.saved m = x at *
        go_wp2_with fail
        go_roundw
        case rel => exact ⟨m + 1, by omega, rfl, HK', HN.out.next b1⟩
        case measure => simp [intOf]; omega
      · have HS' := Lib.hid (HS.out m hm)
        have h9 : ¬ (rg s.saved m).kind = 0 := h0
        cases hw : setB s.set (8 * m) 8 with
        | true =>
          rw [hw] at HS'
          have HK' : Hid (∀ j, j < m + 1 → savedB s j = true) := Lib.hid (fun j hj => by
            by_cases e : j = m
            · rw [e, savedB_set hv h0]; exact hw
            · exact HL.out j (by omega))
          clear hv h0 hw
          generalize rg s.saved m = x at *
          go_wp2_with (first
            | (go_at_call 28; (with_reducible refine (HS'.out _ (HA.out _ (HN.out.next b1).low)).mono ?_); rintro e w4 ⟨rfl, hb⟩; have HT := Lib.hid ((HN.out.next b1).next hb); clear hb HN q1 q2 q3 z0))
          go_roundw
          case rel => exact ⟨m + 1, by omega, rfl, HK', HT.out⟩
          case measure => simp [intOf]; omega
        | false =>
          rw [hw] at HS'
          have HG := Lib.hid (HX2.out m hm (by rw [savedB_set hv h0]; exact hw))
          clear hv h0 hw
          generalize rg s.saved m = x at *
          go_wp2_with (first
            | (go_at_call 28; (with_reducible refine (HS'.out _ (HA.out _ (HN.out.next b1).low)).mono ?_); rintro e w4 ⟨rfl, hb⟩; have HT := Lib.hid ((HN.out.next b1).next hb); clear hb HN q1 q2 q3 z0))
          go_ret
          rw [HG.out]
          exact ⟨rfl, HT.out.low⟩
    · have HL64 : Hid (∀ j, j < 64 → savedB s j = true) := Lib.hid (fun j hj => HL.out j (by omega))
      have HG := Lib.hid (HQ.out HL64.out)
      go_wp2_with fail
      go_ret
      rw [HG.out]
      exact ⟨rfl, HN.out.low⟩
theorem scheck_any (A : AbA) (s : Ab) (w : World) (h : AbAt w A s) : Calls Try.prog 8 #[.agg #[.slice A.p1 s.regs.length A.c1, .slice A.p2 s.set.length A.c2, .slice A.p3 s.saved.length A.c3]] w fun e w' => e = .returned (.bool (checkS s)) ∧ Below w.heap.size w w' := by
  by_cases hn : s.regs.length = 11 ∧ s.set.length = 512 ∧ s.saved.length = 64
  · cases h1 : allB (fun i => right (rg s.regs i)) 11 with
    | false => exact scheck_no1 A s w h hn h1
    | true =>
      cases h2 : allB (fun i => right (rg s.saved i)) 64 with
      | false => exact scheck_no2 A s w h hn h1 h2
      | true => exact scheck_yes A s w h hn h1 h2
  · exact scheck_len A s hn w
end Go.Proofs.Ytdipmlamjjpcoaa

/- States: package state's Ready. -/
namespace Go.Proofs.Ytdipmlamjjpcoaa
open Go.RowKit
attribute [local go_sem] b_and b_or b_xor b_andNot b_low b_top b_most b_signed b_unsigned b_zero b_eq s_eq b_nzero b_neq s_neq b_max b_min s_max s_min
attribute [local go_sem ↓] Go.wp_at_zero Go.wp_at_succ

set_option maxRecDepth 100000 in
theorem srdy_any (A : AbA) (s : Ab) (low high : Int) (w : World) (h : AbAt w A s) : Calls Try.prog 21 #[.agg #[.slice A.p1 s.regs.length A.c1, .slice A.p2 s.set.length A.c2, .slice A.p3 s.saved.length A.c3], .int .i64 low, .int .i64 high] w fun e w' => e = .returned (.bool (readyS s low high)) ∧ Below w.heap.size w w' := by
  have HC := Lib.hid (fun (W : World) (hb : Below w.heap.size w W) => scheck_any A s W (h.below hb))
  have HN := Lib.hid (fun hp => ready_no (s := s) (low := low) (high := high) hp)
  have HX := Lib.hid (fun (hc : checkS s = false) => ready_check (s := s) (low := low) (high := high) hc)
  by_cases p1 : 0 ≤ low
  · by_cases p2 : low ≤ high
    · by_cases p3 : high ≤ 512
      · cases hc : checkS s with
        | false =>
          rw [hc] at HC
          have HG := Lib.hid (HX.out hc)
          generalize readyS s low high = g at *
          generalize s.regs.length = N1 at *
          generalize s.set.length = N2 at *
          generalize s.saved.length = N3 at *
          clear hc HN HX h
          go_enter Try.func21, Try.ntmps21
          go_wp2_with (go_at_call 8; (with_reducible refine (HC.out _ b1).mono ?_); rintro e w1 ⟨rfl, hb⟩; have B1 := Lib.hid (bl1 hb).1; clear hb)
          go_ret
          rw [HG.out]
          exact ⟨rfl, B1.out⟩
        | true =>
          rw [hc] at HC
          obtain ⟨l, rfl⟩ := Int.eq_ofNat_of_zero_le p1
          obtain ⟨k, rfl⟩ := Int.eq_ofNat_of_zero_le (Int.le_trans p1 p2)
          have n2 := (check_iff.1 hc).1.2.1
          rw [ready_yes hc (by omega) (by omega)]
          have HS := Lib.hid (fun (W : World) (hb : Below w.heap.size w W) => sset_any A s l k W (h.below hb) (by omega) (by omega) (by omega))
          generalize setB s.set l (k - l) = g at *
          have HB := Lib.hid (Bx.new w [.slice A.p1 s.regs.length A.c1, .slice A.p2 s.set.length A.c2, .slice A.p3 s.saved.length A.c3] 25)
          generalize s.regs.length = N1 at *
          generalize s.set.length = N2 at *
          generalize s.saved.length = N3 at *
          clear hc HN HX h n2 p1
          go_enter Try.func21, Try.ntmps21
          go_wp2_with (first
            | (go_at_call 28; (with_reducible refine (HS.out _ HN'.out.low).mono ?_); rintro e w2 ⟨rfl, hb⟩; have H2 := Lib.hid (HN'.out.next hb); clear hb)
            | (go_at_call 8; (with_reducible refine (HC.out _ b1).mono ?_); rintro e w1 ⟨rfl, hb⟩; have HN' := Lib.hid (HB.out.next hb); have q1 := HN'.out.bx.cell 0 _ rfl; have q2 := HN'.out.bx.cell 1 _ rfl; have q3 := HN'.out.bx.cell 2 _ rfl; have z0 := HN'.out.bx.lt; clear hb))
          go_ret
          exact ⟨rfl, H2.out.low⟩
      · have HG := Lib.hid (HN.out (fun h => p3 h.2.2))
        generalize readyS s low high = g at *
        generalize s.regs.length = N1 at *
        generalize s.set.length = N2 at *
        generalize s.saved.length = N3 at *
        clear HN HX HC h
        go_enter Try.func21, Try.ntmps21
        go_wp2_with fail
        go_ret
        rw [HG.out]
        exact ⟨rfl, b1⟩
    · have HG := Lib.hid (HN.out (fun h => p2 h.2.1))
      generalize readyS s low high = g at *
      generalize s.regs.length = N1 at *
      generalize s.set.length = N2 at *
      generalize s.saved.length = N3 at *
      clear HN HX HC h
      go_enter Try.func21, Try.ntmps21
      go_wp2_with fail
      go_ret
      rw [HG.out]
      exact ⟨rfl, b1⟩
  · have HG := Lib.hid (HN.out (fun h => p1 h.1))
    generalize readyS s low high = g at *
    generalize s.regs.length = N1 at *
    generalize s.set.length = N2 at *
    generalize s.saved.length = N3 at *
    clear HN HX HC h
    go_enter Try.func21, Try.ntmps21
    go_wp2_with fail
    go_ret
    rw [HG.out]
    exact ⟨rfl, b1⟩
end Go.Proofs.Ytdipmlamjjpcoaa

/- States: package state's Holds. -/
namespace Go.Proofs.Ytdipmlamjjpcoaa
open Go.RowKit
attribute [local go_sem] b_and b_or b_xor b_andNot b_low b_top b_most b_signed b_unsigned b_zero b_eq s_eq b_nzero b_neq s_neq b_max b_min s_max s_min
attribute [local go_sem ↓] Go.wp_at_zero Go.wp_at_succ

theorem sholds_0 (k : Int) (m : Bd) (r : Int) (x : B) (h1 : (k == 1) = false) (h2 : (k == 2) = false) (w : World) : Calls Try.prog 24 #[.agg #[.int .i64 k, .int .u64 (U m.ul), .int .u64 (U m.uh), .int .i64 (S m.sl), .int .i64 (S m.sh), .int .u64 (U m.t.v), .int .u64 (U m.t.m), .int .i64 r], .int .u64 (U x)] w fun e w' => e = .returned (.bool true) ∧ Below w.heap.size w w' := by
  go_enter Try.func24, Try.ntmps24
  go_wp2_with fail
  go_ret
  exact ⟨rfl, b1⟩
theorem sholds_1 (m : Bd) (r : Int) (x : B) (w : World) : Calls Try.prog 24 #[.agg #[.int .i64 1, .int .u64 (U m.ul), .int .u64 (U m.uh), .int .i64 (S m.sl), .int .i64 (S m.sh), .int .u64 (U m.t.v), .int .u64 (U m.t.m), .int .i64 r], .int .u64 (U x)] w fun e w' => e = .returned (.bool (bin m x)) ∧ Below w.heap.size w w' := by
  have HI := Lib.hid (fun W => bin_any m x W)
  generalize bin m x = g at *
  go_enter Try.func24, Try.ntmps24
  go_wp2_with (go_at_call 49; (with_reducible refine (HI.out _).mono ?_); rintro e w1 ⟨rfl, hb⟩; have B1 := Lib.hid (bl1 hb).1; clear hb)
  go_ret
  exact ⟨rfl, B1.out⟩
theorem addr_u (r : Int) : IntKind.u64.wrap (IntKind.u64.wrap (IntKind.u64.wrap r * 4294967296)) = U (BitVec.ofInt 64 r <<< 32) := by
  unfold U
  rw [IntKind.wrap_u64, IntKind.wrap_u64, IntKind.wrap_u64, BitVec.toNat_shiftLeft, BitVec.toNat_ofInt, Nat.shiftLeft_eq]
  omega
theorem sub_u (x y : B) : IntKind.u64.wrap (U x - U y) = U (x - y) := by
  unfold U
  rw [IntKind.wrap_u64, BitVec.toNat_sub]
  have := x.isLt
  have := y.isLt
  omega
theorem saddr_any (r : Int) (w : World) : Calls Try.prog 48 #[.int .i64 r, .int .i64 0] w fun e w' => e = .returned (.int .u64 (U (BitVec.ofInt 64 r <<< 32))) ∧ w = w' := by
  go_enter Try.func48, Try.ntmps48
  go_wp2_with fail
  go_ret
  rw [addr_u]
  exact ⟨rfl, rfl⟩
theorem sholds_2 (m : Bd) (r : Int) (x : B) (w : World) : Calls Try.prog 24 #[.agg #[.int .i64 2, .int .u64 (U m.ul), .int .u64 (U m.uh), .int .i64 (S m.sl), .int .i64 (S m.sh), .int .u64 (U m.t.v), .int .u64 (U m.t.m), .int .i64 r], .int .u64 (U x)] w fun e w' => e = .returned (.bool (bin m (offB r x))) ∧ Below w.heap.size w w' := by
  have HI := Lib.hid (fun W => bin_any m (offB r x) W)
  have HA := Lib.hid (fun W => saddr_any r W)
  have hy := sub_u x (BitVec.ofInt 64 r <<< 32)
  rw [show x - BitVec.ofInt 64 r <<< 32 = offB r x from rfl] at hy
  generalize offB r x = z at *
  generalize BitVec.ofInt 64 r <<< 32 = y at *
  generalize bin m z = g at *
  go_enter Try.func24, Try.ntmps24
  go_wp2_with (first
    | (go_at_call 48; (with_reducible refine (HA.out _).mono ?_); rintro e w1 ⟨rfl, rfl⟩)
    | (go_at_call 49; (with_reducible refine (HI.out _).mono ?_); rintro e w1 ⟨rfl, hb⟩; have B1 := Lib.hid (bl1 hb).1; clear hb))
  go_ret
  exact ⟨rfl, B1.out⟩
theorem sholds_any (k : Kn) (x : B) (w : World) : Calls Try.prog 24 #[.agg #[.int .i64 k.kind, .int .u64 (U k.num.ul), .int .u64 (U k.num.uh), .int .i64 (S k.num.sl), .int .i64 (S k.num.sh), .int .u64 (U k.num.t.v), .int .u64 (U k.num.t.m), .int .i64 k.reg], .int .u64 (U x)] w fun e w' => e = .returned (.bool (holdsK k x)) ∧ Below w.heap.size w w' := by
  obtain ⟨kd, m, r⟩ := k
  by_cases h1 : kd = 1
  · subst h1; exact sholds_1 m r x w
  by_cases h2 : kd = 2
  · subst h2; exact sholds_2 m r x w
  have e : holdsK ⟨kd, m, r⟩ x = true := by unfold holdsK; rw [if_neg h1, if_neg h2]
  rw [e]
  exact sholds_0 kd m r x (by simpa using h1) (by simpa using h2) w
end Go.Proofs.Ytdipmlamjjpcoaa

/- States: package state's pairs: what holds of each two that stand at the same place of two rows. -/
namespace Go.Proofs.Ytdipmlamjjpcoaa
open Go.RowKit
attribute [local go_sem] b_and b_or b_xor b_andNot b_low b_top b_most b_signed b_unsigned b_zero b_eq s_eq b_nzero b_neq s_neq b_max b_min s_max s_min
attribute [local go_sem ↓] Go.wp_at_zero Go.wp_at_succ

theorem k8_next {W W' : World} {b o : Nat} {x : Kn} (hl : b < W.heap.size) (hb : Below W.heap.size W W') (h : W.cell? ⟨b, o, none⟩ = some (.int .i64 x.kind) ∧ W.cell? ⟨b, o + 1, none⟩ = some (.int .u64 (U x.num.ul)) ∧ W.cell? ⟨b, o + 2, none⟩ = some (.int .u64 (U x.num.uh)) ∧ W.cell? ⟨b, o + 3, none⟩ = some (.int .i64 (S x.num.sl)) ∧ W.cell? ⟨b, o + 4, none⟩ = some (.int .i64 (S x.num.sh)) ∧ W.cell? ⟨b, o + 5, none⟩ = some (.int .u64 (U x.num.t.v)) ∧ W.cell? ⟨b, o + 6, none⟩ = some (.int .u64 (U x.num.t.m)) ∧ W.cell? ⟨b, o + 7, none⟩ = some (.int .i64 x.reg)) : W'.cell? ⟨b, o, none⟩ = some (.int .i64 x.kind) ∧ W'.cell? ⟨b, o + 1, none⟩ = some (.int .u64 (U x.num.ul)) ∧ W'.cell? ⟨b, o + 2, none⟩ = some (.int .u64 (U x.num.uh)) ∧ W'.cell? ⟨b, o + 3, none⟩ = some (.int .i64 (S x.num.sl)) ∧ W'.cell? ⟨b, o + 4, none⟩ = some (.int .i64 (S x.num.sh)) ∧ W'.cell? ⟨b, o + 5, none⟩ = some (.int .u64 (U x.num.t.v)) ∧ W'.cell? ⟨b, o + 6, none⟩ = some (.int .u64 (U x.num.t.m)) ∧ W'.cell? ⟨b, o + 7, none⟩ = some (.int .i64 x.reg) := by
  obtain ⟨h0, h1, h2, h3, h4, h5, h6, h7⟩ := h
  exact ⟨(hb.cell (p := ⟨b, o, none⟩) hl).trans h0, (hb.cell (p := ⟨b, o + 1, none⟩) hl).trans h1, (hb.cell (p := ⟨b, o + 2, none⟩) hl).trans h2, (hb.cell (p := ⟨b, o + 3, none⟩) hl).trans h3, (hb.cell (p := ⟨b, o + 4, none⟩) hl).trans h4, (hb.cell (p := ⟨b, o + 5, none⟩) hl).trans h5, (hb.cell (p := ⟨b, o + 6, none⟩) hl).trans h6, (hb.cell (p := ⟨b, o + 7, none⟩) hl).trans h7⟩
set_option maxRecDepth 100000 in
set_option maxHeartbeats 2000000 in
theorem spairsK_any (q1 q2 : Option Addr) (la lb : List Kn) (c1 c2 : Nat) (w : World) (h1 : KnAt w q1 la) (h2 : KnAt w q2 lb) (hn : la.length = lb.length) : Calls Try.prog 44 #[.slice q1 la.length c1, .slice q2 lb.length c2, .func (.func 45) #[] #[]] w fun e w' => e = .returned (.bool (allB (fun i => withinK (rg la i) (rg lb i)) la.length)) ∧ Below w.heap.size w w' := by
  have hs : la.length ≤ 140737488351232 := by have := h1.small; omega
  have HC1 := Lib.hid (fun (i : Nat) (hi : i < la.length) (W : World) (hb : Below w.heap.size w W) => (h1.below hb).cells i hi)
  have HC2 := Lib.hid (fun (i : Nat) (hi : i < la.length) (W : World) (hb : Below w.heap.size w W) => (h2.below hb).cells i (by omega))
  have HX := Lib.hid (fun (k : Nat) (h1 : k < la.length) (h2 : withinK (rg la k) (rg lb k) = false) => allB_false (p := fun i => withinK (rg la i) (rg lb i)) h1 h2)
  have HT := Lib.hid (fun (h : ∀ j, j < la.length → withinK (rg la j) (rg lb j) = true) => (allB_iff (p := fun i => withinK (rg la i) (rg lb i)) (n := la.length)).2 h)
  generalize allB (fun i => withinK (rg la i) (rg lb i)) la.length = g at *
  rw [← hn]
  obtain ⟨N, hN⟩ : ∃ N, la.length = N := ⟨_, rfl⟩
  rw [hN] at hs HC1 HC2 HX HT ⊢
  clear hN h1 h2 hn
  go_enter Try.func44, Try.ntmps44
  go_wp2
  go_loopw [10] (fun i wr => ∃ k : Nat, k ≤ N ∧ i = .int .i64 (k : Int) ∧ Hid (∀ j, j < k → withinK (rg la j) (rg lb j) = true) ∧ Below w.heap.size w wr) (fun i _ => N - (intOf i).toNat)
  case atStart => exact ⟨0, Nat.zero_le _, rfl, Lib.hid (fun j hj => by omega), Below.refl _ _⟩
  case round =>
    obtain ⟨k, hk1, rfl, HK, hbw⟩ := hrel
    have HW := Lib.hid hbw.drew
    by_cases hk : k < N
    · obtain ⟨b, off, rfl, hl1, e⟩ := HC1.out k hk _ hbw.drew
      obtain ⟨b', off', rfl, hl2, f⟩ := HC2.out k hk _ hbw.drew
      clear hbw
      have HM := Lib.hid (fun W => scov_any (rg la k) (rg lb k) W)
      have HK' : Hid (withinK (rg la k) (rg lb k) = true → ∀ j, j < k + 1 → withinK (rg la j) (rg lb j) = true) := Lib.hid (fun hv j hj => by
        by_cases e : j = k
        · rw [e]; exact hv
        · exact HK.out j (by omega))
      have HG := Lib.hid (HX.out k hk)
      generalize withinK (rg la k) (rg lb k) = v at *
      generalize rg la k = x at *
      generalize rg lb k = y at *
      have HE := Lib.hid (And.intro e f)
      go_wp2_with fail
      go_region_held3 (fun W => (W.cell? ⟨b, off + k * 8, none⟩ = some (.int .i64 x.kind) ∧ W.cell? ⟨b, off + k * 8 + 1, none⟩ = some (.int .u64 (U x.num.ul)) ∧ W.cell? ⟨b, off + k * 8 + 2, none⟩ = some (.int .u64 (U x.num.uh)) ∧ W.cell? ⟨b, off + k * 8 + 3, none⟩ = some (.int .i64 (S x.num.sl)) ∧ W.cell? ⟨b, off + k * 8 + 4, none⟩ = some (.int .i64 (S x.num.sh)) ∧ W.cell? ⟨b, off + k * 8 + 5, none⟩ = some (.int .u64 (U x.num.t.v)) ∧ W.cell? ⟨b, off + k * 8 + 6, none⟩ = some (.int .u64 (U x.num.t.m)) ∧ W.cell? ⟨b, off + k * 8 + 7, none⟩ = some (.int .i64 x.reg)) ∧ (W.cell? ⟨b', off' + k * 8, none⟩ = some (.int .i64 y.kind) ∧ W.cell? ⟨b', off' + k * 8 + 1, none⟩ = some (.int .u64 (U y.num.ul)) ∧ W.cell? ⟨b', off' + k * 8 + 2, none⟩ = some (.int .u64 (U y.num.uh)) ∧ W.cell? ⟨b', off' + k * 8 + 3, none⟩ = some (.int .i64 (S y.num.sl)) ∧ W.cell? ⟨b', off' + k * 8 + 4, none⟩ = some (.int .i64 (S y.num.sh)) ∧ W.cell? ⟨b', off' + k * 8 + 5, none⟩ = some (.int .u64 (U y.num.t.v)) ∧ W.cell? ⟨b', off' + k * 8 + 6, none⟩ = some (.int .u64 (U y.num.t.m)) ∧ W.cell? ⟨b', off' + k * 8 + 7, none⟩ = some (.int .i64 y.reg)))
        (first | with_reducible exact HE.out | with_reducible exact HE2.out)
        (first | (go_at_call 45; (with_reducible refine (HM.out _).mono ?_); rintro e w1 ⟨rfl, hb⟩; have B1 := Lib.hid (bnext HW.out hb); have HE2 := Lib.hid (And.intro (k8_next hl1 hb HE.out.1) (k8_next hl2 hb HE.out.2)); clear hb))
      cases v with
      | true =>
        have HK2 := Lib.hid (HK'.out rfl)
        go_wp2_with fail
        go_roundw
        case rel => exact ⟨k + 1, by omega, rfl, HK2, B1.out⟩
        case measure => simp [intOf]; omega
      | false =>
        have HG2 := Lib.hid (HG.out rfl)
        go_wp2_with fail
        go_ret
        rw [HG2.out]
        exact ⟨rfl, B1.out⟩
    · have HG := Lib.hid (HT.out (fun j hj => HK.out j (by omega)))
      have HD := Lib.hid hbw
      clear hbw
      obtain rfl : k = N := by omega
      go_wp2
      go_ret
      rw [HG.out]
      exact ⟨rfl, HD.out⟩
set_option maxRecDepth 100000 in
set_option maxHeartbeats 2000000 in
theorem spairsB_any (q1 q2 : Option Addr) (la lb : List Bool) (c1 c2 : Nat) (w : World) (h1 : BoolsAt w q1 la) (h2 : BoolsAt w q2 lb) (hn : la.length = lb.length) : Calls Try.prog 46 #[.slice q1 la.length c1, .slice q2 lb.length c2, .func (.func 47) #[] #[]] w fun e w' => e = .returned (.bool (allB (fun i => (!st la i || st lb i)) la.length)) ∧ Below w.heap.size w w' := by
  have hs : la.length ≤ 140737488351232 := by exact h1.small
  have HC1 := Lib.hid (fun (i : Nat) (hi : i < la.length) (W : World) (hb : Below w.heap.size w W) => (h1.below hb).cells i hi)
  have HC2 := Lib.hid (fun (i : Nat) (hi : i < la.length) (W : World) (hb : Below w.heap.size w W) => (h2.below hb).cells i (by omega))
  have HX := Lib.hid (fun (k : Nat) (h1 : k < la.length) (h2 : (!st la k || st lb k) = false) => allB_false (p := fun i => (!st la i || st lb i)) h1 h2)
  have HT := Lib.hid (fun (h : ∀ j, j < la.length → (!st la j || st lb j) = true) => (allB_iff (p := fun i => (!st la i || st lb i)) (n := la.length)).2 h)
  generalize allB (fun i => (!st la i || st lb i)) la.length = g at *
  rw [← hn]
  obtain ⟨N, hN⟩ : ∃ N, la.length = N := ⟨_, rfl⟩
  rw [hN] at hs HC1 HC2 HX HT ⊢
  clear hN h1 h2 hn
  go_enter Try.func46, Try.ntmps46
  go_wp2
  go_loopw [10] (fun i wr => ∃ k : Nat, k ≤ N ∧ i = .int .i64 (k : Int) ∧ Hid (∀ j, j < k → (!st la j || st lb j) = true) ∧ Below w.heap.size w wr) (fun i _ => N - (intOf i).toNat)
  case atStart => exact ⟨0, Nat.zero_le _, rfl, Lib.hid (fun j hj => by omega), Below.refl _ _⟩
  case round =>
    obtain ⟨k, hk1, rfl, HK, hbw⟩ := hrel
    have HW := Lib.hid hbw.drew
    by_cases hk : k < N
    · obtain ⟨b, off, rfl, hl1, e⟩ := HC1.out k hk _ hbw.drew
      obtain ⟨b', off', rfl, hl2, f⟩ := HC2.out k hk _ hbw.drew
      clear hbw
      have HM := Lib.hid (fun W => sarr_any (st la k) (st lb k) W)
      have HK' : Hid ((!st la k || st lb k) = true → ∀ j, j < k + 1 → (!st la j || st lb j) = true) := Lib.hid (fun hv j hj => by
        by_cases e : j = k
        · rw [e]; exact hv
        · exact HK.out j (by omega))
      have HG := Lib.hid (HX.out k hk)
      generalize (!st la k || st lb k) = v at *
      generalize st la k = x at *
      generalize st lb k = y at *
      have HE := Lib.hid (And.intro e f)
      go_wp2_with fail
      go_region_held3 (fun W => W.cell? ⟨b, off + k, none⟩ = some (.bool x) ∧ W.cell? ⟨b', off' + k, none⟩ = some (.bool y))
        (first | with_reducible exact HE.out | with_reducible exact HE2.out)
        (first | (go_at_call 47; (with_reducible refine (HM.out _).mono ?_); rintro e w1 ⟨rfl, hb⟩; have B1 := Lib.hid (bnext HW.out hb); have HE2 := Lib.hid (And.intro ((hb.cell (p := ⟨b, off + k, none⟩) hl1).trans HE.out.1) ((hb.cell (p := ⟨b', off' + k, none⟩) hl2).trans HE.out.2)); clear hb))
      cases v with
      | true =>
        have HK2 := Lib.hid (HK'.out rfl)
        go_wp2_with fail
        go_roundw
        case rel => exact ⟨k + 1, by omega, rfl, HK2, B1.out⟩
        case measure => simp [intOf]; omega
      | false =>
        have HG2 := Lib.hid (HG.out rfl)
        go_wp2_with fail
        go_ret
        rw [HG2.out]
        exact ⟨rfl, B1.out⟩
    · have HG := Lib.hid (HT.out (fun j hj => HK.out j (by omega)))
      have HD := Lib.hid hbw
      clear hbw
      obtain rfl : k = N := by omega
      go_wp2
      go_ret
      rw [HG.out]
      exact ⟨rfl, HD.out⟩
end Go.Proofs.Ytdipmlamjjpcoaa

/- States: package state's Within. -/
namespace Go.Proofs.Ytdipmlamjjpcoaa
open Go.RowKit
attribute [local go_sem] b_and b_or b_xor b_andNot b_low b_top b_most b_signed b_unsigned b_zero b_eq s_eq b_nzero b_neq s_neq b_max b_min s_max s_min
attribute [local go_sem ↓] Go.wp_at_zero Go.wp_at_succ

theorem within_bools (a b : Ab) : withinS a b = (allB (fun i => withinK (rg a.regs i) (rg b.regs i)) 11 && (allB (fun i => !st a.set i || st b.set i) 512 && (allB (fun i => withinK (rg a.saved i) (rg b.saved i)) 64 && (checkS a && checkS b)))) := by
  unfold withinS
  generalize checkS a = x
  generalize checkS b = y
  generalize allB (fun i => withinK (rg a.regs i) (rg b.regs i)) 11 = z
  generalize allB (fun i => !st a.set i || st b.set i) 512 = u
  generalize allB (fun i => withinK (rg a.saved i) (rg b.saved i)) 64 = v
  cases x <;> cases y <;> cases z <;> cases u <;> cases v <;> rfl
theorem B2.next {w W W' : World} {A B : AbA} {N1 N2 N3 : Nat} (h : B2 w W A B N1 N2 N3) (hb : Below W.heap.size W W') : B2 w W' A B N1 N2 N3 := ⟨bnext h.low hb, h.b0.next hb, h.b1.next hb⟩
/-- two states of whatever length in their boxes -/
theorem below_two {w W : World} {o1 o2 : Obj} (hb : Below ((w.alloc o1).alloc o2).heap.size ((w.alloc o1).alloc o2) W) : Below w.heap.size w W := (bl2 hb).1
theorem swithin_a (A B : AbA) (s t : Ab) (w : World) (hn : ¬ (s.regs.length = 11 ∧ s.set.length = 512 ∧ s.saved.length = 64)) : Calls Try.prog 23 #[.agg #[.slice A.p1 s.regs.length A.c1, .slice A.p2 s.set.length A.c2, .slice A.p3 s.saved.length A.c3], .agg #[.slice B.p1 t.regs.length B.c1, .slice B.p2 t.set.length B.c2, .slice B.p3 t.saved.length B.c3]] w fun e w' => e = .returned (.bool (withinS s t)) ∧ Below w.heap.size w w' := by
  rw [show withinS s t = false by unfold withinS; rw [check_no hn]; rfl]
  have HF := Lib.hid (fun W => sfull_any A s.regs.length s.set.length s.saved.length W)
  rw [decide_eq_false hn] at HF
  clear hn
  generalize s.set.length = N2 at *
  generalize s.regs.length = N1 at *
  generalize s.saved.length = N3 at *
  generalize t.set.length = M2 at *
  generalize t.regs.length = M1 at *
  generalize t.saved.length = M3 at *
  go_enter Try.func23, Try.ntmps23
  go_wp2_with (go_at_call 25; (with_reducible refine (HF.out _).mono ?_); rintro e w1 ⟨rfl, hb⟩; have B1 := Lib.hid (bl2 hb).1; clear hb)
  go_ret
  exact ⟨rfl, B1.out⟩
set_option maxRecDepth 100000 in
theorem swithin_b (A B : AbA) (s t : Ab) (w : World) (hm : s.regs.length = 11 ∧ s.set.length = 512 ∧ s.saved.length = 64) (hn : ¬ (t.regs.length = 11 ∧ t.set.length = 512 ∧ t.saved.length = 64)) : Calls Try.prog 23 #[.agg #[.slice A.p1 s.regs.length A.c1, .slice A.p2 s.set.length A.c2, .slice A.p3 s.saved.length A.c3], .agg #[.slice B.p1 t.regs.length B.c1, .slice B.p2 t.set.length B.c2, .slice B.p3 t.saved.length B.c3]] w fun e w' => e = .returned (.bool (withinS s t)) ∧ Below w.heap.size w w' := by
  rw [show withinS s t = false by unfold withinS; rw [check_no hn]; cases checkS s <;> rfl]
  have HF := Lib.hid (fun W => sfull_any A 11 512 64 W)
  rw [decide_eq_true ⟨rfl, rfl, rfl⟩] at HF
  have HG := Lib.hid (fun W => sfull_any B t.regs.length t.set.length t.saved.length W)
  rw [decide_eq_false hn] at HG
  obtain ⟨n1, n2, n3⟩ := hm
  rw [n1, n2, n3]
  clear hn n1 n2 n3
  generalize t.set.length = M2 at *
  generalize t.regs.length = M1 at *
  generalize t.saved.length = M3 at *
  have HX := Lib.hid ((Box.new (w.alloc (.cells #[.slice A.p1 11 A.c1, .slice A.p2 512 A.c2, .slice A.p3 64 A.c3] 25)) [.slice B.p1 M1 B.c1, .slice B.p2 M2 B.c2, .slice B.p3 M3 B.c3] 25 (World.size_alloc _ _)))
  go_enter Try.func23, Try.ntmps23
  go_wp2_with (first
    | (go_at_call 25; (with_reducible refine (HG.out _).mono ?_); rintro e w2 ⟨rfl, hb⟩; have B2 := Lib.hid (bnext B1.out.1 hb); clear hb)
    | (go_at_call 25; (with_reducible refine (HF.out _).mono ?_); rintro e w1 ⟨rfl, hb⟩; have B1 := Lib.hid (bl2 hb); have q := (HX.out.next hb).three; clear hb))
  go_ret
  exact ⟨rfl, B2.out⟩
set_option maxRecDepth 100000 in
set_option maxHeartbeats 4000000 in
theorem swithin_any (A B : AbA) (s t : Ab) (w : World) (h1 : AbAt w A s) (h2 : AbAt w B t) : Calls Try.prog 23 #[.agg #[.slice A.p1 s.regs.length A.c1, .slice A.p2 s.set.length A.c2, .slice A.p3 s.saved.length A.c3], .agg #[.slice B.p1 t.regs.length B.c1, .slice B.p2 t.set.length B.c2, .slice B.p3 t.saved.length B.c3]] w fun e w' => e = .returned (.bool (withinS s t)) ∧ Below w.heap.size w w' := by
  by_cases hm : s.regs.length = 11 ∧ s.set.length = 512 ∧ s.saved.length = 64
  case neg => exact swithin_a A B s t w hm
  by_cases hn : t.regs.length = 11 ∧ t.set.length = 512 ∧ t.saved.length = 64
  case neg => exact swithin_b A B s t w hm hn
  have HFA := Lib.hid (fun (W : World) (_ : Below w.heap.size w W) => sfull_any A 11 512 64 W)
  have HFB := Lib.hid (fun (W : World) (_ : Below w.heap.size w W) => sfull_any B 11 512 64 W)
  rw [decide_eq_true ⟨rfl, rfl, rfl⟩] at HFA HFB
  obtain ⟨n1, n2, n3⟩ := hm
  obtain ⟨m1, m2, m3⟩ := hn
  have hr := fun (W : World) (hb : Below w.heap.size w W) => spairsK_any A.p1 B.p1 s.regs t.regs A.c1 B.c1 W (h1.below hb).r (h2.below hb).r (n1.trans m1.symm)
  have hs := fun (W : World) (hb : Below w.heap.size w W) => spairsB_any A.p2 B.p2 s.set t.set A.c2 B.c2 W (h1.below hb).b (h2.below hb).b (n2.trans m2.symm)
  have hv := fun (W : World) (hb : Below w.heap.size w W) => spairsK_any A.p3 B.p3 s.saved t.saved A.c3 B.c3 W (h1.below hb).v (h2.below hb).v (n3.trans m3.symm)
  have ha := fun (W : World) (hb : Below w.heap.size w W) => scheck_any A s W (h1.below hb)
  have hc := fun (W : World) (hb : Below w.heap.size w W) => scheck_any B t W (h2.below hb)
  rw [n1, m1] at hr
  rw [n2, m2] at hs
  rw [n3, m3] at hv
  rw [n1, n2, n3] at ha
  rw [m1, m2, m3] at hc
  have HR := Lib.hid hr
  have HS := Lib.hid hs
  have HV := Lib.hid hv
  have HCA := Lib.hid ha
  have HCB := Lib.hid hc
  rw [within_bools, n1, n2, n3, m1, m2, m3]
  clear hr hs hv ha hc n1 n2 n3 m1 m2 m3 h1 h2
  generalize allB (fun i => withinK (rg s.regs i) (rg t.regs i)) 11 = gr at *
  generalize allB (fun i => !st s.set i || st t.set i) 512 = gs at *
  generalize allB (fun i => withinK (rg s.saved i) (rg t.saved i)) 64 = gv at *
  generalize checkS s = ca at *
  generalize checkS t = cb at *
  have HN := Lib.hid (B2.new w A B 11 512 64 25 25)
  have F := HN.out.f
  cases gr with
  | false =>
    simp only [Bool.false_and]
    go_enter Try.func23, Try.ntmps23
    go_wp2_with (first
        | (go_at_call 25; (with_reducible refine (HFA.out _ HN.out.low).mono ?_); rintro e w9 ⟨rfl, hb⟩; have H' := Lib.hid (HN.out.next hb); clear hb HN F; have HN := H'; clear H'; have F := HN.out.f)
        | (go_at_call 25; (with_reducible refine (HFB.out _ HN.out.low).mono ?_); rintro e w9 ⟨rfl, hb⟩; have H' := Lib.hid (HN.out.next hb); clear hb HN F; have HN := H'; clear H'; have F := HN.out.f)
        | (go_at_call 44; (with_reducible refine (HR.out _ HN.out.low).mono ?_); rintro e w9 ⟨rfl, hb⟩; have H' := Lib.hid (HN.out.next hb); clear hb HN F; have HN := H'; clear H'; have F := HN.out.f)
        | (go_at_call 46; (with_reducible refine (HS.out _ HN.out.low).mono ?_); rintro e w9 ⟨rfl, hb⟩; have H' := Lib.hid (HN.out.next hb); clear hb HN F; have HN := H'; clear H'; have F := HN.out.f)
        | (go_at_call 44; (with_reducible refine (HV.out _ HN.out.low).mono ?_); rintro e w9 ⟨rfl, hb⟩; have H' := Lib.hid (HN.out.next hb); clear hb HN F; have HN := H'; clear H'; have F := HN.out.f)
        | (go_at_call 8; (with_reducible refine (HCA.out _ HN.out.low).mono ?_); rintro e w9 ⟨rfl, hb⟩; have H' := Lib.hid (HN.out.next hb); clear hb HN F; have HN := H'; clear H'; have F := HN.out.f)
        | (go_at_call 8; (with_reducible refine (HCB.out _ HN.out.low).mono ?_); rintro e w9 ⟨rfl, hb⟩; have H' := Lib.hid (HN.out.next hb); clear hb HN F; have HN := H'; clear H'; have F := HN.out.f))
    go_ret
    exact ⟨rfl, HN.out.low⟩
  | true =>
    cases gs with
    | false =>
      simp only [Bool.false_and, Bool.true_and]
      go_enter Try.func23, Try.ntmps23
      go_wp2_with (first
          | (go_at_call 25; (with_reducible refine (HFA.out _ HN.out.low).mono ?_); rintro e w9 ⟨rfl, hb⟩; have H' := Lib.hid (HN.out.next hb); clear hb HN F; have HN := H'; clear H'; have F := HN.out.f)
          | (go_at_call 25; (with_reducible refine (HFB.out _ HN.out.low).mono ?_); rintro e w9 ⟨rfl, hb⟩; have H' := Lib.hid (HN.out.next hb); clear hb HN F; have HN := H'; clear H'; have F := HN.out.f)
          | (go_at_call 44; (with_reducible refine (HR.out _ HN.out.low).mono ?_); rintro e w9 ⟨rfl, hb⟩; have H' := Lib.hid (HN.out.next hb); clear hb HN F; have HN := H'; clear H'; have F := HN.out.f)
          | (go_at_call 46; (with_reducible refine (HS.out _ HN.out.low).mono ?_); rintro e w9 ⟨rfl, hb⟩; have H' := Lib.hid (HN.out.next hb); clear hb HN F; have HN := H'; clear H'; have F := HN.out.f)
          | (go_at_call 44; (with_reducible refine (HV.out _ HN.out.low).mono ?_); rintro e w9 ⟨rfl, hb⟩; have H' := Lib.hid (HN.out.next hb); clear hb HN F; have HN := H'; clear H'; have F := HN.out.f)
          | (go_at_call 8; (with_reducible refine (HCA.out _ HN.out.low).mono ?_); rintro e w9 ⟨rfl, hb⟩; have H' := Lib.hid (HN.out.next hb); clear hb HN F; have HN := H'; clear H'; have F := HN.out.f)
          | (go_at_call 8; (with_reducible refine (HCB.out _ HN.out.low).mono ?_); rintro e w9 ⟨rfl, hb⟩; have H' := Lib.hid (HN.out.next hb); clear hb HN F; have HN := H'; clear H'; have F := HN.out.f))
      go_ret
      exact ⟨rfl, HN.out.low⟩
    | true =>
      cases gv with
      | false =>
        simp only [Bool.false_and, Bool.true_and]
        go_enter Try.func23, Try.ntmps23
        go_wp2_with (first
            | (go_at_call 25; (with_reducible refine (HFA.out _ HN.out.low).mono ?_); rintro e w9 ⟨rfl, hb⟩; have H' := Lib.hid (HN.out.next hb); clear hb HN F; have HN := H'; clear H'; have F := HN.out.f)
            | (go_at_call 25; (with_reducible refine (HFB.out _ HN.out.low).mono ?_); rintro e w9 ⟨rfl, hb⟩; have H' := Lib.hid (HN.out.next hb); clear hb HN F; have HN := H'; clear H'; have F := HN.out.f)
            | (go_at_call 44; (with_reducible refine (HR.out _ HN.out.low).mono ?_); rintro e w9 ⟨rfl, hb⟩; have H' := Lib.hid (HN.out.next hb); clear hb HN F; have HN := H'; clear H'; have F := HN.out.f)
            | (go_at_call 46; (with_reducible refine (HS.out _ HN.out.low).mono ?_); rintro e w9 ⟨rfl, hb⟩; have H' := Lib.hid (HN.out.next hb); clear hb HN F; have HN := H'; clear H'; have F := HN.out.f)
            | (go_at_call 44; (with_reducible refine (HV.out _ HN.out.low).mono ?_); rintro e w9 ⟨rfl, hb⟩; have H' := Lib.hid (HN.out.next hb); clear hb HN F; have HN := H'; clear H'; have F := HN.out.f)
            | (go_at_call 8; (with_reducible refine (HCA.out _ HN.out.low).mono ?_); rintro e w9 ⟨rfl, hb⟩; have H' := Lib.hid (HN.out.next hb); clear hb HN F; have HN := H'; clear H'; have F := HN.out.f)
            | (go_at_call 8; (with_reducible refine (HCB.out _ HN.out.low).mono ?_); rintro e w9 ⟨rfl, hb⟩; have H' := Lib.hid (HN.out.next hb); clear hb HN F; have HN := H'; clear H'; have F := HN.out.f))
        go_ret
        exact ⟨rfl, HN.out.low⟩
      | true =>
        cases ca with
        | false =>
          simp only [Bool.false_and, Bool.true_and]
          go_enter Try.func23, Try.ntmps23
          go_wp2_with (first
              | (go_at_call 25; (with_reducible refine (HFA.out _ HN.out.low).mono ?_); rintro e w9 ⟨rfl, hb⟩; have H' := Lib.hid (HN.out.next hb); clear hb HN F; have HN := H'; clear H'; have F := HN.out.f)
              | (go_at_call 25; (with_reducible refine (HFB.out _ HN.out.low).mono ?_); rintro e w9 ⟨rfl, hb⟩; have H' := Lib.hid (HN.out.next hb); clear hb HN F; have HN := H'; clear H'; have F := HN.out.f)
              | (go_at_call 44; (with_reducible refine (HR.out _ HN.out.low).mono ?_); rintro e w9 ⟨rfl, hb⟩; have H' := Lib.hid (HN.out.next hb); clear hb HN F; have HN := H'; clear H'; have F := HN.out.f)
              | (go_at_call 46; (with_reducible refine (HS.out _ HN.out.low).mono ?_); rintro e w9 ⟨rfl, hb⟩; have H' := Lib.hid (HN.out.next hb); clear hb HN F; have HN := H'; clear H'; have F := HN.out.f)
              | (go_at_call 44; (with_reducible refine (HV.out _ HN.out.low).mono ?_); rintro e w9 ⟨rfl, hb⟩; have H' := Lib.hid (HN.out.next hb); clear hb HN F; have HN := H'; clear H'; have F := HN.out.f)
              | (go_at_call 8; (with_reducible refine (HCA.out _ HN.out.low).mono ?_); rintro e w9 ⟨rfl, hb⟩; have H' := Lib.hid (HN.out.next hb); clear hb HN F; have HN := H'; clear H'; have F := HN.out.f)
              | (go_at_call 8; (with_reducible refine (HCB.out _ HN.out.low).mono ?_); rintro e w9 ⟨rfl, hb⟩; have H' := Lib.hid (HN.out.next hb); clear hb HN F; have HN := H'; clear H'; have F := HN.out.f))
          go_ret
          exact ⟨rfl, HN.out.low⟩
        | true =>
          cases cb with
          | false =>
            simp only [Bool.true_and]
            go_enter Try.func23, Try.ntmps23
            go_wp2_with (first
                | (go_at_call 25; (with_reducible refine (HFA.out _ HN.out.low).mono ?_); rintro e w9 ⟨rfl, hb⟩; have H' := Lib.hid (HN.out.next hb); clear hb HN F; have HN := H'; clear H'; have F := HN.out.f)
                | (go_at_call 25; (with_reducible refine (HFB.out _ HN.out.low).mono ?_); rintro e w9 ⟨rfl, hb⟩; have H' := Lib.hid (HN.out.next hb); clear hb HN F; have HN := H'; clear H'; have F := HN.out.f)
                | (go_at_call 44; (with_reducible refine (HR.out _ HN.out.low).mono ?_); rintro e w9 ⟨rfl, hb⟩; have H' := Lib.hid (HN.out.next hb); clear hb HN F; have HN := H'; clear H'; have F := HN.out.f)
                | (go_at_call 46; (with_reducible refine (HS.out _ HN.out.low).mono ?_); rintro e w9 ⟨rfl, hb⟩; have H' := Lib.hid (HN.out.next hb); clear hb HN F; have HN := H'; clear H'; have F := HN.out.f)
                | (go_at_call 44; (with_reducible refine (HV.out _ HN.out.low).mono ?_); rintro e w9 ⟨rfl, hb⟩; have H' := Lib.hid (HN.out.next hb); clear hb HN F; have HN := H'; clear H'; have F := HN.out.f)
                | (go_at_call 8; (with_reducible refine (HCA.out _ HN.out.low).mono ?_); rintro e w9 ⟨rfl, hb⟩; have H' := Lib.hid (HN.out.next hb); clear hb HN F; have HN := H'; clear H'; have F := HN.out.f)
                | (go_at_call 8; (with_reducible refine (HCB.out _ HN.out.low).mono ?_); rintro e w9 ⟨rfl, hb⟩; have H' := Lib.hid (HN.out.next hb); clear hb HN F; have HN := H'; clear H'; have F := HN.out.f))
            go_ret
            exact ⟨rfl, HN.out.low⟩
          | true =>
            simp only [Bool.true_and]
            go_enter Try.func23, Try.ntmps23
            go_wp2_with (first
                | (go_at_call 25; (with_reducible refine (HFA.out _ HN.out.low).mono ?_); rintro e w9 ⟨rfl, hb⟩; have H' := Lib.hid (HN.out.next hb); clear hb HN F; have HN := H'; clear H'; have F := HN.out.f)
                | (go_at_call 25; (with_reducible refine (HFB.out _ HN.out.low).mono ?_); rintro e w9 ⟨rfl, hb⟩; have H' := Lib.hid (HN.out.next hb); clear hb HN F; have HN := H'; clear H'; have F := HN.out.f)
                | (go_at_call 44; (with_reducible refine (HR.out _ HN.out.low).mono ?_); rintro e w9 ⟨rfl, hb⟩; have H' := Lib.hid (HN.out.next hb); clear hb HN F; have HN := H'; clear H'; have F := HN.out.f)
                | (go_at_call 46; (with_reducible refine (HS.out _ HN.out.low).mono ?_); rintro e w9 ⟨rfl, hb⟩; have H' := Lib.hid (HN.out.next hb); clear hb HN F; have HN := H'; clear H'; have F := HN.out.f)
                | (go_at_call 44; (with_reducible refine (HV.out _ HN.out.low).mono ?_); rintro e w9 ⟨rfl, hb⟩; have H' := Lib.hid (HN.out.next hb); clear hb HN F; have HN := H'; clear H'; have F := HN.out.f)
                | (go_at_call 8; (with_reducible refine (HCA.out _ HN.out.low).mono ?_); rintro e w9 ⟨rfl, hb⟩; have H' := Lib.hid (HN.out.next hb); clear hb HN F; have HN := H'; clear H'; have F := HN.out.f)
                | (go_at_call 8; (with_reducible refine (HCB.out _ HN.out.low).mono ?_); rintro e w9 ⟨rfl, hb⟩; have H' := Lib.hid (HN.out.next hb); clear hb HN F; have HN := H'; clear H'; have F := HN.out.f))
            go_ret
            exact ⟨rfl, HN.out.low⟩
end Go.Proofs.Ytdipmlamjjpcoaa
