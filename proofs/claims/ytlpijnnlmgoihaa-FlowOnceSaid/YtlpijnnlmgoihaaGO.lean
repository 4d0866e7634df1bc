/- Flow: the law that each instruction is in just one block. -/
import Derived.Test.YtlpijnnlmgoihaaGH
import Derived.Deep.QuietTactic
namespace Go.Proofs.Ytlpijnnlmgoihaa
open Go.RowKit M

set_option maxRecDepth 100000 in
theorem once_no (q : Option Addr) (qc : Nat) (l : List In) (w : World) (h : InsAt w q l) (hc : ((checkS l).2 == 0) = false) : Calls Try.prog 4 #[.slice q l.length qc] w fun e w' => e = .returned (.bool true) ∧ Below w.heap.size w w' := by
  have hc' : ¬ (checkS l).2 = 0 := by simpa using hc
  have hb0 := fun (W : World) (hb : Below w.heap.size w W) => sblocks_any q qc l W (h.below hb)
  have hr0 := fun (W : World) (hb : Below w.heap.size w W) => sreach_any q qc l W (h.below hb)
  rw [blocks_no hc'] at hb0
  rw [reachI_no hc'] at hr0
  have HB := Lib.hid hb0
  have HR := Lib.hid hr0
  have hs := h.small
  clear h hc' hb0 hr0
  generalize (checkS l).2 = x at *
  generalize l.length = N at *
  go_enter Try.func4, Try.ntmps4
  go_wp2_with (first
    | (go_at_call 7; (with_reducible refine (HB.out _ (Below.refl _ _)).mono ?_); rintro e w1 ⟨p, c, rfl, _, hb⟩; have B1 := Lib.hid hb; clear hb)
    | (go_at_call 11; (with_reducible refine (HR.out _ B1.out).mono ?_); rintro e w2 ⟨p2, c2, rfl, _, hb⟩; have B2 := Lib.hid (B1.out.trans (hb.mono B1.out.size)); clear hb)
    | (go_at_call 15; (with_reducible refine (heads14_any _).mono ?_); rintro e w3 ⟨rfl, hb⟩; have B3 := Lib.hid (B2.out.trans (hb.mono B2.out.size)); clear hb))
  go_ret
  exact ⟨rfl, B3.out⟩
/-- what FlowOnce asks -/
structure On4 (l : List In) (n R : Nat) (fr to rr : Nat → Nat) (cn : Nat → Nat → Nat) (fo : Nat → Nat → Bool) : Prop where
  len : (blocksL l).length = n
  lenR : (reachI l).length = R
  blk : ∀ k, k < n → (bk (blocksL l) k).fr = (fr k : Int) ∧ (bk (blocksL l) k).to = (to k : Int)
  rch : ∀ i, i < R → (reachI l).getD i 0 = (rr i : Int)
  cn0 : ∀ x, cn x 0 = 0
  cn1 : ∀ x k, cn x (k + 1) = cn x k + (if fr k ≤ x ∧ x < to k then 1 else 0)
  cnl : ∀ x k, cn x k ≤ k
  cne : ∀ i, i < R → cn (rr i) n = 1
  srt : ∀ i, i < R → 0 < i → rr (i - 1) < rr i
  fo0 : ∀ k, fo k 0 = false
  fo1 : ∀ k j, fo k (j + 1) = (fo k j || decide (rr j = fr k))
  foe : ∀ k, k < n → fo k R = true
  beh : ∀ k, k < n → 0 < k → to (k - 1) ≤ fr k
  pos : 0 < R
  big : n ≤ 4096 ∧ R ≤ 4096
def foB (rr : Nat → Nat) (f : Nat) : Nat → Bool
  | 0 => false
  | j + 1 => foB rr f j || decide (rr j = f)
theorem foB_true {rr : Nat → Nat} {f : Nat} : ∀ {n i : Nat}, i < n → rr i = f → foB rr f n = true
  | 0, i, h, _ => absurd h (Nat.not_lt_zero _)
  | n + 1, i, h, e => by
    unfold foB
    by_cases c : i = n
    · subst c; rw [decide_eq_true e, Bool.or_true]
    · rw [foB_true (by omega) e, Bool.true_or]
theorem on4 {l : List In} (hc : (checkS l).2 = 0) : ∃ n R fr to rr cn fo, On4 l n R fr to rr cn fo := by
  have hG := check_flow hc
  have hlen : (reachI l).length = (gOf l).reach.length := by rw [reachI_ok hc, List.length_map]
  have hN : (gOf l).reach.length ≤ 4096 := by
    have h2 : (gOf l).reach.length ≤ (List.range (gOf l).N).length := List.length_filter_le _ _
    rw [List.length_range] at h2
    have h3 : (gOf l).N ≤ 4096 := (check_ok hc).1
    omega
  have hn : (gOf l).n ≤ (gOf l).reach.length := List.length_filter_le _ _
  have hR : ∀ i, i < (gOf l).reach.length → (gOf l).R ((gOf l).reach.getD i 0) := fun i hi => (Fl.Fg.mem_reach hG).1 (Fl.getD_mem hi)
  refine ⟨(gOf l).n, (gOf l).reach.length, (gOf l).fr, fun k => (gOf l).to ((gOf l).fr k), fun i => (gOf l).reach.getD i 0, (gOf l).cnt, fun k => foB (fun i => (gOf l).reach.getD i 0) ((gOf l).fr k), ?_⟩
  exact {
    len := blocks_len hc
    lenR := hlen
    blk := fun k hk => by rw [blocks_at hc hk]; exact ⟨rfl, rfl⟩
    rch := fun i hi => by
      rw [reachI_ok hc, List.getD_eq_getElem?_getD, List.getElem?_map, List.getD_eq_getElem?_getD, List.getElem?_eq_getElem hi]
      rfl
    cn0 := Fl.Fg.cnt_zero
    cn1 := fun x k => by
      rw [Fl.Fg.cnt_succ]
      congr 1
      simp only [Fl.Fg.inB_iff]
    cnl := Fl.Fg.cnt_le
    cne := fun i hi => Fl.Fg.cnt_all hG (hR i hi)
    srt := fun i hi h0 => Fl.sorted_lt (Fl.Fg.reach_sorted _) (by omega) hi
    fo0 := fun _ => rfl
    fo1 := fun _ _ => rfl
    foe := fun k hk => by
      obtain ⟨i, hi, e⟩ := Fl.mem_getD ((Fl.Fg.mem_reach hG).2 (Fl.Fg.fr_ok hG hk).1)
      exact foB_true hi e
    beh := fun k hk h0 => Fl.Fg.behind hG h0 hk
    pos := Fl.Fg.some hG
    big := ⟨by omega, hN⟩ }
set_option maxRecDepth 100000 in
set_option maxHeartbeats 4000000 in
theorem once_ok (q : Option Addr) (qc : Nat) (l : List In) (w : World) (h : InsAt w q l) (hc : (checkS l).2 = 0) : Calls Try.prog 4 #[.slice q l.length qc] w fun e w' => e = .returned (.bool true) ∧ Below w.heap.size w w' := by
  obtain ⟨n, R, fr, to, rr, cn, fo, hI⟩ := on4 hc
  have hb0 := fun (W : World) (hb : Below w.heap.size w W) => sblocks_any q qc l W (h.below hb)
  rw [hc, hI.len] at hb0
  have HB := Lib.hid hb0
  have hr0 := fun (W : World) (hb : Below w.heap.size w W) => sreach_any q qc l W (h.below hb)
  rw [hI.lenR] at hr0
  have HR := Lib.hid hr0
  have HBK := Lib.hid (fun (p : Option Addr) (W : World) (hB : BksAt W p (blocksL l)) (k : Nat) (hk : k < n) => (show ∃ b off, p = some ⟨b, off, none⟩ ∧ b < W.heap.size ∧ W.cell? ⟨b, off + k * 5, none⟩ = some (.int .i64 (fr k : Int)) ∧ W.cell? ⟨b, off + k * 5 + 1, none⟩ = some (.int .i64 (to k : Int)) from by
    obtain ⟨b, off, sp, sc, pp, pc, hq, hl, c0, c1, c2, _⟩ := hB.cells k (by rw [hI.len]; exact hk)
    obtain ⟨e0, e1⟩ := hI.blk k hk
    rw [e0] at c0
    rw [e1] at c1
    exact ⟨b, off, hq, hl, c0, c1⟩))
  have HRK := Lib.hid (fun (p : Option Addr) (W : World) (hN : NumsAt .i64 W p (reachI l)) (i : Nat) (hi : i < R) => (show ∃ b off, p = some ⟨b, off, none⟩ ∧ b < W.heap.size ∧ W.cell? ⟨b, off + i, none⟩ = some (.int .i64 (rr i : Int)) from by
    obtain ⟨b, off, hq, hl, c0⟩ := hN.cells i (by rw [hI.lenR]; exact hi)
    rw [hI.rch i hi] at c0
    exact ⟨b, off, hq, hl, c0⟩))
  have HC0 := Lib.hid hI.cn0
  have HC1 := Lib.hid hI.cn1
  have HCL := Lib.hid hI.cnl
  have HCE := Lib.hid hI.cne
  have HSR := Lib.hid hI.srt
  have HF0 := Lib.hid hI.fo0
  have HF1 := Lib.hid hI.fo1
  have HFE := Lib.hid hI.foe
  have HBE := Lib.hid hI.beh
  have hpos := hI.pos
  obtain ⟨g1, g2⟩ := hI.big
  have hs := h.small
  clear hb0 hr0 hI h hc
  generalize blocksL l = B at *
  generalize reachI l = RR at *
  generalize l.length = N at *
  go_enter Try.func4, Try.ntmps4
  go_wp2_with (first
    | (go_at_call 11; (with_reducible refine (HR.out _ B1.out).mono ?_); rintro e w2 ⟨p2, c2, rfl, hN, hb⟩; have B2 := Lib.hid (B1.out.trans (hb.mono B1.out.size)); have HBB := Lib.hid (fun (W : World) (h : Below w2.heap.size w2 W) => HBK.out p W ((HB1.out.below hb).below h)); have HRR := Lib.hid (fun (W : World) (h : Below w2.heap.size w2 W) => HRK.out p2 W (hN.below h)); clear hb hN)
    | (go_at_call 7; (with_reducible refine (HB.out _ (Below.refl _ _)).mono ?_); rintro e w1 ⟨p, c, rfl, hB, hb⟩; have B1 := Lib.hid hb; have HB1 := Lib.hid hB; clear hb hB))
  clear HB HR HBK HRK HB1
  go_loopw [6] (fun i wr => ∃ a : Nat, a ≤ R ∧ i = .int .i64 (a : Int) ∧ Below w2.heap.size w2 wr) (fun i _ => R - (intOf i).toNat)
  case atStart => exact ⟨0, Nat.zero_le _, rfl, Below.refl _ _⟩
  case round =>
    obtain ⟨a, ha1, rfl, hbw⟩ := hrel
    have HW := Lib.hid hbw
    clear hbw
    by_cases ha : a < R
    · have HR1 := Lib.hid (fun (W : World) (hW : Below w2.heap.size w2 W) => HRR.out W hW a ha)
      have HE1 := Lib.hid (HCE.out a ha)
      have HS1 := Lib.hid (HSR.out a ha)
      generalize rr a = x at *
      go_wp2_with fail
      go_loopw [7, 8] (fun v7 v8 wr => ∃ j : Nat, j ≤ n ∧ v7 = .int .i64 (cn x j : Int) ∧ v8 = .int .i64 (j : Int) ∧ Below w2.heap.size w2 wr) (fun _ v8 _ => n - (intOf v8).toNat)
      case atStart => exact ⟨0, Nat.zero_le _, by rw [HC0.out]; rfl, rfl, HW.out⟩
      case round =>
        clear HW
        obtain ⟨j, hj1, rfl, rfl, hbw⟩ := hrel
        have HW := Lib.hid hbw
        clear hbw
        by_cases hj : j < n
        · obtain ⟨b, off, rfl, _, d0, d1⟩ := HBB.out wr HW.out j hj
          obtain ⟨b2, o2, rfl, _, e0⟩ := HR1.out wr HW.out
          have hcl := HCL.out x j
          have HC := Lib.hid (HC1.out x j)
          generalize cn x j = C at *
          generalize fr j = F at *
          generalize to j = T at *
          by_cases hF : F ≤ x
          · have f1 : (F : Int) ≤ (x : Int) := by omega
            by_cases hT : x < T
            · have f2 : (x : Int) < (T : Int) := by omega
              have HX : Hid (cn x (j + 1) = C + 1) := Lib.hid (by rw [HC.out, if_pos ⟨hF, hT⟩])
              clear hF hT HC
              go_wp2_with fail
              go_quiet (fail)
              go_wp2_with fail
              go_roundw
              case rel => exact ⟨j + 1, by omega, by rw [HX.out]; rfl, rfl, below_drewN HW.out _⟩
              case measure => simp [intOf]; omega
            · have f2 : ¬ (x : Int) < (T : Int) := by omega
              have HX : Hid (cn x (j + 1) = C) := Lib.hid (by rw [HC.out, if_neg (fun h => hT h.2)]; rfl)
              clear hF hT HC
              go_wp2_with fail
              go_quiet (fail)
              go_wp2_with fail
              go_roundw
              case rel => exact ⟨j + 1, by omega, by rw [HX.out], rfl, below_drewN HW.out _⟩
              case measure => simp [intOf]; omega
          · have f1 : ¬ (F : Int) ≤ (x : Int) := by omega
            have f4 : decide (F ≤ x) = false := decide_eq_false hF
            have HX : Hid (cn x (j + 1) = C) := Lib.hid (by rw [HC.out, if_neg (fun h => hF h.1)]; rfl)
            clear HC
            go_wp2_with fail
            go_quiet (fail)
            go_wp2_with fail
            go_roundw
            case rel => exact ⟨j + 1, by omega, by rw [HX.out], rfl, below_drewN HW.out _⟩
            case measure => simp [intOf]; omega
        · obtain rfl : n = j := by omega
          have e1 : (cn x n : Int) = 1 := by rw [HE1.out]; rfl
          rw [e1]
          clear hj hj1 HE1
          by_cases h0 : a = 0
          · subst h0
            clear HS1 HR1
            go_wp2_with fail
            go_quiet (fail)
            go_wp2_with fail
            go_roundw
            case rel => exact ⟨1, by omega, rfl, below_drewN HW.out _⟩
            case measure => simp [intOf]; omega
          · obtain ⟨a0, rfl⟩ : ∃ a0, a = a0 + 1 := ⟨a - 1, by omega⟩
            have hlt := HS1.out (by omega)
            obtain ⟨b2, o2, rfl, _, d0⟩ := HR1.out wr HW.out
            obtain ⟨b3, o3, hq, _, d1⟩ := HRR.out wr HW.out a0 (by omega)
            obtain ⟨rfl, rfl⟩ : b2 = b3 ∧ o2 = o3 := by injection hq with hq; injection hq with h1 h2; exact ⟨h1, h2⟩
            rw [Nat.add_sub_cancel] at hlt
            have f1 : ¬ (x : Int) ≤ (rr a0 : Int) := by omega
            generalize rr a0 = y at *
            clear hq hlt HS1 HR1 h0
            go_wp2_with fail
            go_quiet (fail)
            go_wp2_with fail
            go_roundw
            case rel => exact ⟨a0 + 1 + 1, by omega, rfl, below_drewN HW.out _⟩
            case measure => simp [intOf]; omega
    · obtain rfl : R = a := by omega
      clear ha ha1 HC0 HC1 HCL HCE HSR
      go_wp2_with fail
      go_loopw [9] (fun i wr => ∃ k : Nat, k ≤ n ∧ i = .int .i64 (k : Int) ∧ Below w2.heap.size w2 wr) (fun i _ => n - (intOf i).toNat)
      case atStart => exact ⟨0, Nat.zero_le _, rfl, HW.out⟩
      case round =>
        clear HW
        obtain ⟨k, hk1, rfl, hbw⟩ := hrel
        have HW := Lib.hid hbw
        clear hbw
        by_cases hk : k < n
        · have HB1 := Lib.hid (fun (W : World) (hW : Below w2.heap.size w2 W) => HBB.out W hW k hk)
          have HE1 := Lib.hid (HFE.out k hk)
          have HF1' := Lib.hid (HF1.out k)
          have HF0' := Lib.hid (HF0.out k)
          have HS1 := Lib.hid (HBE.out k hk)
          generalize fr k = F at *
          generalize to k = T at *
          generalize fo k = G at *
          go_wp2_with fail
          go_loopw [10, 11] (fun v10 v11 wr => ∃ j : Nat, j ≤ R ∧ v10 = .bool (G j) ∧ v11 = .int .i64 (j : Int) ∧ Below w2.heap.size w2 wr) (fun _ v11 _ => R - (intOf v11).toNat)
          case atStart => exact ⟨0, Nat.zero_le _, by rw [HF0'.out], rfl, HW.out⟩
          case round =>
            clear HW
            obtain ⟨j, hj1, rfl, rfl, hbw⟩ := hrel
            have HW := Lib.hid hbw
            clear hbw
            by_cases hj : j < R
            · obtain ⟨b, off, rfl, _, d0, d1⟩ := HB1.out wr HW.out
              obtain ⟨b2, o2, rfl, _, e0⟩ := HRR.out wr HW.out j hj
              have HX := Lib.hid (HF1'.out j)
              generalize rr j = x at *
              cases hg : G j with
              | true =>
                have HY : Hid (G (j + 1) = true) := Lib.hid (by rw [HX.out, hg]; rfl)
                clear hg HX
                go_wp2_with fail
                go_quiet (fail)
                go_wp2_with fail
                go_roundw
                case rel => exact ⟨j + 1, by omega, by rw [HY.out], rfl, below_drewN HW.out _⟩
                case measure => simp [intOf]; omega
              | false =>
                by_cases he : x = F
                · have HY : Hid (G (j + 1) = true) := Lib.hid (by rw [HX.out, hg, decide_eq_true he]; rfl)
                  subst he
                  clear hg HX
                  go_wp2_with fail
                  go_quiet (fail)
                  go_wp2_with fail
                  go_roundw
                  case rel => exact ⟨j + 1, by omega, by rw [HY.out], rfl, below_drewN HW.out _⟩
                  case measure => simp [intOf]; omega
                · have HY : Hid (G (j + 1) = false) := Lib.hid (by rw [HX.out, hg, decide_eq_false he]; rfl)
                  have hb : ((x : Int) == (F : Int)) = false := by simp; omega
                  clear hg HX
                  go_wp2_with fail
                  go_quiet (fail)
                  go_wp2_with fail
                  go_roundw
                  case rel => exact ⟨j + 1, by omega, by rw [HY.out], rfl, below_drewN HW.out _⟩
                  case measure => simp [intOf]; omega
            · obtain rfl : R = j := by omega
              rw [HE1.out]
              clear hj hj1 HE1 HF1' HF0'
              by_cases h0 : k = 0
              · subst h0
                clear HS1 HB1
                go_wp2_with fail
                go_quiet (fail)
                go_wp2_with fail
                go_roundw
                case rel => exact ⟨1, by omega, rfl, below_drewN HW.out _⟩
                case measure => simp [intOf]; omega
              · obtain ⟨k0, rfl⟩ : ∃ k0, k = k0 + 1 := ⟨k - 1, by omega⟩
                have hlt := HS1.out (by omega)
                obtain ⟨b2, o2, rfl, _, d0, _⟩ := HB1.out wr HW.out
                obtain ⟨b3, o3, hq, _, _, d1⟩ := HBB.out wr HW.out k0 (by omega)
                obtain ⟨rfl, rfl⟩ : b2 = b3 ∧ o2 = o3 := by injection hq with hq; injection hq with h1 h2; exact ⟨h1, h2⟩
                rw [Nat.add_sub_cancel] at hlt
                generalize to k0 = y at *
                have f1 : ¬ (F : Int) < (y : Int) := by omega
                clear hq HS1 HB1 h0
                go_wp2_with fail
                go_quiet (fail)
                go_wp2_with fail
                go_roundw
                case rel => exact ⟨k0 + 1 + 1, by omega, rfl, below_drewN HW.out _⟩
                case measure => simp [intOf]; omega
        · go_wp2_with (go_at_call 15; (with_reducible refine (heads14_any _).mono ?_); rintro e w3 ⟨rfl, hb⟩; have B3 := Lib.hid ((B2.out.trans (HW.out.mono B2.out.size)).trans (hb.mono (B2.out.trans (HW.out.mono B2.out.size)).size)); clear hb)
          go_ret
          exact ⟨rfl, B3.out⟩
theorem once_law (q : Option Addr) (qc : Nat) (l : List In) (w : World) (h : InsAt w q l) : Calls Try.prog 4 #[.slice q l.length qc] w fun e w' => e = .returned (.bool true) ∧ Below w.heap.size w w' := by
  by_cases hc : (checkS l).2 = 0
  · exact once_ok q qc l w h hc
  · exact once_no q qc l w h (by simpa using hc)
end Go.Proofs.Ytlpijnnlmgoihaa
