/- Flow: the law on blocks' ways. -/
import Derived.Test.YtlpijnnlmgoihaaGH
import Derived.Deep.QuietTactic
namespace Go.Proofs.Ytlpijnnlmgoihaa
open Go.RowKit M

theorem take_count (l : List Int) (x : Int) (k : Nat) (hk : k < l.length) : (l.take (k + 1)).count x = (l.take k).count x + (if l.getD k 0 = x then 1 else 0) := by
  rw [List.take_succ_eq_append_getElem hk, List.count_append, List.getD_eq_getElem?_getD, List.getElem?_eq_getElem hk]
  congr 1
  by_cases e : l[k] = x
  · simp [e]
  · simp [e]
set_option maxRecDepth 100000 in
theorem count_any (q : Option Addr) (qc : Nat) (l : List Int) (x : Int) (w : World) (h : NumsAt .i64 w q l) : Calls Try.prog 17 #[.slice q l.length qc, .int .i64 x] w fun e w' => e = .returned (.int .i64 ((l.count x : Nat) : Int)) ∧ w = w' := by
  have hs := h.small
  have HC := Lib.hid h.cells
  have HT := Lib.hid (fun (k : Nat) (hk : k < l.length) => take_count l x k hk)
  have HL := Lib.hid (fun (k : Nat) => (show (l.take k).count x ≤ k from Nat.le_trans List.count_le_length (by rw [List.length_take]; omega)))
  have H0 : Hid ((l.take 0).count x = 0) := Lib.hid rfl
  have HE : Hid ((l.take l.length).count x = l.count x) := Lib.hid (by rw [List.take_length])
  generalize l.count x = g at *
  have HF : Hid (∃ f : Nat → Nat, ∀ k, f k = (l.take k).count x) := Lib.hid ⟨_, fun _ => rfl⟩
  obtain ⟨f, hf⟩ := HF.out
  simp only [← hf] at HT HL H0 HE
  clear hf HF
  obtain ⟨N, hN⟩ : ∃ N, l.length = N := ⟨_, rfl⟩
  rw [hN] at hs HC HT HE ⊢
  clear h hN
  go_enter Try.func17, Try.ntmps17
  go_wp2
  go_loop [5, 6] (fun v5 v6 => ∃ k : Nat, k ≤ N ∧ v5 = .int .i64 (f k : Int) ∧ v6 = .int .i64 (k : Int)) (fun _ v6 => N - (intOf v6).toNat)
  case atStart => exact ⟨0, Nat.zero_le _, by rw [H0.out]; rfl, rfl⟩
  case round =>
    obtain ⟨k, hk1, rfl, rfl⟩ := hrel
    by_cases hk : k < N
    · obtain ⟨b, off, rfl, hb, c0⟩ := HC.out k hk
      have hl := HL.out k
      have HX := Lib.hid (HT.out k hk)
      generalize l.getD k 0 = y at *
      generalize f k = C at *
      by_cases e : y = x
      · have HY : Hid (f (k + 1) = C + 1) := Lib.hid (by rw [HX.out, if_pos e])
        subst e
        clear HX
        go_wp2
        go_round
        case rel => exact ⟨k + 1, by omega, by rw [HY.out]; rfl, rfl⟩
        case measure => simp [intOf]; omega
      · have HY : Hid (f (k + 1) = C) := Lib.hid (by rw [HX.out, if_neg e]; rfl)
        have hb2 : (y == x) = false := by simpa using e
        clear HX e
        go_wp2
        go_round
        case rel => exact ⟨k + 1, by omega, by rw [HY.out], rfl⟩
        case measure => simp [intOf]; omega
    · obtain rfl : N = k := by omega
      go_wp2
      go_ret
      rw [← HE.out]
      exact ⟨rfl, rfl⟩
theorem findB_is {l : List In} (hc : (checkS l).2 = 0) {k s : Nat} (hk : k < (gOf l).n) (h : (gOf l).inB k s = true) : findB (blocksL l) (s : Int) = (k : Int) := by
  have hG := check_flow hc
  have hin : ∀ j, j < (gOf l).n → ((decide ((bk (blocksL l) j).fr ≤ (s : Int)) && decide ((s : Int) < (bk (blocksL l) j).to)) = (gOf l).inB j s) := by
    intro j hj
    rw [blocks_at hc hj]
    show (decide (((gOf l).fr j : Int) ≤ (s : Int)) && decide ((s : Int) < ((gOf l).to ((gOf l).fr j) : Int))) = (decide ((gOf l).fr j ≤ s) && decide (s < (gOf l).to ((gOf l).fr j)))
    simp only [Int.ofNat_le, Int.ofNat_lt]
  have hf : (List.range (blocksL l).length).find? (fun k => decide ((bk (blocksL l) k).fr ≤ (s : Int)) && decide ((s : Int) < (bk (blocksL l) k).to)) = some k := by
    rw [blocks_len hc, List.find?_range_eq_some]
    refine ⟨by rw [hin k hk]; exact h, List.mem_range.2 hk, fun j hj => ?_⟩
    rw [hin j (by omega)]
    cases hj' : (gOf l).inB j s with
    | false => rfl
    | true => have := Fl.Fg.in_one hG (by omega) hk hj' h; omega
  unfold findB
  rw [hf]
/-- what FlowEdges asks -/
structure Ed4 (l : List In) (n : Nat) (fr la : Nat → Nat) (su : Nat → List Nat) (fd : Nat → Nat) (sk pk : Nat → List Int) : Prop where
  len : (blocksL l).length = n
  blk : ∀ k, k < n → (bk (blocksL l) k).fr = (fr k : Int) ∧ (bk (blocksL l) k).la = (la k : Int) ∧ (bk (blocksL l) k).su = sk k ∧ (bk (blocksL l) k).pr = pk k
  suc : ∀ k, k < n → succL l (la k : Int) = (su k).map Int.ofNat ∧ (su k).length ≤ 2
  edge : ∀ k i, k < n → i < (su k).length → findB (blocksL l) ((su k).getD i 0 : Int) = (fd ((su k).getD i 0) : Int) ∧ fd ((su k).getD i 0) < n ∧ fr (fd ((su k).getD i 0)) = (su k).getD i 0 ∧ (sk k).count (fd ((su k).getD i 0) : Int) = 1 ∧ (pk (fd ((su k).getD i 0))).count (k : Int) = 1
  back : ∀ t i, t < n → i < (pk t).length → ∃ p : Nat, (pk t).getD i 0 = (p : Int) ∧ p < n ∧ (sk p).count (t : Int) = 1 ∧ (0 < i → (pk t).getD (i - 1) 0 < (p : Int))
  pkl : ∀ t, t < n → (pk t).length ≤ n
  big : n ≤ 4096
theorem count_ofNat : ∀ (l : List Nat) (x : Nat), (l.map Int.ofNat).count (x : Int) = l.count x
  | [], _ => rfl
  | a :: l, x => by
    rw [List.map_cons, List.count_cons, List.count_cons, count_ofNat l x]
    congr 1
    by_cases e : a = x
    · subst e; simp
    · have : ¬ (Int.ofNat a == (x : Int)) = true := by
        simp only [beq_iff_eq]
        intro h
        exact e (Int.ofNat.inj h)
      rw [if_neg this, if_neg (by simpa using e)]
theorem getD_ofNat (l : List Nat) (i : Nat) (hi : i < l.length) : (l.map Int.ofNat).getD i 0 = (l.getD i 0 : Int) := by
  rw [List.getD_eq_getElem?_getD, List.getElem?_map, List.getD_eq_getElem?_getD, List.getElem?_eq_getElem hi]
  rfl
theorem ed4 {l : List In} (hc : (checkS l).2 = 0) : ∃ n fr la su fd sk pk, Ed4 l n fr la su fd sk pk := by
  have hG := check_flow hc
  have hn : (gOf l).n ≤ 4096 := by
    have h1 : (gOf l).n ≤ (gOf l).reach.length := List.length_filter_le _ _
    have h2 : (gOf l).reach.length ≤ (List.range (gOf l).N).length := List.length_filter_le _ _
    rw [List.length_range] at h2
    have h3 : (gOf l).N ≤ 4096 := (check_ok hc).1
    omega
  have hla : ∀ k, k < (gOf l).n → (gOf l).R ((gOf l).la k) := fun k hk => (Fl.Fg.last_ok hG _ (Fl.Fg.fr_ok hG hk).1).1
  refine ⟨(gOf l).n, (gOf l).fr, (gOf l).la, fun k => (gOf l).su ((gOf l).la k), (gOf l).fd, fun k => ((gOf l).sk k).map Int.ofNat, fun k => ((gOf l).pk k).map Int.ofNat, ?_⟩
  exact {
    len := blocks_len hc
    blk := fun k hk => by rw [blocks_at hc hk]; exact ⟨rfl, rfl, rfl, rfl⟩
    suc := fun k hk => ⟨su_ints hc (hla k hk), by
      have := succL_le l ((gOf l).la k : Int)
      show ((succL l ((gOf l).la k : Int)).map Int.toNat).length ≤ 2
      rw [List.length_map]; exact this⟩
    edge := fun k i hk hi => by
      have hm := Fl.getD_mem hi
      obtain ⟨e1, e2, e3, e4⟩ := Fl.Fg.edge hG hk hm
      have hR := (Fl.Fg.su_lead hG (hla k hk) (Fl.Fg.last_ok hG _ (Fl.Fg.fr_ok hG hk).1).2.1 hm)
      exact ⟨findB_is hc e1 (Fl.Fg.fd_lead hG hR.1 hR.2).2.2, e1, e2, by rw [count_ofNat]; exact e3, by rw [count_ofNat]; exact e4⟩
    back := fun t i ht hi => by
      rw [List.length_map] at hi
      obtain ⟨b1, b2, b3⟩ := Fl.Fg.back (G := gOf l) hi
      refine ⟨((gOf l).pk t).getD i 0, getD_ofNat _ _ hi, b1, by rw [count_ofNat]; exact b2, fun h0 => ?_⟩
      rw [getD_ofNat _ _ (by omega)]
      have := b3 h0
      omega
    pkl := fun t _ => by
      rw [List.length_map]
      have h2 : ((gOf l).pk t).length ≤ (List.range (gOf l).n).length := List.length_filter_le _ _
      rw [List.length_range] at h2
      exact h2
    big := hn }
set_option maxRecDepth 100000 in
theorem edges_no (q : Option Addr) (qc : Nat) (l : List In) (w : World) (h : InsAt w q l) (hc : ((checkS l).2 == 0) = false) : Calls Try.prog 5 #[.slice q l.length qc] w fun e w' => e = .returned (.bool true) ∧ Below w.heap.size w w' := by
  have HB := Lib.hid (fun (W : World) (hb : Below w.heap.size w W) => sblocks_any q qc l W (h.below hb))
  have hs := h.small
  clear h
  generalize (checkS l).2 = x at *
  generalize blocksL l = B at *
  generalize B.length = n at *
  generalize l.length = N at *
  go_enter Try.func5, Try.ntmps5
  go_wp2_with (first
    | (go_at_call 7; (with_reducible refine (HB.out _ (Below.refl _ _)).mono ?_); rintro e w1 ⟨p, c, rfl, _, hb⟩; have B1 := Lib.hid hb; clear hb)
    | (go_at_call 15; (with_reducible refine (heads14_any _).mono ?_); rintro e w2 ⟨rfl, hb⟩; have B2 := Lib.hid (B1.out.trans (hb.mono B1.out.size)); clear hb))
  go_ret
  exact ⟨rfl, B2.out⟩
set_option maxRecDepth 100000 in
set_option maxHeartbeats 4000000 in
theorem edges_ok (q : Option Addr) (qc : Nat) (l : List In) (w : World) (h : InsAt w q l) (hc : (checkS l).2 = 0) : Calls Try.prog 5 #[.slice q l.length qc] w fun e w' => e = .returned (.bool true) ∧ Below w.heap.size w w' := by
  obtain ⟨n, fr, la, su, fd, sk, pk, hI⟩ := ed4 hc
  have hb0 := fun (W : World) (hb : Below w.heap.size w W) => sblocks_any q qc l W (h.below hb)
  rw [hc, hI.len] at hb0
  have HB := Lib.hid hb0
  have HBK := Lib.hid (fun (p : Option Addr) (W : World) (hB : BksAt W p (blocksL l)) (k : Nat) (hk : k < n) => (show ∃ b off sp sc pp pc, p = some ⟨b, off, none⟩ ∧ b < W.heap.size ∧ W.cell? ⟨b, off + k * 5, none⟩ = some (.int .i64 (fr k : Int)) ∧ W.cell? ⟨b, off + k * 5 + 2, none⟩ = some (.int .i64 (la k : Int)) ∧ W.cell? ⟨b, off + k * 5 + 3, none⟩ = some (.slice sp (sk k).length sc) ∧ W.cell? ⟨b, off + k * 5 + 4, none⟩ = some (.slice pp (pk k).length pc) ∧ NumsAt .i64 W sp (sk k) ∧ NumsAt .i64 W pp (pk k) from by
    obtain ⟨b, off, sp, sc, pp, pc, hq, hl, c0, c1, c2, c3, c4, n1, n2⟩ := hB.cells k (by rw [hI.len]; exact hk)
    obtain ⟨e0, e1, e2, e3⟩ := hI.blk k hk
    rw [e0] at c0
    rw [e1] at c2
    rw [e2] at c3 n1
    rw [e3] at c4 n2
    exact ⟨b, off, sp, sc, pp, pc, hq, hl, c0, c2, c3, c4, n1, n2⟩))
  have HFD := Lib.hid (fun (p : Option Addr) (c : Nat) (W : World) (x : Int) (hB : BksAt W p (blocksL l)) => (show Calls Try.prog 13 #[.slice p n c, .int .i64 x] W fun e w' => e = .returned (.int .i64 (findB (blocksL l) x)) ∧ Below W.heap.size W w' from by
    have := sfind_any p c (blocksL l) x W hB
    rw [hI.len] at this
    exact this))
  have HSU : Hid (∀ k, k < n → ∀ (W : World), Below w.heap.size w W → Calls Try.prog 16 #[.slice q l.length qc, .int .i64 (la k : Int)] W fun e w' => ∃ p c, e = .returned (.slice p (su k).length c) ∧ NumsAt .i64 w' p ((su k).map Int.ofNat) ∧ Below W.heap.size W w') := Lib.hid (fun k hk W hW => by
    have H := rsucc_any q qc l (la k : Int) W (h.below hW)
    refine H.mono ?_
    rintro e w' ⟨p, c, rfl, hn, hb⟩
    rw [(hI.suc k hk).1] at hn ⊢
    rw [List.length_map]
    exact ⟨p, c, rfl, hn, hb⟩)
  have HSL := Lib.hid (fun k hk => (hI.suc k hk).2)
  have HED := Lib.hid hI.edge
  have HBC := Lib.hid hI.back
  have HPL := Lib.hid hI.pkl
  have HCT := Lib.hid (fun (p : Option Addr) (c : Nat) (xs : List Int) (x : Int) (W : World) (hN : NumsAt .i64 W p xs) => count_any p c xs x W hN)
  have g1 := hI.big
  have hs := h.small
  clear hb0 hI h hc
  generalize blocksL l = B at *
  generalize l.length = N at *
  go_enter Try.func5, Try.ntmps5
  go_wp2_with (first
    | (go_at_call 7; (with_reducible refine (HB.out _ (Below.refl _ _)).mono ?_); rintro e w1 ⟨p, c, rfl, hB, hb⟩; have B1 := Lib.hid hb; have HBB := Lib.hid (fun (W : World) (h : Below w1.heap.size w1 W) => HBK.out p W (hB.below h)); have HF := Lib.hid (fun (W : World) (x : Int) (h : Below w1.heap.size w1 W) => HFD.out p c W x (hB.below h)); clear hb hB))
  clear HB HBK HFD
  go_loopw [5] (fun i wr => ∃ k : Nat, k ≤ n ∧ i = .int .i64 (k : Int) ∧ Below w1.heap.size w1 wr) (fun i _ => n - (intOf i).toNat)
  case atStart => exact ⟨0, Nat.zero_le _, rfl, Below.refl _ _⟩
  case round =>
    obtain ⟨k, hk1, rfl, hbw⟩ := hrel
    have HW := Lib.hid hbw
    clear hbw
    by_cases hk : k < n
    · have HB1 := Lib.hid (fun (W : World) (hW : Below w1.heap.size w1 W) => HBB.out W hW k hk)
      have HS1 := Lib.hid (fun (W : World) (hW : Below w1.heap.size w1 W) => HSU.out k hk W (B1.out.trans (hW.mono B1.out.size)))
      have HE1 := Lib.hid (fun i hi => HED.out k i hk hi)
      have hsl := HSL.out k hk
      have HP1 := Lib.hid (HPL.out k hk)
      have HC1 := Lib.hid (fun i hi => HBC.out k i hk hi)
      obtain ⟨b, off, sp, sc, pp, pc, rfl, _, _, d2, _, _, _, _⟩ := HB1.out wr HW.out
      generalize su k = S at *
      go_wp2_with (go_at_call 16; (with_reducible refine (HS1.out _ HW.out).mono ?_); rintro e w2 ⟨p2, c2, rfl, hN, hb⟩; have HX := Lib.hid (HW.out.trans (hb.mono HW.out.size)); have HNN := Lib.hid (fun (W : World) (h : Below w2.heap.size w2 W) => hN.below h); clear hb hN)
      clear d2 HW HS1
      go_loopw [7] (fun v7 wr => ∃ i : Nat, i ≤ S.length ∧ v7 = .int .i64 (i : Int) ∧ Below w2.heap.size w2 wr) (fun v7 _ => S.length - (intOf v7).toNat)
      case atStart => exact ⟨0, Nat.zero_le _, rfl, Below.refl _ _⟩
      case round =>
        obtain ⟨i, hi1, rfl, hbw⟩ := hrel
        have HW := Lib.hid (HX.out.trans (hbw.mono HX.out.size))
        by_cases hi : i < S.length
        · obtain ⟨b4, o4, rfl, _, e0⟩ := (HNN.out wr hbw).cells i (by rw [List.length_map]; exact hi)
          rw [getD_ofNat _ _ hi] at e0
          obtain ⟨q1, q2, q3, q4, q5⟩ := HE1.out i hi
          have HF1 := Lib.hid (fun (W : World) (hW : Below w1.heap.size w1 W) => HF.out W (S.getD i 0 : Int) hW)
          rw [q1] at HF1
          have HN2 := Lib.hid (fun (W : World) (h : Below w2.heap.size w2 W) => (show W.cell? ⟨b4, o4 + i, none⟩ = some (.int .i64 (S.getD i 0 : Int)) from by
            obtain ⟨b', o', hq, _, e⟩ := (HNN.out W h).cells i (by rw [List.length_map]; exact hi)
            rw [getD_ofNat _ _ hi] at e
            obtain ⟨rfl, rfl⟩ : b4 = b' ∧ o4 = o' := by injection hq with hq; injection hq with h1 h2; exact ⟨h1, h2⟩
            exact e))
          have HBW := Lib.hid hbw
          generalize S.getD i 0 = x at *
          generalize fd x = t at *
          have HBT := Lib.hid (fun (W : World) (hW : Below w1.heap.size w1 W) => HBB.out W hW t q2)
          rw [q3] at HBT
          have Q4 := Lib.hid q4
          have Q5 := Lib.hid q5
          have f1 : ¬ (t : Int) < 0 := by omega
          have f2 : (t : Int) < (n : Int) := by omega
          clear q1 q3 q4 q5 hbw
          go_wp2_with (go_at_call 13; (with_reducible refine (HF1.out _ HW.out).mono ?_); rintro e w3 ⟨rfl, hb⟩; have HY := Lib.hid (HW.out.trans (hb.mono HW.out.size)); have HZ := Lib.hid (HBW.out.trans (hb.mono HBW.out.size)); clear hb)
          obtain ⟨b5, o5, sp, sc, pp, pc, hq, _, _, _, y3, y4, m1, _⟩ := HB1.out w3 HY.out
          obtain ⟨rfl, rfl⟩ : b = b5 ∧ off = o5 := by injection hq with hq; injection hq with h1 h2; exact ⟨h1, h2⟩
          clear hq
          obtain ⟨b5, o5, sp', sc', pp', pc', hq, _, z0, _, z3, z4, _, m2⟩ := HBT.out w3 HY.out
          obtain ⟨rfl, rfl⟩ : b = b5 ∧ off = o5 := by injection hq with hq; injection hq with h1 h2; exact ⟨h1, h2⟩
          clear hq
          have e1 := HN2.out w3 HZ.out
          have C1 : Hid (∀ W : World, Below w3.heap.size w3 W → Calls Try.prog 17 #[.slice sp (sk k).length sc, .int .i64 (t : Int)] W fun e w' => e = .returned (.int .i64 1) ∧ w' = W) := Lib.hid (fun W h => by
            refine (HCT.out sp sc (sk k) (t : Int) W (m1.below h)).mono ?_
            rintro e w' ⟨rfl, rfl⟩
            rw [Q4.out]
            exact ⟨rfl, rfl⟩)
          have C2 : Hid (∀ W : World, Below w3.heap.size w3 W → Calls Try.prog 17 #[.slice pp' (pk t).length pc', .int .i64 (k : Int)] W fun e w' => e = .returned (.int .i64 1) ∧ w' = W) := Lib.hid (fun W h => by
            refine (HCT.out pp' pc' (pk t) (k : Int) W (m2.below h)).mono ?_
            rintro e w' ⟨rfl, rfl⟩
            rw [Q5.out]
            exact ⟨rfl, rfl⟩)
          clear m1 m2 e0
          generalize (sk k).length = L1 at *
          generalize (pk t).length = L2 at *
          go_quiet ((go_at_call 17; first | with_reducible exact Calls.quiet_of_same (C1.out _ (by first | exact Below.refl _ _ | exact below_drewN (Below.refl _ _) _ | exact (Below.refl _ _).drew)) | with_reducible exact Calls.quiet_of_same (C2.out _ (by first | exact Below.refl _ _ | exact below_drewN (Below.refl _ _) _ | exact (Below.refl _ _).drew))))
          go_wp2_with fail
          go_roundw
          case rel => exact ⟨i + 1, by omega, rfl, below_drewN HZ.out _⟩
          case measure => simp [intOf]; omega
        · obtain rfl : S.length = i := by omega
          clear hi hi1 hbw HE1 HX HNN
          go_wp2_with fail
          go_loopw [9] (fun v9 wr => ∃ a : Nat, a ≤ (pk k).length ∧ v9 = .int .i64 (a : Int) ∧ Below w1.heap.size w1 wr) (fun v9 _ => (pk k).length - (intOf v9).toNat)
          case atStart => exact ⟨0, Nat.zero_le _, rfl, HW.out⟩
          case round =>
            clear HW
            obtain ⟨a, ha1, rfl, hbw⟩ := hrel
            have HW := Lib.hid hbw
            clear hbw
            obtain ⟨b5, o5, sp, sc, pp, pc, hq, _, _, _, _, y4, _, m2⟩ := HB1.out wr HW.out
            obtain ⟨rfl, rfl⟩ : b = b5 ∧ off = o5 := by injection hq with hq; injection hq with h1 h2; exact ⟨h1, h2⟩
            clear hq
            by_cases ha : a < (pk k).length
            · obtain ⟨t, k1, k2, k3, k4⟩ := HC1.out a ha
              obtain ⟨b4, o4, rfl, _, e0⟩ := m2.cells a ha
              rw [k1] at e0
              obtain ⟨b5, o5, sp', sc', pp', pc', hq, _, z0, _, z3, z4, m1, _⟩ := HBB.out wr HW.out t k2
              obtain ⟨rfl, rfl⟩ : b = b5 ∧ off = o5 := by injection hq with hq; injection hq with h1 h2; exact ⟨h1, h2⟩
              clear hq
              have Q4 := Lib.hid k3
              have C1 : Hid (∀ W : World, Below wr.heap.size wr W → Calls Try.prog 17 #[.slice sp' (sk t).length sc', .int .i64 (k : Int)] W fun e w' => e = .returned (.int .i64 1) ∧ w' = W) := Lib.hid (fun W h => by
                refine (HCT.out sp' sc' (sk t) (k : Int) W (m1.below h)).mono ?_
                rintro e w' ⟨rfl, rfl⟩
                rw [Q4.out]
                exact ⟨rfl, rfl⟩)
              have f1 : ¬ (t : Int) < 0 := by omega
              have f2 : ¬ (n : Int) ≤ (t : Int) := by omega
              have f3 : (t : Int) < (n : Int) := by omega
              have hl := HP1.out
              generalize (sk t).length = L1 at *
              by_cases h0 : a = 0
              · subst h0
                have e1 : wr.cell? ⟨b4, o4, none⟩ = some (.int .i64 (t : Int)) := e0
                clear k3 k4 m1 m2 e0
                generalize (pk k).length = L2 at *
                go_wp2_with (go_at_call 17; (with_reducible refine (C1.out _ (Below.refl _ _)).mono ?_); rintro e w4 ⟨rfl, rfl⟩)
                go_roundw
                case rel => exact ⟨1, by omega, rfl, HW.out⟩
                case measure => simp [intOf]; omega
              · obtain ⟨a0, rfl⟩ : ∃ a0, a = a0 + 1 := ⟨a - 1, by omega⟩
                have hlt := k4 (by omega)
                rw [Nat.add_sub_cancel] at hlt
                obtain ⟨b6, o6, hq, _, e1⟩ := m2.cells a0 (by omega)
                obtain ⟨rfl, rfl⟩ : b4 = b6 ∧ o4 = o6 := by injection hq with hq; injection hq with h1 h2; exact ⟨h1, h2⟩
                generalize (pk k).getD a0 0 = y at *
                have f4 : ¬ (t : Int) ≤ y := by omega
                clear hq k1 k3 k4 m1 m2 h0
                generalize (pk k).length = L2 at *
                go_wp2_with (go_at_call 17; (with_reducible refine (C1.out _ (Below.refl _ _)).mono ?_); rintro e w4 ⟨rfl, rfl⟩)
                go_roundw
                case rel => exact ⟨a0 + 1 + 1, by omega, rfl, HW.out⟩
                case measure => simp [intOf]; omega
            · obtain hL : (pk k).length = a := by omega
              have hl := HP1.out
              rw [hL] at y4 ⊢
              clear m2 hL ha ha1
              go_wp2_with fail
              go_roundw
              case rel => exact ⟨k + 1, by omega, rfl, HW.out⟩
              case measure => simp [intOf]; omega
    · go_wp2_with (go_at_call 15; (with_reducible refine (heads14_any _).mono ?_); rintro e w3 ⟨rfl, hb⟩; have B3 := Lib.hid ((B1.out.trans (HW.out.mono B1.out.size)).trans (hb.mono (B1.out.trans (HW.out.mono B1.out.size)).size)); clear hb)
      go_ret
      exact ⟨rfl, B3.out⟩
theorem edges_law (q : Option Addr) (qc : Nat) (l : List In) (w : World) (h : InsAt w q l) : Calls Try.prog 5 #[.slice q l.length qc] w fun e w' => e = .returned (.bool true) ∧ Below w.heap.size w w' := by
  by_cases hc : (checkS l).2 = 0
  · exact edges_ok q qc l w h hc
  · exact edges_no q qc l w h (by simpa using hc)
end Go.Proofs.Ytlpijnnlmgoihaa
