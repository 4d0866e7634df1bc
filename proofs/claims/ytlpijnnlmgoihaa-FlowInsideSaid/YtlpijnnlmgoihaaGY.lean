/- Flow: the document's own Blocks. -/
import Derived.Test.YtlpijnnlmgoihaaFO
import Derived.Test.YtlpijnnlmgoihaaFJ
namespace Go.Proofs.Ytlpijnnlmgoihaa
open Go.RowKit M

set_option maxRecDepth 100000 in
set_option maxHeartbeats 1000000 in
theorem rblocks_no (q : Option Addr) (qc : Nat) (l : List In) (w : World) (h : InsAt w q l) (hc : ¬ (checkS l).2 = 0) :
    Calls Try.prog 8 #[.slice q l.length qc] w fun e w' => e = .returned (.tuple #[.slice none 0 0, .int .i64 (checkS l).2]) ∧ Below w.heap.size w w' := by
  have HC := Lib.hid (rcheck_any q qc l w h)
  unfold CheckP at HC
  have hne : ((checkS l).2 != 0) = true := by simpa using hc
  generalize (checkS l).2 = e1 at *
  generalize (checkS l).1 = e0 at *
  generalize l.length = N at *
  clear h
  go_enter Try.func8, Try.ntmps8
  go_wp2_with (go_at_call 23; (with_reducible refine HC.out.mono ?_); rintro e w1 ⟨rfl, hb⟩; have B1 := Lib.hid hb; clear hb)
  go_ret2
  exact ⟨rfl, B1.out⟩
/-- loop 1: blocks that are found -/
structure Bl (w W : World) (G : Fl.Fg) (k : Nat) (q : Option Addr) (c : Nat) : Prop where
  low : Below w.heap.size w W
  own : W.ownsRow w.heap.size 37 5 (.slice q (G.lk k).length c) (G.lk k).length (flatB G (G.lk k))
theorem Bl.next {w W W' : World} {G : Fl.Fg} {k c : Nat} {q : Option Addr} (h : Bl w W G k q c) (hb : Below W.heap.size W W') : Bl w W' G k q c :=
  ⟨h.low.trans (hb.mono h.low.size), own_below h.own hb⟩
/-- and the one that is being found -/
structure Bi (w W : World) (G : Fl.Fg) (k : Nat) (q : Option Addr) (c b a : Nat) (x1 x2 : Int) : Prop where
  bl : Bl w W G k q c
  bb : w.heap.size ≤ b
  bs : b < W.heap.size
  fz : ∀ j, W.frozen? ⟨b, j, none⟩ = false
  nb : q.map Addr.block ≠ some b
  c : W.cell? ⟨b, 0, none⟩ = some (.int .i64 (a : Int)) ∧ W.cell? ⟨b, 1, none⟩ = some (.int .i64 x1) ∧ W.cell? ⟨b, 2, none⟩ = some (.int .i64 x2) ∧ W.cell? ⟨b, 3, none⟩ = some (.slice none 0 0) ∧ W.cell? ⟨b, 4, none⟩ = some (.slice none 0 0)
theorem Bi.next {w W W' : World} {G : Fl.Fg} {k c b a : Nat} {q : Option Addr} {x1 x2 : Int} (h : Bi w W G k q c b a x1 x2) (hb : Below W.heap.size W W') : Bi w W' G k q c b a x1 x2 := by
  obtain ⟨bl, bb, bs, fz, nb, c0, c1, c2, c3, c4⟩ := h
  exact ⟨bl.next hb, bb, Nat.lt_of_lt_of_le bs hb.size, fun j => (hb.frozen (p := ⟨b, j, none⟩) bs).trans (fz j), nb, (hb.cell (p := ⟨b, _, none⟩) bs).trans c0, (hb.cell (p := ⟨b, _, none⟩) bs).trans c1, (hb.cell (p := ⟨b, _, none⟩) bs).trans c2, (hb.cell (p := ⟨b, _, none⟩) bs).trans c3, (hb.cell (p := ⟨b, _, none⟩) bs).trans c4⟩
theorem Bi.set2 {w W : World} {G : Fl.Fg} {k c b a : Nat} {q : Option Addr} {x1 x2 : Int} (h : Bi w W G k q c b a x1 x2) (y : Int) : Bi w (W.setCell ⟨b, 2, none⟩ (.int .i64 y)) G k q c b a x1 y := by
  obtain ⟨bl, bb, bs, fz, nb, c0, c1, c2, c3, c4⟩ := h
  refine ⟨⟨bl.low.setCell (p := ⟨b, _, none⟩) bb _, own_setOther (a := ⟨b, _, none⟩) bl.own (by rw [own_blk]; exact nb)⟩, bb, by simpa [World.setCell] using bs, fun j => (World.frozen?_setCell ..).trans (fz j), nb, ?_, ?_, World.cell?_setCell_same _ _ _ c2, ?_, ?_⟩
  · exact (World.cell?_setCell_other _ _ _ _ (fun e => by injection e; omega)).trans c0
  · exact (World.cell?_setCell_other _ _ _ _ (fun e => by injection e; omega)).trans c1
  · exact (World.cell?_setCell_other _ _ _ _ (fun e => by injection e; omega)).trans c3
  · exact (World.cell?_setCell_other _ _ _ _ (fun e => by injection e; omega)).trans c4
theorem Bi.set1 {w W : World} {G : Fl.Fg} {k c b a : Nat} {q : Option Addr} {x1 x2 : Int} (h : Bi w W G k q c b a x1 x2) (y : Int) : Bi w (W.setCell ⟨b, 1, none⟩ (.int .i64 y)) G k q c b a y x2 := by
  obtain ⟨bl, bb, bs, fz, nb, c0, c1, c2, c3, c4⟩ := h
  refine ⟨⟨bl.low.setCell (p := ⟨b, _, none⟩) bb _, own_setOther (a := ⟨b, _, none⟩) bl.own (by rw [own_blk]; exact nb)⟩, bb, by simpa [World.setCell] using bs, fun j => (World.frozen?_setCell ..).trans (fz j), nb, ?_, World.cell?_setCell_same _ _ _ c1, ?_, ?_, ?_⟩
  · exact (World.cell?_setCell_other _ _ _ _ (fun e => by injection e; omega)).trans c0
  · exact (World.cell?_setCell_other _ _ _ _ (fun e => by injection e; omega)).trans c2
  · exact (World.cell?_setCell_other _ _ _ _ (fun e => by injection e; omega)).trans c3
  · exact (World.cell?_setCell_other _ _ _ _ (fun e => by injection e; omega)).trans c4
theorem Bi.start {w W : World} {G : Fl.Fg} {k c a : Nat} {q : Option Addr} (h : Bl w W G k q c) : Bi w (W.alloc (.cells #[.int .i64 (a : Int), .int .i64 0, .int .i64 0, .slice none 0 0, .slice none 0 0] 37)) G k q c W.heap.size a 0 0 := by
  refine ⟨h.next ((Below.refl _ _).alloc (Nat.le_refl _) _), h.low.size, by simp, fun j => World.frozen?_alloc_new _ _ _ j, ?_, cell_new W rfl, cell_new W rfl, cell_new W rfl, cell_new W rfl, cell_new W rfl⟩
  intro e
  have := (h.own.lt _ (by rw [own_blk]; exact e)).2
  omega
/-- the block is put behind the others -/
theorem Bl.put {w W W' : World} {G : Fl.Fg} {k c c' m a : Nat} {q q' : Option Addr} (h : Bl w W G k q c) (hk : k < G.reach.length) (ha : G.reach.getD k 0 = a) (hl : G.lead a = true)
    (ho : W'.ownsRow w.heap.size 37 5 (.slice q' m c') ((G.lk k).length + 1) (flatB G (G.lk k) ++ b5 G a)) (hm : m = (G.lk k).length + 1) (hg : W.grownBy W' (Value.slice q (G.lk k).length c).ownBlock) : Bl w W' G (k + 1) q' c' ∧ m = (G.lk (k + 1)).length := by
  subst ha hm
  rw [own_blk] at hg
  have e := Fl.Fg.lk_yes hk hl
  have e2 : (G.lk (k + 1)).length = (G.lk k).length + 1 := by rw [e]; simp
  refine ⟨⟨h.low.grown hg h.low.size (fun j hj => (h.own.lt j (by rw [own_blk]; exact hj)).1), ?_⟩, e2.symm⟩
  rw [e2, e, flatB_app]
  have e3 : flatB G [G.reach.getD k 0] = b5 G (G.reach.getD k 0) := by simp [flatB]
  rw [e3]
  exact ho
theorem flatB_one1 (G : Fl.Fg) (a : Nat) : ∀ u ∈ b5 G a, u.oneCell' = true := by
  intro u hu
  simp only [b5, List.mem_cons, List.not_mem_nil, or_false] at hu
  rcases hu with rfl | rfl | rfl | rfl | rfl <;> rfl
theorem b5_end {G : Fl.Fg} (hG : G.Ok) {i a n : Nat} (hi : G.R i) (hf : G.fin i = true) (hl : G.last i = G.last a) (hn : G.nx i = n) : b5 G a = [.int .i64 (a : Int), .int .i64 (n : Int), .int .i64 (i : Int), .slice none 0 0, .slice none 0 0] := by
  unfold b5 Fl.Fg.to
  rw [← hl, Fl.Fg.last_fin hG hi hf, hn]
theorem new_cells0 (w : World) (cs : List Value) (t : TypeId) : ∀ j u, cs[j]? = some u → (w.alloc (.cells cs.toArray t)).cell? ((⟨w.heap.size, 0, none⟩ : Addr).add j) = some u := by
  intro j u hu
  have h := cell_new w (cs := cs.toArray) (t := t) (fr := (0, 0)) (i := j) (v := u) (by simpa using hu)
  by_cases h0 : j = 0
  · subst h0; simpa [Addr.add] using h
  · simpa [Addr.add, h0] using h
theorem infoBlk : (Try.prog.info? 37).map (fun i => (i.zero, i.size, i.bytes)) = some (some (.agg #[.int .i64 0, .int .i64 0, .int .i64 0, .slice none 0 0, .slice none 0 0]), 5, 72) := by kernel_rfl
/-- a block appended to a row of one's own, as a step of the walk -/
theorem wpList_app_blk {w : World} {ops : Array Oper} {rest : List Oper} {o : Oper} {a : Act} {Q : Exit → Act → World → Prop} (hg : o.guard = none) (s x : Operand) (hop : o.op = Op.call { callee := Callee.builtin Builtin.append, args := #[s, x], argTypes := #[23, 23] }) (hty : o.type = 23)
    (base : Nat) (ad : Addr) (news xs : List Value) (v : Value) (n c : Nat) (hs : a.eval s = v) (hx : a.eval x = .slice (some ad) 1 c) (h1 : w.ownsRow base 37 5 v n xs) (hl : news.length = 1 * 5) (hN : ∀ j u, news[j]? = some u → w.cell? (ad.add j) = some u) (h1c : ∀ u ∈ news, u.oneCell' = true) (hb : base ≤ w.heap.size) (hm : n ≤ 4096)
    (hK : ∀ v' w', w'.ownsRow base 37 5 v' (n + 1) (xs ++ news) → w.grownBy w' v.ownBlock → wpList Try.prog ops Q rest (a.put o.dst v') w') :
    wpList Try.prog ops Q (o :: rest) a w := by
  refine wpList_plain hg fun K hK' => ?_
  obtain ⟨i5, h5, g5, s5, b5⟩ := info_parts infoBlk
  obtain ⟨v', w', hrun, r1, r2, _, _⟩ := run_append_own_at (P := Try.prog) w base 23 23 37 i5 _ 5 72 Try.underlying23 h5 g5 s5 b5 rfl (by decide) v n xs h1 ad 1 c news hl hN h1c (by simp only [maxLen]; omega) (by omega) hb
  unfold Oper.wp
  simp [execOp, hop, resolve, invoke, builtin, hs, hx, hty, hrun, Result.andThen]
  exact hK' _ _ (hK v' w' r1 r2)
set_option maxRecDepth 100000 in
set_option maxHeartbeats 4000000 in
theorem rblocks_yes (q : Option Addr) (qc : Nat) (l : List In) (w : World) (h : InsAt w q l) (hc : (checkS l).2 = 0) :
    Calls Try.prog 8 #[.slice q l.length qc] w fun e w' => ∃ p c, e = .returned (.tuple #[.slice p (blocksL l).length c, .int .i64 0]) ∧ BksAt w' p (blocksL l) ∧ Below w.heap.size w w' := by
  have HG := Lib.hid (check_flow hc)
  have hN := (check_ok hc).1
  have HI := Lib.hid h
  have HCK := Lib.hid hc
  have HC := Lib.hid (rcheck_any q qc l w h)
  unfold CheckP at HC
  rw [hc] at HC
  have HRE := Lib.hid (fun W (hW : Below w.heap.size w W) => rreach_any q qc l W (HI.out.below hW))
  have HLE := Lib.hid (fun p pc W (hW : Below w.heap.size w W) hr => rlead_any q qc l p pc W (HI.out.below hW) hc hr)
  have HSU := Lib.hid (fun (i : Int) (W : World) (hW : Below w.heap.size w W) => rsucc_new q qc l i W (HI.out.below hW))
  unfold SuccQ at HSU
  have hrn : (reachI l).length = (gOf l).reach.length := by rw [reachI_ok hc]; simp
  have HRA : Hid (∀ k, k < (gOf l).reach.length → (reachI l).getD k 0 = (((gOf l).reach.getD k 0 : Nat) : Int)) := Lib.hid (fun k hk => by
    rw [reachI_ok hc, List.getD_eq_getElem?_getD, List.getElem?_map, List.getD_eq_getElem?_getD, List.getElem?_eq_getElem hk]; rfl)
  have HRR : Hid (∀ k, k < (gOf l).reach.length → (gOf l).R ((gOf l).reach.getD k 0)) := Lib.hid (fun k hk => (Fl.Fg.mem_reach HG.out).1 (Fl.getD_mem hk))
  generalize (checkS l).1 = e0 at *
  obtain ⟨N, hNl⟩ : ∃ N, l.length = N := ⟨_, rfl⟩
  have HNL := Lib.hid hNl
  obtain ⟨M, hM⟩ : ∃ M, (gOf l).reach.length = M := ⟨_, rfl⟩
  have HM := Lib.hid hM
  have hMN : M ≤ 4096 := by
    have h2 : (gOf l).reach.length ≤ (List.range (gOf l).N).length := List.length_filter_le _ _
    have h3 : (gOf l).N ≤ 4096 := hN
    rw [List.length_range] at h2
    omega
  rw [hM] at hrn HRA HRR
  have HRN := Lib.hid hrn
  rw [hrn] at HRE HLE
  rw [hNl] at hN HC HRE HLE HSU ⊢
  clear h hc hNl hM hrn
  go_enter Try.func8, Try.ntmps8
  go_wp2_with (first
    | (go_at_call 23; (with_reducible refine HC.out.mono ?_); rintro e w1 ⟨rfl, hb⟩; have B1 := Lib.hid hb; clear hb)
    | (go_at_call 12; (with_reducible refine (HRE.out _ B1.out).mono ?_); rintro e w2 ⟨p2, c2, rfl, hn2, hb2⟩; have B2 := Lib.hid (B1.out.trans (hb2.mono B1.out.size)); have HR2 := Lib.hid hn2; clear hb2 hn2)
    | (go_at_call 24; (with_reducible refine (HLE.out p2 c2 _ B2.out HR2.out).mono ?_); rintro e w3 ⟨g, L, rfl, hLl, hLd, hlw⟩; have B3 := Lib.hid (B2.out.trans (hlw.low.mono B2.out.size)); have HR3 := Lib.hid (HR2.out.below hlw.low); have HLL := Lib.hid hLl; have HLD := Lib.hid hLd; have HLR := Lib.hid hlw.rb; clear hlw hLl hLd))
  go_loopw [8, 9] (fun o v wr => ∃ (k : Nat) (p : Option Addr) (c : Nat), k ≤ M ∧ v = .int .i64 (k : Int) ∧ o = .slice p ((gOf l).lk k).length c ∧ Bl w3 wr (gOf l) k p c) (fun _ v _ => M - (intOf v).toNat)
  case atStart => exact ⟨0, none, 0, Nat.zero_le _, rfl, rfl, Below.refl _ _, World.ownsRow_nil _ _ _ _⟩
  case round =>
    clear HC HRE HLE B1 B2 HR2
    obtain ⟨k, p, c, hk, rfl, rfl, hbl⟩ := hrel
    have HB := Lib.hid hbl
    by_cases hlt : k < M
    · obtain ⟨b1, o1, rfl, hl1, c0⟩ := (HR3.out.below hbl.low).cells k (by rw [HRN.out]; exact hlt)
      rw [HRA.out k hlt] at c0
      have hR := HRR.out k hlt
      have hiN := (hR.ok HG.out).1
      have hlc := (HLR.out.next hbl.low).cell ((gOf l).reach.getD k 0) (by rw [HLL.out]; have : (gOf l).reach.getD k 0 < l.length := hiN; rw [HNL.out] at this; omega)
      rw [HLD.out] at hlc
      have hlg := (HLR.out.next hbl.low).lt
      cases hv : (gOf l).lead ((gOf l).reach.getD k 0) with
      | false =>
        rw [hv] at hlc
        have HE := Lib.hid (Fl.Fg.lk_no (by rw [HM.out]; exact hlt) hv)
        have hiN2 : (gOf l).reach.getD k 0 < N := by rw [← HNL.out]; exact hiN
        generalize (gOf l).reach.getD k 0 = a at *
        clear hbl hv hR hiN
        go_wp2_with fail
        go_roundw
        case rel => exact ⟨k + 1, p, c, by omega, rfl, by rw [HE.out], ⟨HB.out.low, by rw [HE.out]; exact HB.out.own⟩⟩
        case measure => simp [intOf]; omega
      | true =>
        rw [hv] at hlc
        have HV := Lib.hid hv
        have HRa := Lib.hid hR
        have hiN2 : (gOf l).reach.getD k 0 < N := by rw [← HNL.out]; exact hiN
        obtain ⟨a, ha⟩ : ∃ a, (gOf l).reach.getD k 0 = a := ⟨_, rfl⟩
        rw [ha] at c0 hlc HV HRa hiN2
        have HA := Lib.hid ha
        clear hbl hv hR hiN ha
        go_wp2_with fail
        go_loopw [10] (fun v wr2 => ∃ (i : Nat) (x1 x2 : Int), v = .int .i64 (i : Int) ∧ Hid ((gOf l).R i) ∧ Hid ((gOf l).last i = (gOf l).last a) ∧ Bi w3 wr2 (gOf l) k p c wr.heap.size a x1 x2) (fun v _ => N - (intOf v).toNat)
        case atStart => exact ⟨a, 0, 0, rfl, HRa, Lib.hid rfl, Bi.start HB.out⟩
        case round =>
          rename_i wr2
          clear c0 hl1 hlc hlg hiN2 HB
          obtain ⟨i, x1, x2, rfl, HRi, HLa, hbi⟩ := hrel
          have hiN := (HRi.out.ok HG.out).1
          have hiN' : i < N := by rw [← HNL.out]; exact hiN
          have HSI := HSU.out (i : Int)
          rw [su_ints HCK.out HRi.out] at HSI
          simp only [List.length_map] at HSI
          have HBD := Lib.hid (fun (W : World) (hW : Below w.heap.size w W) => (HI.out.below hW).cells i hiN)
          have HRN2 := Lib.hid (fun (W : World) (hW : Below w.heap.size w W) => rnext_any q qc l i hiN W (HI.out.below hW))
          have HRJ := Lib.hid (fun (W : World) => rjumps_any (l.getD i z) (HI.out.bd _ hiN) W)
          rw [HNL.out] at HRN2
          have HJU : Hid (jB (l.getD i z) = (gOf l).ju i) := Lib.hid rfl
          have HNXT : Hid (nxI (l.getD i z) i = (gOf l).nx i) := Lib.hid rfl
          rw [HJU.out] at HRJ
          rw [HNXT.out] at HRN2
          have HFN : Hid ((gOf l).fin i = (decide (((gOf l).su i).length ≠ 1) || (gOf l).ju i || (gOf l).lead (((gOf l).su i).getD 0 0))) := Lib.hid rfl
          have HSS : Hid (∀ s ∈ (gOf l).su i, s < N) := Lib.hid (fun s hs => by have := (HG.out.su i hiN (HRi.out.ok HG.out).2 s hs).1; rw [← HNL.out]; exact this)
          clear HJU HNXT hiN
          obtain ⟨NX, hNX⟩ : ∃ n, (gOf l).nx i = n := ⟨_, rfl⟩
          obtain ⟨JU, hJU⟩ : ∃ n, (gOf l).ju i = n := ⟨_, rfl⟩
          obtain ⟨SU, hSU⟩ : ∃ n, (gOf l).su i = n := ⟨_, rfl⟩
          rw [hNX] at HRN2
          rw [hJU] at HRJ HFN
          rw [hSU] at HSI HFN HSS
          have HNX := Lib.hid hNX
          have HJU := Lib.hid hJU
          have HSU2 := Lib.hid hSU
          generalize l.getD i z = X at *
          clear hNX hJU hSU
          have HSI2 := Lib.hid HSI
          have HB1 := Lib.hid (hbi.set2 (i : Int))
          have HB2 := Lib.hid ((hbi.set2 (i : Int)).set1 (NX : Int))
          obtain ⟨s0, s1, s2, s3, s4⟩ := hbi.c
          have f1 := hbi.fz 1
          have f2 := hbi.fz 2
          have hbs := hbi.bs
          clear HSI hbi
          by_cases hS : SU.length = 1
          · obtain ⟨s0, rfl⟩ := List.length_eq_one_iff.1 hS
            have HS0 := Lib.hid (HSS.out s0 (by simp))
            have sN : (s0 : Int) < (N : Int) + 2 := by have := HS0.out; omega
            simp only [List.length_singleton, List.map_cons, List.map_nil] at HSI2
            cases JU with
            | true =>
              have HF : (gOf l).fin i = true := by rw [HFN.out]; simp
              have HE5 : Hid (b5 (gOf l) a = [.int .i64 (a : Int), .int .i64 (NX : Int), .int .i64 (i : Int), .slice none 0 0, .slice none 0 0]) := Lib.hid (b5_end HG.out HRi.out HF HLa.out HNX.out)
              clear HF
              have HLV : Hid (1 = 1) := Lib.hid rfl
              go_wp2_with (first
                | (go_at_call 25; (with_reducible refine (HRN2.out _ (B3.out.trans (HB1.out.bl.low.mono B3.out.size))).mono ?_); rintro e w4 ⟨rfl, rfl⟩)
                | (go_at_call 16; (with_reducible refine (HSI2.out _ (B3.out.trans (HB2.out.bl.low.mono B3.out.size))).mono ?_); rintro e w5 ⟨p5, c5, rfl, hn5, hb5, hp5⟩; have HB5 := Lib.hid (HB2.out.next hb5); have HN5 := Lib.hid hn5; obtain ⟨b3, o3, rfl, hl3, d0, d1, d2, d3, d4, d5⟩ := HBD.out w5 (B3.out.trans (HB5.out.bl.low.mono B3.out.size)); clear hb5 hn5 hp5)
                | (go_at_call 26; (with_reducible refine (HRJ.out _).mono ?_); rintro e w6 ⟨rfl, hb6⟩; have HB6 := Lib.hid (HB5.out.next hb6); have HN6 := Lib.hid (HN5.out.below hb6); obtain ⟨b4, o4, rfl, hl4, e4⟩ := HN6.out.cells 0 (by simp); have e4' : w6.cell? ⟨b4, o4, none⟩ = some (.int .i64 (s0 : Int)) := e4; have hlc6 := (HLR.out.next HB6.out.bl.low).cell s0 (by rw [HLL.out]; have := HS0.out; omega); rw [HLD.out] at hlc6; (try rw [HLV.out] at hlc6); have hlg6 := (HLR.out.next HB6.out.bl.low).lt; obtain ⟨t0, t1, t2, t3, t4⟩ := HB6.out.c; clear hb6 d0 d1 d2 d3 d4 d5 e4)
                | (at_builtin; refine wpList_app_blk rfl (.tmp 77) (.tmp 79) rfl rfl w3.heap.size ⟨w6.heap.size, 0, none⟩ (b5 (gOf l) a) (flatB (gOf l) ((gOf l).lk k)) (.slice p ((gOf l).lk k).length c) ((gOf l).lk k).length 1 rfl rfl (own_below HB6.out.bl.own ((Below.refl _ _).alloc (Nat.le_refl _) _)) rfl (by rw [HE5.out]; exact new_cells0 _ _ _) (flatB_one1 _ _) (by have := HB6.out.bl.low.size; simp; omega) (by have := Fl.Fg.lk_len (gOf l) k; omega) ?_; intro v8 w8 ho8 hg8; obtain ⟨q8, c8, rfl⟩ := own_form ho8; have HP := Lib.hid (Bl.put (HB6.out.bl.next ((Below.refl _ _).alloc (Nat.le_refl _) _)) (by rw [HM.out]; exact hlt) HA.out HV.out ho8 rfl hg8); clear ho8 hg8))
              go_roundw
              case rel => exact ⟨k + 1, q8, c8, by omega, rfl, by rw [HP.out.2], HP.out.1⟩
              case measure => simp [intOf]; omega
            | false =>
              cases hlv : (gOf l).lead s0 with
              | true =>
                have HF : (gOf l).fin i = true := by rw [HFN.out]; simpa using hlv
                have HE5 : Hid (b5 (gOf l) a = [.int .i64 (a : Int), .int .i64 (NX : Int), .int .i64 (i : Int), .slice none 0 0, .slice none 0 0]) := Lib.hid (b5_end HG.out HRi.out HF HLa.out HNX.out)
                clear HF
                have HLV := Lib.hid hlv
                clear hlv
                go_wp2_with (first
                  | (go_at_call 25; (with_reducible refine (HRN2.out _ (B3.out.trans (HB1.out.bl.low.mono B3.out.size))).mono ?_); rintro e w4 ⟨rfl, rfl⟩)
                  | (go_at_call 16; (with_reducible refine (HSI2.out _ (B3.out.trans (HB2.out.bl.low.mono B3.out.size))).mono ?_); rintro e w5 ⟨p5, c5, rfl, hn5, hb5, hp5⟩; have HB5 := Lib.hid (HB2.out.next hb5); have HN5 := Lib.hid hn5; obtain ⟨b3, o3, rfl, hl3, d0, d1, d2, d3, d4, d5⟩ := HBD.out w5 (B3.out.trans (HB5.out.bl.low.mono B3.out.size)); clear hb5 hn5 hp5)
                  | (go_at_call 26; (with_reducible refine (HRJ.out _).mono ?_); rintro e w6 ⟨rfl, hb6⟩; have HB6 := Lib.hid (HB5.out.next hb6); have HN6 := Lib.hid (HN5.out.below hb6); obtain ⟨b4, o4, rfl, hl4, e4⟩ := HN6.out.cells 0 (by simp); have e4' : w6.cell? ⟨b4, o4, none⟩ = some (.int .i64 (s0 : Int)) := e4; have hlc6 := (HLR.out.next HB6.out.bl.low).cell s0 (by rw [HLL.out]; have := HS0.out; omega); rw [HLD.out] at hlc6; (try rw [HLV.out] at hlc6); have hlg6 := (HLR.out.next HB6.out.bl.low).lt; obtain ⟨t0, t1, t2, t3, t4⟩ := HB6.out.c; clear hb6 d0 d1 d2 d3 d4 d5 e4)
                  | (at_builtin; refine wpList_app_blk rfl (.tmp 77) (.tmp 79) rfl rfl w3.heap.size ⟨w6.heap.size, 0, none⟩ (b5 (gOf l) a) (flatB (gOf l) ((gOf l).lk k)) (.slice p ((gOf l).lk k).length c) ((gOf l).lk k).length 1 rfl rfl (own_below HB6.out.bl.own ((Below.refl _ _).alloc (Nat.le_refl _) _)) rfl (by rw [HE5.out]; exact new_cells0 _ _ _) (flatB_one1 _ _) (by have := HB6.out.bl.low.size; simp; omega) (by have := Fl.Fg.lk_len (gOf l) k; omega) ?_; intro v8 w8 ho8 hg8; obtain ⟨q8, c8, rfl⟩ := own_form ho8; have HP := Lib.hid (Bl.put (HB6.out.bl.next ((Below.refl _ _).alloc (Nat.le_refl _) _)) (by rw [HM.out]; exact hlt) HA.out HV.out ho8 rfl hg8); clear ho8 hg8))
                go_roundw
                case rel => exact ⟨k + 1, q8, c8, by omega, rfl, by rw [HP.out.2], HP.out.1⟩
                case measure => simp [intOf]; omega
              | false =>
                have HF : (gOf l).fin i = false := by rw [HFN.out]; simpa using hlv
                have HGO := Lib.hid (Fl.Fg.fin_no HG.out HRi.out HF)
                have HLG := Lib.hid (Fl.Fg.last_go HG.out HRi.out HF)
                have hs0 : s0 = (gOf l).nx i := by
                  have e := HSU2.out.symm.trans HGO.out.1
                  injection e
                have HLV := Lib.hid hlv
                have HS1 := Lib.hid hs0
                clear HF hlv hs0
                go_wp2_with (first
                  | (go_at_call 25; (with_reducible refine (HRN2.out _ (B3.out.trans (HB1.out.bl.low.mono B3.out.size))).mono ?_); rintro e w4 ⟨rfl, rfl⟩)
                  | (go_at_call 16; (with_reducible refine (HSI2.out _ (B3.out.trans (HB2.out.bl.low.mono B3.out.size))).mono ?_); rintro e w5 ⟨p5, c5, rfl, hn5, hb5, hp5⟩; have HB5 := Lib.hid (HB2.out.next hb5); have HN5 := Lib.hid hn5; obtain ⟨b3, o3, rfl, hl3, d0, d1, d2, d3, d4, d5⟩ := HBD.out w5 (B3.out.trans (HB5.out.bl.low.mono B3.out.size)); clear hb5 hn5 hp5)
                  | (go_at_call 26; (with_reducible refine (HRJ.out _).mono ?_); rintro e w6 ⟨rfl, hb6⟩; have HB6 := Lib.hid (HB5.out.next hb6); have HN6 := Lib.hid (HN5.out.below hb6); obtain ⟨b4, o4, rfl, hl4, e4⟩ := HN6.out.cells 0 (by simp); have e4' : w6.cell? ⟨b4, o4, none⟩ = some (.int .i64 (s0 : Int)) := e4; have hlc6 := (HLR.out.next HB6.out.bl.low).cell s0 (by rw [HLL.out]; have := HS0.out; omega); rw [HLD.out] at hlc6; (try rw [HLV.out] at hlc6); have hlg6 := (HLR.out.next HB6.out.bl.low).lt; obtain ⟨t0, t1, t2, t3, t4⟩ := HB6.out.c; clear hb6 d0 d1 d2 d3 d4 d5 e4))
                go_roundw
                case rel => exact ⟨s0, _, _, rfl, by rw [HS1.out]; exact Lib.hid HGO.out.2.2.2.2, by rw [HS1.out, ← HLa.out, HLG.out]; exact Lib.hid rfl, HB6.out⟩
                case measure => have := HGO.out.2.2.2.1; have := HS1.out; simp [intOf]; omega
          · have hS2 : ((SU.length : Int) != 1) = true := by simp; omega
            have HF : (gOf l).fin i = true := by rw [HFN.out]; simp [hS]
            have HE5 : Hid (b5 (gOf l) a = [.int .i64 (a : Int), .int .i64 (NX : Int), .int .i64 (i : Int), .slice none 0 0, .slice none 0 0]) := Lib.hid (b5_end HG.out HRi.out HF HLa.out HNX.out)
            clear HF
            go_wp2_with (first
              | (go_at_call 25; (with_reducible refine (HRN2.out _ (B3.out.trans (HB1.out.bl.low.mono B3.out.size))).mono ?_); rintro e w4 ⟨rfl, rfl⟩)
              | (go_at_call 16; (with_reducible refine (HSI2.out _ (B3.out.trans (HB2.out.bl.low.mono B3.out.size))).mono ?_); rintro e w5 ⟨p5, c5, rfl, hn5, hb5, hp5⟩; have HB5 := Lib.hid (HB2.out.next hb5); have HN5 := Lib.hid hn5; obtain ⟨t0, t1, t2, t3, t4⟩ := HB5.out.c; clear hb5 hn5 hp5)
              | (at_builtin; refine wpList_app_blk rfl (.tmp 77) (.tmp 79) rfl rfl w3.heap.size ⟨w5.heap.size, 0, none⟩ (b5 (gOf l) a) (flatB (gOf l) ((gOf l).lk k)) (.slice p ((gOf l).lk k).length c) ((gOf l).lk k).length 1 rfl rfl (own_below HB5.out.bl.own ((Below.refl _ _).alloc (Nat.le_refl _) _)) rfl (by rw [HE5.out]; exact new_cells0 _ _ _) (flatB_one1 _ _) (by have := HB5.out.bl.low.size; simp; omega) (by have := Fl.Fg.lk_len (gOf l) k; omega) ?_; intro v8 w8 ho8 hg8; obtain ⟨q8, c8, rfl⟩ := own_form ho8; have HP := Lib.hid (Bl.put (HB5.out.bl.next ((Below.refl _ _).alloc (Nat.le_refl _) _)) (by rw [HM.out]; exact hlt) HA.out HV.out ho8 rfl hg8); clear ho8 hg8))
            go_roundw
            case rel => exact ⟨k + 1, q8, c8, by omega, rfl, by rw [HP.out.2], HP.out.1⟩
            case measure => simp [intOf]; omega
    · obtain rfl : M = k := by omega
      have e1 : (gOf l).lk M = (gOf l).ls := by rw [← HM.out]; exact Fl.Fg.lk_all _
      have hn0 : 0 < (gOf l).n := Nat.lt_of_le_of_lt (Nat.zero_le _) (Fl.Fg.fd_lead HG.out .zero Fl.Fg.lead0).1
      have hnM : (gOf l).n ≤ 4096 := by
        have h1 : ((gOf l).lk M).length ≤ M := Fl.Fg.lk_len _ _
        rw [e1] at h1
        have : (gOf l).ls.length = (gOf l).n := rfl
        omega
      obtain ⟨g2, rfl, hbm⟩ := Bm.start (q := p) (c := c) hn0 hbl.low (by have := hbl.own; rw [e1] at this; exact this)
      have e2 : ((gOf l).lk M).length = (gOf l).n := by rw [e1]; rfl
      obtain ⟨n, hn⟩ : ∃ n, (gOf l).n = n := ⟨_, rfl⟩
      have HNN := Lib.hid hn
      have HS2 : Hid (∀ i, ((gOf l).su i).length ≤ 2) := Lib.hid (fun i => by
        show ((succL l (i : Int)).map Int.toNat).length ≤ 2
        rw [List.length_map]; exact succL_le l _)
      have HRL : Hid (∀ k j r, j ≤ 2 → ((gOf l).row k j r).length ≤ k + 2) := Lib.hid (fun k j r hj => Fl.Fg.row_len (fun k => HS2.out _) hj r)
      have HFR : Hid (∀ k, k < n → (gOf l).R ((gOf l).fr k)) := Lib.hid (fun k hk => (Fl.Fg.fr_ok HG.out (by rw [HNN.out]; exact hk)).1)
      have HB := Lib.hid hbm
      rw [e2, hn]
      rw [hn] at HB hn0 hnM
      clear hbl hbm e1 e2 hn HRA HRR HLL HLD HLR HR3 HRN
      go_wp2_with fail
      go_loopw [13] (fun v wr2 => ∃ (k : Nat) (P : Nat → Option Addr) (C : Nat → Nat), k ≤ n ∧ v = .int .i64 (k : Int) ∧ Bm w3 wr2 g2 n (gOf l) P C ((gOf l).row k 0)) (fun v _ => n - (intOf v).toNat)
      case atStart => exact ⟨0, _, _, Nat.zero_le _, rfl, HB.out⟩
      case round =>
        clear HB
        obtain ⟨k, P, C, hk, rfl, hbm⟩ := hrel
        have HB := Lib.hid hbm
        by_cases hlt : k < n
        · obtain ⟨c0, c1, c2⟩ := hbm.c k hlt
          have hgl := hbm.gl
          obtain ⟨l1, l2, _⟩ := Fl.Fg.last_ok HG.out _ (HFR.out k hlt)
          have HSI := HSU.out ((gOf l).la k : Int)
          have l1' : (gOf l).R ((gOf l).la k) := l1
          rw [su_ints HCK.out l1'] at HSI
          simp only [List.length_map] at HSI
          have HSL : Hid (∀ s ∈ (gOf l).su ((gOf l).la k), (gOf l).R s ∧ (gOf l).lead s = true) := Lib.hid (fun s hs => Fl.Fg.su_lead HG.out l1 l2 hs)
          have HSI2 := Lib.hid HSI
          have hS2 := HS2.out ((gOf l).la k)
          have HNXT := Lib.hid (Fl.Fg.row_next (gOf l) k)
          have HOLD := Lib.hid (fun j (hj : j < ((gOf l).su ((gOf l).la k)).length) h => Fl.Fg.row_old (G := gOf l) (k := k) (j := j) hj h)
          have HNEW := Lib.hid (fun j t (hj : j < ((gOf l).su ((gOf l).la k)).length) ht h => Fl.Fg.row_new (G := gOf l) (k := k) (j := j) (t := t) hj ht h)
          have HHERE := Lib.hid (fun j => Fl.Fg.row_here (gOf l) k j)
          obtain ⟨SU, hSU⟩ : ∃ n, (gOf l).su ((gOf l).la k) = n := ⟨_, rfl⟩
          obtain ⟨LA, hLA⟩ : ∃ n, (gOf l).la k = n := ⟨_, rfl⟩
          obtain ⟨S, hS⟩ : ∃ n, SU.length = n := ⟨_, rfl⟩
          rw [hSU] at HSI2 HSL hS2 HNXT HOLD HNEW
          rw [hS] at HSI2 hS2 HNXT HOLD HNEW
          rw [hLA] at c2 HSI2
          have HS := Lib.hid hS
          clear hbm c0 c1 l1 l2 l1' HSI hSU hLA hS
          go_wp2_with (go_at_call 16; (with_reducible refine (HSI2.out _ (B3.out.trans (HB.out.low.mono B3.out.size))).mono ?_); rintro e w5 ⟨p5, c5, rfl, hn5, hb5, hp5⟩; have HJ := Lib.hid (Bj.start HB.out hb5 hn5 hp5); clear hb5 hn5 hp5)
          go_loopw [15] (fun v wr3 => ∃ (j : Nat) (P : Nat → Option Addr) (C : Nat → Nat), j ≤ S ∧ v = .int .i64 (j : Int) ∧ Bj w3 wr3 g2 n (gOf l) P C ((gOf l).row k j) p5 (SU.map Int.ofNat)) (fun v _ => S - (intOf v).toNat)
          case atStart => exact ⟨0, P, C, Nat.zero_le _, rfl, HJ.out⟩
          case round =>
            clear HJ HB c2 hgl P C
            obtain ⟨j, P, C, hj, rfl, hbj⟩ := hrel
            have HJ := Lib.hid hbj
            by_cases hjs : j < S
            · have hjs2 : j < SU.length := by rw [HS.out]; exact hjs
              obtain ⟨b4, o4, rfl, hl4, e4⟩ := hbj.nu.cells j (by rw [List.length_map]; exact hjs2)
              have hse : (SU.map Int.ofNat).getD j 0 = ((SU.getD j 0 : Nat) : Int) := by
                rw [List.getD_eq_getElem?_getD, List.getElem?_map, List.getD_eq_getElem?_getD, List.getElem?_eq_getElem hjs2]; rfl
              rw [hse] at e4
              have hsm : SU.getD j 0 ∈ SU := Fl.getD_mem hjs2
              obtain ⟨r1, r2⟩ := HSL.out _ hsm
              have HOLD2 := Lib.hid (HOLD.out j hjs)
              have HNEW2 := Lib.hid (fun t => HNEW.out j t hjs)
              generalize SU.getD j 0 = s at *
              obtain ⟨t1, t2, _⟩ := Fl.Fg.fd_lead HG.out r1 r2
              rw [HNN.out] at t1
              have HFD := Lib.hid (fun W (hW : FtAt W (some ⟨g2, 0, none⟩) n (fun k => ((gOf l).fr k : Int)) (fun k => ((gOf l).to ((gOf l).fr k) : Int))) => rfind_any (some ⟨g2, 0, none⟩) c n _ _ (s : Int) W hW)
              have hfl := find_lead HG.out r1 r2
              rw [HNN.out] at hfl
              rw [hfl] at HFD
              generalize (gOf l).fd s = t at *
              have HHR := Lib.hid (HHERE.out j)
              have HL0 := Lib.hid (HRL.out k j (2 * k) (by omega))
              have HL1 := Lib.hid (HRL.out k j (2 * t + 1) (by omega))
              have p0 := hbj.at (r := 2 * k) (o := k * 5 + 3) (by omega) (by omega)
              have hgl := hbj.bm.gl
              by_cases hin : t ∈ (gOf l).row k j (2 * k)
              · have HE := Lib.hid (HOLD2.out (HHR.out ▸ hin))
                have HHS := Lib.hid (has_any hbj (r := 2 * k) (by omega) (by have := HL0.out; omega) t (b := true) (by simp [hin]))
                clear hbj hin hsm r1 r2 t2 hfl HNEW2 HNEW HOLD
                generalize (gOf l).row k j = R0 at *
                go_wp2_with (first
                  | (go_at_call 14; (with_reducible refine (HFD.out _ (HJ.out.bm.ft hnM)).mono ?_); rintro e w6 ⟨rfl, rfl⟩)
                  | (go_at_call 27; (with_reducible refine HHS.out.mono ?_); rintro e w7 ⟨rfl, rfl⟩))
                go_roundw
                case rel => exact ⟨j + 1, P, C, by omega, rfl, by rw [HE.out]; exact HJ.out⟩
                case measure => simp [intOf]; omega
              · have HE := Lib.hid (HNEW2.out t rfl (fun c => hin (HHR.out ▸ c)))
                have HHS := Lib.hid (has_any hbj (r := 2 * k) (by omega) (by have := HL0.out; omega) t (b := false) (by simp [hin]))
                have HHL := Lib.hid hl4
                clear hbj hin hsm r1 r2 t2 hfl HNEW2 HNEW HOLD HOLD2 HHR hl4
                generalize (gOf l).row k j = R0 at *
                have HN8 : Hid (∀ (x : Int) (W : World) (n : Nat), W.heap.size = n → NumsAt .i64 (W.alloc (.cells #[.int .i64 x] 3)) (some ⟨n, 0, none⟩) [x]) := Lib.hid (fun x W n h => by subst h; exact nums_new (k := .i64) W 3 [x] #[.int .i64 x] rfl (by simp))
                have HN9 := Lib.hid (fun (x : Int) W => nums_new (k := .i64) W 3 [x] #[.int .i64 x] rfl (by simp))
                go_wp2_with (first
                  | (go_at_call 14; (with_reducible refine (HFD.out _ (HJ.out.bm.ft hnM)).mono ?_); rintro e w6 ⟨rfl, rfl⟩)
                  | (go_at_call 27; (with_reducible refine HHS.out.mono ?_); rintro e w7 ⟨rfl, rfl⟩)
                  | (at_builtin; refine wpList_app_ints rfl (.tmp 120) (.tmp 122) rfl rfl w3.heap.size (some ⟨wr.heap.size, 0, none⟩) [(t : Int)] ((R0 (2 * k)).map Int.ofNat) (.slice (P (2 * k)) (R0 (2 * k)).length (C (2 * k))) 1 1 rfl rfl rfl ((HJ.out.next ((Below.refl _ _).alloc (Nat.le_refl _) _)).row (r := 2 * k) (by omega)) (HN9.out _ _) (by have := HJ.out.bm.low.size; simp; omega) (by have := HL0.out; simp; omega) ?_; intro v8 w8 ho8 hg8 hb8; obtain ⟨q8, c8, rfl⟩ := own_form ho8; obtain ⟨m0, m1, m2⟩ := (HJ.out.next ((Below.refl _ _).alloc (Nat.le_refl _) _)).mid (own_blk _ _ _) (r := 2 * k) (o := k * 5 + 3) (by omega) (by omega) hg8; have HX := Lib.hid ((HJ.out.next ((Below.refl _ _).alloc (Nat.le_refl _) _)).app (own_blk _ _ _) (r := 2 * k) (o := k * 5 + 3) (by omega) (by omega) ho8 (by simp) hg8 hb8 (fun ad e => by cases e; have := HHL.out; simp; omega)); simp only [List.length_append, List.length_map, List.length_cons, List.length_nil, Nat.zero_add] at HX; obtain ⟨P1, hP1⟩ : ∃ f, Fl.upd P (2 * k) q8 = f := ⟨_, rfl⟩; obtain ⟨C1, hC1⟩ : ∃ f, Fl.upd C (2 * k) c8 = f := ⟨_, rfl⟩; obtain ⟨R1, hR1⟩ : ∃ f, Fl.upd R0 (2 * k) (R0 (2 * k) ++ [t]) = f := ⟨_, rfl⟩; have HR1 := Lib.hid hR1; have HRo : Hid (R1 (2 * t + 1) = R0 (2 * t + 1)) := Lib.hid (by rw [← hR1]; exact Fl.upd_other _ _ (by omega)); rw [hP1, hC1, hR1] at HX; have p1 := HX.out.at (r := 2 * t + 1) (o := t * 5 + 4) (by omega) (by omega); clear hP1 hC1 hR1 ho8 hg8 hb8)
                  | (at_builtin; refine wpList_app_ints rfl (.tmp 132) (.tmp 134) rfl rfl w3.heap.size (some ⟨w8.heap.size, 0, none⟩) [(k : Int)] ((R1 (2 * t + 1)).map Int.ofNat) (.slice (P1 (2 * t + 1)) (R1 (2 * t + 1)).length (C1 (2 * t + 1))) 1 1 rfl rfl rfl ((HX.out.next ((Below.refl _ _).alloc (Nat.le_refl _) _)).row (r := 2 * t + 1) (by omega)) (HN8.out _ _ _ (by simp)) (by have := HX.out.bm.low.size; simp at this ⊢; omega) (by have := HL1.out; rw [HRo.out]; simp; omega) ?_; intro v9 w9 ho9 hg9 hb9; obtain ⟨q9, c9, rfl⟩ := own_form ho9; obtain ⟨n0, n1, n2⟩ := (HX.out.next ((Below.refl _ _).alloc (Nat.le_refl _) _)).mid (own_blk _ _ _) (r := 2 * t + 1) (o := t * 5 + 4) (by omega) (by omega) hg9; have HY := Lib.hid ((HX.out.next ((Below.refl _ _).alloc (Nat.le_refl _) _)).app (own_blk _ _ _) (r := 2 * t + 1) (o := t * 5 + 4) (by omega) (by omega) ho9 (by simp) hg9 hb9 (fun ad e => by cases e; obtain ⟨b9, o9, hq9, hb9', _⟩ := HX.out.nu.cells j (by rw [List.length_map]; exact hjs2); cases hq9; simp at hb9' ⊢; omega)); simp only [List.length_append, List.length_map, List.length_cons, List.length_nil, Nat.zero_add] at HY; clear ho9 hg9 hb9 p1 m0 m1 m2))
                go_roundw
                case rel => exact ⟨j + 1, _, _, by omega, rfl, by rw [HE.out, HR1.out, ← HRo.out]; exact HY.out⟩
                case measure => simp [intOf]; omega
            · obtain rfl : j = S := by omega
              clear hbj
              go_wp2_with fail
              go_roundw
              case rel => exact ⟨k + 1, P, C, by omega, rfl, by rw [← HNXT.out]; exact HJ.out.bm⟩
              case measure => simp [intOf]; omega
        · obtain rfl : n = k := by omega
          have HD := Lib.hid (Bm.done (l := l) (P := P) (C := C) HCK.out (by rw [HNN.out]; exact hbm) (by rw [HNN.out]; exact hnM) (fun r => by have := HRL.out n 0 r (by omega); rw [HNN.out]; omega))
          have HLN := Lib.hid (blocks_len HCK.out)
          rw [HNN.out] at HLN
          clear hbm
          go_wp2_with fail
          go_ret2
          exact ⟨some ⟨g2, 0, none⟩, c, by rw [HLN.out]; first | rfl | exact rfl, HD.out, B3.out.trans (HB.out.low.mono B3.out.size)⟩
theorem rblocks_any (q : Option Addr) (qc : Nat) (l : List In) (w : World) (h : InsAt w q l) : Calls Try.prog 8 #[.slice q l.length qc] w fun e w' => ∃ p c, e = .returned (.tuple #[.slice p (blocksL l).length c, .int .i64 (checkS l).2]) ∧ BksAt w' p (blocksL l) ∧ Below w.heap.size w w' := by
  by_cases hc : (checkS l).2 = 0
  · rw [hc]; exact rblocks_yes q qc l w h hc
  · refine (rblocks_no q qc l w h hc).mono ?_
    rintro e w' ⟨rfl, hb⟩
    rw [blocks_no hc]
    exact ⟨none, 0, rfl, ⟨by simp, fun i hi => absurd hi (Nat.not_lt_zero _)⟩, hb⟩
end Go.Proofs.Ytlpijnnlmgoihaa
