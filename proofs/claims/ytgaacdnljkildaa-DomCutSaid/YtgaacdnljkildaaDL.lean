/- Dominance: the document's own Frontier. -/
import Derived.Test.YtgaacdnljkildaaDK
namespace Go.Proofs.Ytgaacdnljkildaa
open Go.RowKit
open Dm

theorem NumsAt.grown {k : IntKind} {w w' : World} {q : Option Addr} {l : List Int} {row : Option Nat} (h : NumsAt k w q l) (hg : w.grownBy w' row) (hn : ∀ ad, q = some ad → row ≠ some ad.block) : NumsAt k w' q l :=
  ⟨h.small, fun i hi => by
    obtain ⟨b, o, hq, hb, hc⟩ := h.cells i hi
    exact ⟨b, o, hq, Nat.lt_of_lt_of_le hb hg.size, (World.cell?_of_block (a := ⟨b, o + i, none⟩) (hg.block b hb (fun e => hn _ hq e.symm))).trans hc⟩⟩
theorem infoRowI : (Try.prog.info? 27).map (fun i => (i.zero, i.size, i.bytes)) = some (some (.slice none 0 0), 1, 24) := by kernel_rfl
/-- a row of numbers appended to a row of rows of one's own, as a step of the walk -/
theorem wpList_app_rowI {w : World} {ops : Array Oper} {rest : List Oper} {o : Oper} {a : Act} {Q : Exit → Act → World → Prop} (hg : o.guard = none) (s x : Operand) (hop : o.op = Op.call { callee := Callee.builtin Builtin.append, args := #[s, x], argTypes := #[22, 22] }) (hty : o.type = 22)
    (base : Nat) (ad : Addr) (u : Value) (xs : List Value) (v : Value) (n c : Nat) (hs : a.eval s = v) (hx : a.eval x = .slice (some ad) 1 c) (h1 : w.ownsRow base 27 1 v n xs) (hN : ∀ j u', [u][j]? = some u' → w.cell? (ad.add j) = some u') (h1c : u.oneCell' = true) (hb : base ≤ w.heap.size) (hm : n ≤ 4096)
    (hK : ∀ v' w', w'.ownsRow base 27 1 v' (n + 1) (xs ++ [u]) → w.grownBy w' v.ownBlock → (v'.ownBlock = v.ownBlock ∨ v'.ownBlock = some w.heap.size) → wpList Try.prog ops Q rest (a.put o.dst v') w') :
    wpList Try.prog ops Q (o :: rest) a w := by
  refine wpList_plain hg fun K hK' => ?_
  obtain ⟨i5, h5, g5, s5, b5⟩ := info_parts infoRowI
  obtain ⟨v', w', hrun, r1, r2, _, r4⟩ := run_append_own_at (P := Try.prog) w base 22 22 27 i5 _ 1 24 Try.underlying22 h5 g5 s5 b5 rfl (by decide) v n xs h1 ad 1 c [u] rfl hN (fun u' hu => by rw [List.mem_singleton.1 hu]; exact h1c) (by simp only [maxLen]; omega) (by omega) hb
  unfold Oper.wp
  simp [execOp, hop, resolve, invoke, builtin, hs, hx, hty, hrun, Result.andThen]
  exact hK' _ _ (hK v' w' r1 r2 r4)
/-- rows of numbers that are there -/
structure Fb (w W : World) (k : Nat) (P : Nat → Option Addr) (C : Nat → Nat) (L : Nat → List Int) (q : Option Addr) (c : Nat) : Prop where
  low : Below w.heap.size w W
  own : W.ownsRow w.heap.size 27 1 (.slice q k c) k ((List.range k).map fun a => .slice (P a) (L a).length (C a))
  row : ∀ a, a < k → NumsAt .i64 W (P a) (L a)
  lt : ∀ a, a < k → ∀ ad, P a = some ad → ad.block < W.heap.size
  ne : ∀ a, a < k → ∀ ad, P a = some ad → q.map Addr.block ≠ some ad.block
theorem Fb.next {w W W' : World} {k : Nat} {P : Nat → Option Addr} {C : Nat → Nat} {L : Nat → List Int} {q : Option Addr} {c : Nat} (h : Fb w W k P C L q c) (hb : Below W.heap.size W W') : Fb w W' k P C L q c :=
  ⟨h.low.trans (hb.mono h.low.size), own_below h.own hb, fun a ha => (h.row a ha).below hb, fun a ha ad e => Nat.lt_of_lt_of_le (h.lt a ha ad e) hb.size, h.ne⟩
theorem Fb.put {w W0 W W' : World} {k : Nat} {P : Nat → Option Addr} {C : Nat → Nat} {L : Nat → List Int} {q q' pr : Option Addr} {c c' cr : Nat} {l : List Int} (h0 : Fb w W0 k P C L q c) (hr : Ri W0 W l pr cr) (hL : l = L k) (hl : l.length ≤ 4096)
    (ho : W'.ownsRow w.heap.size 27 1 (.slice q' (k + 1) c') (k + 1) (((List.range k).map fun a => .slice (P a) (L a).length (C a)) ++ [.slice pr l.length cr])) (hg : W.grownBy W' (Value.slice q k c).ownBlock) (hb : (Value.slice q' (k + 1) c').ownBlock = (Value.slice q k c).ownBlock ∨ (Value.slice q' (k + 1) c').ownBlock = some W.heap.size) :
    Fb w W' (k + 1) (fun a => if a = k then pr else P a) (fun a => if a = k then cr else C a) L q' c' := by
  subst hL
  have h := h0.next hr.low
  rw [own_blk] at hg
  rw [own_blk, own_blk] at hb
  have hlow : Below w.heap.size w W' := h.low.grown hg h.low.size (fun j hj => (h.own.lt j (by rw [own_blk]; exact hj)).1)
  have hpr : ∀ ad, pr = some ad → W0.heap.size ≤ ad.block ∧ ad.block < W.heap.size := fun ad e => hr.own.lt ad.block (by rw [own_blk, e]; rfl)
  have hqp : ∀ ad, pr = some ad → q.map Addr.block ≠ some ad.block := fun ad e e2 => by
    have := (h0.own.lt ad.block (by rw [own_blk]; exact e2)).2
    have := (hpr ad e).1
    omega
  refine ⟨hlow, ?_, fun a ha => ?_, fun a ha ad e => ?_, fun a ha ad e => ?_⟩
  · have e : (List.range (k + 1)).map (fun a => Value.slice (if a = k then pr else P a) (L a).length (if a = k then cr else C a)) = ((List.range k).map fun a => .slice (P a) (L a).length (C a)) ++ [.slice pr (L k).length cr] := by
      rw [List.range_succ, List.map_append]
      congr 1
      · refine List.map_congr_left fun a ha => ?_
        have := List.mem_range.1 ha
        rw [if_neg (by omega), if_neg (by omega)]
      · simp
    rw [e]; exact ho
  · by_cases e : a = k
    · subst e
      rw [if_pos rfl]
      exact (own_nums hr.own (by omega)).grown hg hqp
    · rw [if_neg e]
      exact (h.row a (by omega)).grown hg (h.ne a (by omega))
  · by_cases e2 : a = k
    · subst e2
      rw [if_pos rfl] at e
      exact Nat.lt_of_lt_of_le (hpr ad e).2 hg.size
    · rw [if_neg e2] at e
      exact Nat.lt_of_lt_of_le (h.lt a (by omega) ad e) hg.size
  · by_cases e2 : a = k
    · subst e2
      rw [if_pos rfl] at e
      rcases hb with e3 | e3
      · rw [e3]; exact hqp ad e
      · rw [e3]; intro e4; injection e4 with e4; have := (hpr ad e).2; omega
    · rw [if_neg e2] at e
      rcases hb with e3 | e3
      · rw [e3]; exact h.ne a (by omega) ad e
      · rw [e3]; intro e4; injection e4 with e4; have := h.lt a (by omega) ad e; omega
theorem Fb.gs {w W : World} {N : Nat} {P : Nat → Option Addr} {C : Nat → Nat} {L : Nat → List Int} {q : Option Addr} {c : Nat} (h : Fb w W N P C L q c) : GsAt W q ((List.range N).map L) := by
  refine ⟨fun a ha => ?_⟩
  have ha' : a < N := by simpa using ha
  obtain ⟨gq, cap, e, _, hl⟩ := own_some h.own (by omega)
  injection e with e1 e2 e3
  subst e1 e3
  rw [getD_map_range L [] N a ha']
  refine ⟨gq, 0, P a, C a, rfl, hl, ?_, h.row a ha'⟩
  rw [Nat.zero_add, h.own.cellAt a (by omega)]
  simp [ha']
/-- what Frontier answers -/
def RowsQ (l : List (List Int)) (w : World) (e : Ending) (w' : World) : Prop :=
  ∃ p c, e = .returned (.slice p l.length c) ∧ GsAt w' p l ∧ Below w.heap.size w w'
open Classical in
/-- the first m of a node's frontier -/
noncomputable def frontP (g : List (List Int)) (a m : Nat) : List Int := ((List.range m).filter fun b => decide ((gL g).F a b)).map Int.ofNat
theorem front_yes {g : List (List Int)} {a m : Nat} (h : (gL g).F a m) : frontP g a (m + 1) = frontP g a m ++ [(m : Int)] := by
  classical
  unfold frontP
  rw [List.range_succ, List.filter_append, List.map_append, List.filter_cons_of_pos (by simpa using h)]; rfl
theorem front_no {g : List (List Int)} {a m : Nat} (h : ¬ (gL g).F a m) : frontP g a (m + 1) = frontP g a m := by
  classical
  unfold frontP
  rw [List.range_succ, List.filter_append, List.map_append, List.filter_cons_of_neg (by simpa using h)]; simp
theorem front_len (g : List (List Int)) (a m : Nat) : (frontP g a m).length ≤ m := by
  classical
  unfold frontP
  have := List.length_filter_le (fun b => decide ((gL g).F a b)) (List.range m)
  rw [List.length_range] at this
  simpa using this
theorem front_all (g : List (List Int)) : (List.range g.length).map (fun a => frontP g a g.length) = frontL g := rfl
theorem get_memI {l : List Int} {i : Nat} (h : i < l.length) : l.getD i 0 ∈ l := by
  rw [List.getD_eq_getElem?_getD, List.getElem?_eq_getElem h]; exact List.getElem_mem h
theorem get_ofI {l : List Int} {i : Nat} {b : Int} (h : i < l.length) (e : l[i] = b) : l.getD i 0 = b := by
  rw [List.getD_eq_getElem?_getD, List.getElem?_eq_getElem h]; exact e
theorem leads_iff {g : List (List Int)} {a b : Nat} (hb : b < g.length) : leadsB g (domR g a) (b : Int) = true ↔ ∃ x, (gL g).D a x ∧ (gL g).e x b := by
  have key : leadsP g (domR g a) (b : Int) ↔ ∃ x, (gL g).D a x ∧ (gL g).e x b := by
    constructor
    · rintro ⟨x, i, h1, h2, h3, h4⟩
      rw [domR_at h1] at h2
      refine ⟨x, domB_iff.1 h2, gL_e.2 ⟨h1, ?_, hb⟩⟩
      rw [← h4]
      exact get_memI h3
    · rintro ⟨x, hd, he⟩
      obtain ⟨h1, h2, _⟩ := gL_e.1 he
      obtain ⟨i, hi, e⟩ := List.getElem_of_mem h2
      exact ⟨x, i, h1, by rw [domR_at h1]; exact domB_iff.2 hd, hi, get_ofI hi e⟩
  rw [← key]
  constructor
  · intro h
    by_cases c : leadsP g (domR g a) (b : Int)
    · exact c
    · rw [leads_no c] at h; cases h
  · exact leads_yes
theorem front_val {g : List (List Int)} {a b : Nat} {ra rb ld d : Bool} (h1 : ra = true ↔ (gL g).R a) (h2 : rb = true ↔ (gL g).R b) (h3 : ld = true ↔ ∃ x, (gL g).D a x ∧ (gL g).e x b) (h4 : d = true ↔ (gL g).D a b) : (ra && (rb && (ld && (decide (a = b) || !d)))) = true ↔ (gL g).F a b := by
  unfold Dg.F
  rw [Bool.and_eq_true, Bool.and_eq_true, Bool.and_eq_true, Bool.or_eq_true, decide_eq_true_eq, h1, h2, h3, Bool.not_eq_true', ← Bool.not_eq_true, h4]
set_option maxRecDepth 100000 in
set_option maxHeartbeats 4000000 in
theorem rfront_any (q : Option Addr) (qc : Nat) (g : List (List Int)) (w : World) (h : GsAt w q g) (hN : g.length ≤ 4096) (hT : tot g ≤ 1048576) : Calls Try.prog 13 #[.slice q g.length qc] w (RowsQ (frontL g) w) := by
  have HI := Lib.hid h
  have HT := Lib.hid (rtable_any q qc g w h hN hT)
  unfold TableQ at HT
  have HR := Lib.hid (fun W (hW : Below w.heap.size w W) => rgreach_any q qc g W (HI.out.below hW) hN hT)
  unfold ReachQ at HR
  have HLD := Lib.hid (fun (W : World) (gb a b : Nat) (hW : Below w.heap.size w W) hr => rleads_any q qc g gb (domR g a) (b : Int) W (HI.out.below hW) hN hT hr (domR_len g a))
  have HQ : Hid (∀ w2 W P C p c, Below w.heap.size w w2 → Fb w2 W g.length P C (fun a => frontP g a g.length) p c → RowsQ (frontL g) w (.returned (.slice p g.length c)) W) := Lib.hid (fun w2 W P C p c h1 h2 => by
    have hl : (frontL g).length = g.length := by rw [← front_all]; simp
    refine ⟨p, c, by rw [hl], ?_, h1.trans (h2.low.mono h1.size)⟩
    rw [← front_all]
    exact h2.gs)
  have HVAL := Lib.hid (fun a b (_ : a < g.length) (hb : b < g.length) (ra rb : Bool) h1 h2 => front_val (g := g) (a := a) (b := b) (ra := ra) (rb := rb) (ld := leadsB g (domR g a) (b : Int)) (d := (domR g a).getD b false) h1 h2 (leads_iff hb) (by rw [domR_at hb]; exact domB_iff))
  have HYS := Lib.hid (fun a m h => front_yes (g := g) (a := a) (m := m) h)
  have HNS := Lib.hid (fun a m h => front_no (g := g) (a := a) (m := m) h)
  have HF0 : Hid (∀ a, frontP g a 0 = []) := Lib.hid (fun a => List.eq_nil_of_length_eq_zero (Nat.le_zero.1 (front_len g a 0)))
  have HFLN := Lib.hid (front_len g)
  generalize RowsQ (frontL g) w = Q at *
  have HDL := Lib.hid (domR_len g)
  generalize domR g = D at *
  generalize frontP g = FP at *
  generalize hLB : leadsB g = LB at *
  generalize hGF : (gL g).F = GF at *
  generalize hGR : (gL g).R = GR at *
  obtain ⟨N, hNl⟩ : ∃ N, g.length = N := ⟨_, rfl⟩
  rw [hNl] at hN HT HR HLD HQ HVAL HDL ⊢
  have HN9 := Lib.hid (fun (x : Int) W => nums_new (k := .i64) W 3 [x] #[.int .i64 x] rfl (by simp))
  clear h hNl hLB hGF hGR
  go_enter Try.func13, Try.ntmps13
  go_wp2_with (first
    | (go_at_call 26; (with_reducible refine HT.out.mono ?_); rintro e w1 ⟨pt, ct, rfl, ht, hb⟩; have B1 := Lib.hid hb; have HTT1 := Lib.hid ht; clear hb ht)
    | (go_at_call 18; (with_reducible refine (HR.out _ B1.out).mono ?_); rintro e w2 ⟨gr, LR, rfl, hgr, hrr, hlr, hdr, hbr⟩; have B2 := Lib.hid (B1.out.trans (hbr.mono B1.out.size)); have HTT := Lib.hid (HTT1.out.below hbr); have HRR := Lib.hid hrr; have HRL := Lib.hid hlr; have HRD := Lib.hid hdr; clear hgr hrr hlr hdr hbr))
  go_loopw [5, 6] (fun o v wr => ∃ (k : Nat) (P : Nat → Option Addr) (C : Nat → Nat) (p : Option Addr) (c : Nat), k ≤ N ∧ v = .int .i64 (k : Int) ∧ o = .slice p k c ∧ Fb w2 wr k P C (fun a => FP a N) p c) (fun _ v _ => N - (intOf v).toNat)
  case atStart => exact ⟨0, fun _ => none, fun _ => 0, none, 0, Nat.zero_le _, rfl, rfl, Below.refl _ _, World.ownsRow_nil _ _ _ _, fun a ha => absurd ha (Nat.not_lt_zero _), fun a ha => absurd ha (Nat.not_lt_zero _), fun a ha => absurd ha (Nat.not_lt_zero _)⟩
  case round =>
    clear HT HR HTT1
    obtain ⟨k, P, C, p, c, hk, rfl, rfl, hfb⟩ := hrel
    have HFB := Lib.hid hfb
    by_cases hlt : k < N
    · obtain ⟨w3, hw3⟩ : ∃ W, wr = W := ⟨_, rfl⟩
      rw [hw3] at HFB ⊢
      clear hfb hw3
      go_wp2_with fail
      go_loopw [7, 8] (fun r v wr2 => ∃ (m : Nat) (pr : Option Addr) (cr : Nat), m ≤ N ∧ v = .int .i64 (m : Int) ∧ r = .slice pr (FP k m).length cr ∧ Ri w3 wr2 (FP k m) pr cr) (fun _ v _ => N - (intOf v).toNat)
      case atStart => exact ⟨0, none, 0, Nat.zero_le _, rfl, by rw [HF0.out]; rfl, by rw [HF0.out]; exact Ri.nil w3⟩
      case round =>
        obtain ⟨m, pr, cr, hm, rfl, rfl, hri⟩ := hrel
        have HRI := Lib.hid hri
        by_cases hmN : m < N
        · have hb2 : Below w2.heap.size w2 wr := HFB.out.low.trans (hri.low.mono HFB.out.low.size)
          have rk := (HRR.out.next hb2).cell k (by rw [HRL.out]; exact hlt)
          have rm := (HRR.out.next hb2).cell m (by rw [HRL.out]; exact hmN)
          have rl := (HRR.out.next hb2).lt
          obtain ⟨b1, o1, gb, hpt, hl1, d0, hr, hd⟩ := (HTT.out.below hb2).cells k hlt
          have d1 := hr.cell m (by rw [hd]; exact hmN)
          have d2 := hr.lt
          have HLC := Lib.hid (HLD.out wr gb k m (B2.out.trans (hb2.mono B2.out.size)) hr)
          have HV := Lib.hid (HVAL.out k m hlt hmN (LR.getD k false) (LR.getD m false) (HRD.out k hlt) (HRD.out m hmN))
          have HYES := Lib.hid (fun hh => HYS.out k m (HV.out.1 hh))
          have HNO : Hid (¬ ((LR.getD k false && (LR.getD m false && (LB (D k) (m : Int) && (decide (k = m) || !((D k).getD m false))))) = true) → FP k (m + 1) = FP k m) := Lib.hid (fun hh => HNS.out k m (fun c => hh (HV.out.2 c)))
          have HFL := Lib.hid (HFLN.out k m)
          subst hpt
          clear hri hb2 hr hd HV
          generalize FP k m = l0 at *
          generalize LR.getD k false = ra at *
          generalize LR.getD m false = rb at *
          generalize LB (D k) (m : Int) = ld at *
          generalize (D k).getD m false = dd at *
          cases ra with
          | false =>
            have HE := Lib.hid (HNO.out (by simp))
            clear HNO HYES
            go_wp2_with fail
            go_roundw
            case rel => exact ⟨m + 1, pr, cr, by omega, rfl, by rw [HE.out], by rw [HE.out]; exact HRI.out⟩
            case measure => simp [intOf]; omega
          | true =>
            cases rb with
            | false =>
              have HE := Lib.hid (HNO.out (by simp))
              clear HNO HYES
              go_wp2_with fail
              go_roundw
              case rel => exact ⟨m + 1, pr, cr, by omega, rfl, by rw [HE.out], by rw [HE.out]; exact HRI.out⟩
              case measure => simp [intOf]; omega
            | true =>
              cases ld with
              | false =>
                have HE := Lib.hid (HNO.out (by simp))
                clear HNO HYES
                go_wp2_with (go_at_call 27; (with_reducible refine HLC.out.mono ?_); rintro e w4 ⟨rfl, rfl⟩)
                go_roundw
                case rel => exact ⟨m + 1, pr, cr, by omega, rfl, by rw [HE.out], by rw [HE.out]; exact HRI.out⟩
                case measure => simp [intOf]; omega
              | true =>
                by_cases hkm : k = m
                · have hb : ((k : Int) == (m : Int)) = true := by simp [hkm]
                  have HE := Lib.hid (HYES.out (by simp [hkm]))
                  clear HNO HYES hkm
                  go_wp2_with (first
                    | (go_at_call 27; (with_reducible refine HLC.out.mono ?_); rintro e w4 ⟨rfl, rfl⟩)
                    | (at_builtin; refine wpList_app_ints rfl (.tmp 59) (.tmp 61) rfl rfl w3.heap.size (some ⟨wr.heap.size, 0, none⟩) [(m : Int)] l0 (.slice pr l0.length cr) 1 1 rfl rfl rfl (HRI.out.next ((Below.refl _ _).alloc (Nat.le_refl _) _)).own (HN9.out _ _) (by have := HRI.out.low.size; simp; omega) (by have := HFL.out; simp; omega) ?_; intro v8 w8 ho8 hg8 hb8; obtain ⟨q8, c8, rfl⟩ := own_form ho8; have HP := Lib.hid ((HRI.out.next ((Below.refl _ _).alloc (Nat.le_refl _) _)).app rfl ho8 rfl hg8); clear ho8 hg8 hb8))
                  go_roundw
                  case rel => exact ⟨m + 1, q8, c8, by omega, rfl, by rw [HE.out]; simp, by rw [HE.out]; exact HP.out⟩
                  case measure => simp [intOf]; omega
                · have hb : ((k : Int) == (m : Int)) = false := by simp; omega
                  cases dd with
                  | false =>
                    have HE := Lib.hid (HYES.out (by simp))
                    clear HNO HYES
                    go_wp2_with (first
                      | (go_at_call 27; (with_reducible refine HLC.out.mono ?_); rintro e w4 ⟨rfl, rfl⟩)
                      | (at_builtin; refine wpList_app_ints rfl (.tmp 59) (.tmp 61) rfl rfl w3.heap.size (some ⟨wr.heap.size, 0, none⟩) [(m : Int)] l0 (.slice pr l0.length cr) 1 1 rfl rfl rfl (HRI.out.next ((Below.refl _ _).alloc (Nat.le_refl _) _)).own (HN9.out _ _) (by have := HRI.out.low.size; simp; omega) (by have := HFL.out; simp; omega) ?_; intro v8 w8 ho8 hg8 hb8; obtain ⟨q8, c8, rfl⟩ := own_form ho8; have HP := Lib.hid ((HRI.out.next ((Below.refl _ _).alloc (Nat.le_refl _) _)).app rfl ho8 rfl hg8); clear ho8 hg8 hb8))
                    go_roundw
                    case rel => exact ⟨m + 1, q8, c8, by omega, rfl, by rw [HE.out]; simp, by rw [HE.out]; exact HP.out⟩
                    case measure => simp [intOf]; omega
                  | true =>
                    have HE := Lib.hid (HNO.out (by simp [hkm]))
                    clear HNO HYES
                    go_wp2_with (go_at_call 27; (with_reducible refine HLC.out.mono ?_); rintro e w4 ⟨rfl, rfl⟩)
                    go_roundw
                    case rel => exact ⟨m + 1, pr, cr, by omega, rfl, by rw [HE.out], by rw [HE.out]; exact HRI.out⟩
                    case measure => simp [intOf]; omega
        · obtain rfl : m = N := by omega
          have hll := HFLN.out k m
          clear hri
          go_wp2_with (at_builtin; refine wpList_app_rowI rfl (.tmp 63) (.tmp 65) rfl rfl w2.heap.size ⟨wr.heap.size, 0, none⟩ (.slice pr (FP k m).length cr) ((List.range k).map fun a => .slice (P a) (FP a m).length (C a)) (.slice p k c) k 1 rfl rfl (own_below (HFB.out.next HRI.out.low).own ((Below.refl _ _).alloc (Nat.le_refl _) _)) (new_cells0 _ _ _) rfl (by have := HFB.out.low.size; have := HRI.out.low.size; simp; omega) (by omega) ?_; intro v8 w8 ho8 hg8 hb8; obtain ⟨q8, c8, rfl⟩ := own_form ho8; have HP := Lib.hid (Fb.put (L := fun a => FP a m) HFB.out (HRI.out.next ((Below.refl _ _).alloc (Nat.le_refl _) _)) rfl (by omega) ho8 hg8 hb8); clear ho8 hg8 hb8)
          go_roundw
          case rel => exact ⟨k + 1, _, _, q8, c8, by omega, rfl, rfl, HP.out⟩
          case measure => simp [intOf]; omega
    · obtain rfl : k = N := by omega
      have HD := Lib.hid (HQ.out w2 wr P C p c B2.out HFB.out)
      clear hfb
      go_wp2_with fail
      exact HD.out
end Go.Proofs.Ytgaacdnljkildaa
