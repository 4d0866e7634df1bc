/- Flow: the document's own leaders. -/
import Derived.Test.YtlpijnnlmgoihaaFG
import Derived.Test.YtlpijnnlmgoihaaMF
import Derived.Test.YtlpijnnlmgoihaaFS
namespace Go.Proofs.Ytlpijnnlmgoihaa
open Go.RowKit M

/-- in the loop of leaders -/
structure Lw (w W : World) (g : Nat) (L : List Bool) : Prop where
  low : Below w.heap.size w W
  gb : w.heap.size ≤ g
  rb : Rb W g L
theorem Lw.next {w W W' : World} {g : Nat} {L : List Bool} (h : Lw w W g L) (hb : Below W.heap.size W W') : Lw w W' g L :=
  ⟨h.low.trans (hb.mono h.low.size), h.gb, h.rb.next hb⟩
theorem Rb.setV {W : World} {g k : Nat} {l : List Bool} {v : Bool} (h : Rb W g l) (hk : k < l.length) : Rb (W.setCell ⟨g, k, none⟩ (.bool v)) g (l.set k v) := by
  refine ⟨by simpa [World.setCell] using h.lt, fun i hi => ?_, fun j => (World.frozen?_setCell ..).trans (h.fr j)⟩
  rw [List.length_set] at hi
  rw [Fl.getD_set_v _ _ _ _ hk]
  by_cases e : i = k
  · subst e
    rw [if_pos rfl]
    exact World.cell?_setCell_same _ _ _ (h.cell i hi)
  · rw [if_neg e]
    exact (World.cell?_setCell_other _ _ _ _ (fun e' => e (congrArg Addr.off e').symm)).trans (h.cell i hi)
theorem Lw.set {w W : World} {g k : Nat} {L : List Bool} {v : Bool} (h : Lw w W g L) (hk : k < L.length) : Lw w (W.setCell ⟨g, k, none⟩ (.bool v)) g (L.set k v) :=
  ⟨h.low.setCell (p := ⟨g, k, none⟩) h.gb _, h.gb, h.rb.setV hk⟩
theorem Lw.start (w : World) (n : Nat) : Lw w (w.alloc (.cells (madeCells #[.bool false] n) 4)) w.heap.size (List.replicate n false) := by
  refine ⟨(Below.refl _ _).alloc (Nat.le_refl _) _, Nat.le_refl _, by simp, fun i hi => ?_, fun j => World.frozen?_alloc_new _ _ _ j⟩
  have hi' : i < n := by simpa using hi
  refine cell_new w ?_
  rw [List.getD_eq_getElem?_getD, List.getElem?_replicate, if_pos hi']
  simp [madeCells, hi', Nat.mod_one]
theorem Lw.start2 (w : World) (n : Nat) (hn : 0 < n) : Lw w (w.alloc (.cells ((madeCells #[.bool false] n).setIfInBounds 0 (.bool true)) 4)) w.heap.size ((List.replicate n false).set 0 true) := by
  refine ⟨(Below.refl _ _).alloc (Nat.le_refl _) _, Nat.le_refl _, by simp, fun i hi => ?_, fun j => World.frozen?_alloc_new _ _ _ j⟩
  have hi' : i < n := by simpa using hi
  refine cell_new w ?_
  rw [Fl.getD_set_v _ _ _ _ (by simpa using hn), Array.getElem?_setIfInBounds]
  by_cases e : i = 0
  · subst e
    rw [if_pos rfl, if_pos rfl, if_pos (by simp [madeCells]; omega)]
  · rw [if_neg e, if_neg (fun h => e h.symm), List.getD_eq_getElem?_getD, List.getElem?_replicate, if_pos hi']
    simp [madeCells, hi', Nat.mod_one]
theorem NumsAt.setOther {k : IntKind} {w : World} {q : Option Addr} {l : List Int} (h : NumsAt k w q l) {a : Addr} (ha : ∀ ad, q = some ad → ad.block ≠ a.block) (v : Value) : NumsAt k (w.setCell a v) q l :=
  ⟨h.small, fun i hi => by
    obtain ⟨b, o, hq, hb, hc⟩ := h.cells i hi
    exact ⟨b, o, hq, by simpa [World.setCell] using hb, (World.cell?_setCell_other w a ⟨b, o + i, none⟩ v (fun e => ha _ hq (show b = a.block from (congrArg Addr.block e).symm))).trans hc⟩⟩
section
variable {P : Program} {md : Region.Mode} {ops : Array Oper} {Q : Exit → Act → World → Prop} {S : World → Prop}
theorem takeNo {i : Nat} {oi : Oper} (d : Option Tmp) {fuel : Nat} {listed : Array Bool} {a : Act} {w : World} (hi : ops[i]? = some oi) (hd : oi.dst = d)
    (hs : Region.noSelect ops = true) (hf : Region.free md ops listed i = true) (hr : (Region.ready md ops listed).contains i = true)
    (hQ : ∀ c a w, Q (.panic c) (a.put d undef) w → Q (.panic c) a w) (hw : Region.wanted oi (yielded ops a.tmps) = false) (hS : S w)
    (h : wpAnyH P md ops Q S fuel (listed.setIfInBounds i true) (a.put d undef) w) : wpAnyH P md ops Q S (fuel + 1) listed a w := by
  subst hd
  exact wpAnyH_take hi hs hf hr hQ (Or.inr ⟨hw, rfl⟩) hS h
theorem takeYes {i : Nat} {oi : Oper} {v : Value} (d : Option Tmp) {fuel : Nat} {listed : Array Bool} {a : Act} {w : World} (hi : ops[i]? = some oi) (hd : oi.dst = d)
    (hs : Region.noSelect ops = true) (hf : Region.free md ops listed i = true) (hr : (Region.ready md ops listed).contains i = true)
    (hQ : ∀ c a w, Q (.panic c) (a.put d v) w → Q (.panic c) a w) (hw : Region.wanted oi (yielded ops a.tmps) = true) (hy : ∀ w, S w → (execOp a.eval oi).run P w = .ok (.value v) w) (hS : S w)
    (h : wpAnyH P md ops Q S fuel (listed.setIfInBounds i true) (a.put d v) w) : wpAnyH P md ops Q S (fuel + 1) listed a w := by
  subst hd
  exact wpAnyH_take hi hs hf hr hQ (Or.inl ⟨hw, hy⟩) hS h
end
/-- in the inner round of leaders -/
structure Ls (w W : World) (L : List Bool) (p2 : Option Addr) (xs : List Int) (b2 o2 m : Nat) (s : Int) (b3 o3 i : Nat) (X : In) : Prop where
  lw : Lw w W w.heap.size L
  nu : NumsAt .i64 W p2 xs
  l2 : b2 < W.heap.size
  l3 : b3 < W.heap.size
  s : W.cell? ⟨b2, o2 + m, none⟩ = some (.int .i64 s) ∧ W.cell? ⟨b3, o3 + i * 6, none⟩ = some (.int .i64 X.op) ∧ W.cell? ⟨b3, o3 + i * 6 + 1, none⟩ = some (.int .i64 X.dst) ∧ W.cell? ⟨b3, o3 + i * 6 + 2, none⟩ = some (.int .i64 X.src) ∧ W.cell? ⟨b3, o3 + i * 6 + 3, none⟩ = some (.int .i64 X.off) ∧ W.cell? ⟨b3, o3 + i * 6 + 4, none⟩ = some (.int .i64 X.imm) ∧ W.cell? ⟨b3, o3 + i * 6 + 5, none⟩ = some (.int .u64 X.wide)
theorem Ls.next {w W W' : World} {L : List Bool} {p2 : Option Addr} {xs : List Int} {b2 o2 m : Nat} {s : Int} {b3 o3 i : Nat} {X : In} (h : Ls w W L p2 xs b2 o2 m s b3 o3 i X) (hb : Below W.heap.size W W') : Ls w W' L p2 xs b2 o2 m s b3 o3 i X := by
  obtain ⟨h1, h2, l2, l3, c, d0, d1, d2, d3, d4, d5⟩ := h
  exact ⟨h1.next hb, h2.below hb, Nat.lt_of_lt_of_le l2 hb.size, Nat.lt_of_lt_of_le l3 hb.size, (hb.cell (p := ⟨b2, _, none⟩) l2).trans c, (hb.cell (p := ⟨b3, _, none⟩) l3).trans d0, (hb.cell (p := ⟨b3, _, none⟩) l3).trans d1, (hb.cell (p := ⟨b3, _, none⟩) l3).trans d2, (hb.cell (p := ⟨b3, _, none⟩) l3).trans d3, (hb.cell (p := ⟨b3, _, none⟩) l3).trans d4, (hb.cell (p := ⟨b3, _, none⟩) l3).trans d5⟩
theorem cell_oth {W : World} {b o g k : Nat} {u v : Value} (h : W.cell? ⟨b, o, none⟩ = some u) (hb : b ≠ g) : (W.setCell ⟨g, k, none⟩ v).cell? ⟨b, o, none⟩ = some u :=
  (World.cell?_setCell_other W ⟨g, k, none⟩ ⟨b, o, none⟩ v (fun e => hb (show b = g from (congrArg Addr.block e).symm))).trans h
theorem Ls.set {w W : World} {L : List Bool} {p2 : Option Addr} {xs : List Int} {b2 o2 m : Nat} {s : Int} {b3 o3 i k : Nat} {X : In} {v : Bool} (h : Ls w W L p2 xs b2 o2 m s b3 o3 i X) (hk : k < L.length) (hp : ∀ ad, p2 = some ad → ad.block ≠ w.heap.size) (h2 : b2 ≠ w.heap.size) (h3 : b3 ≠ w.heap.size) :
    Ls w (W.setCell ⟨w.heap.size, k, none⟩ (.bool v)) (L.set k v) p2 xs b2 o2 m s b3 o3 i X := by
  obtain ⟨h1, hn, l2, l3, c, d0, d1, d2, d3, d4, d5⟩ := h
  exact ⟨h1.set hk, NumsAt.setOther hn hp _, by simpa [World.setCell] using l2, by simpa [World.setCell] using l3, cell_oth c h2, cell_oth d0 h3, cell_oth d1 h3, cell_oth d2 h3, cell_oth d3 h3, cell_oth d4 h3, cell_oth d5 h3⟩
set_option maxRecDepth 100000 in
set_option maxHeartbeats 4000000 in
theorem rlead_any (q : Option Addr) (qc : Nat) (l : List In) (p : Option Addr) (pc : Nat) (w : World) (h : InsAt w q l) (hc : (checkS l).2 = 0) (hr : NumsAt .i64 w p (reachI l)) :
    Calls Try.prog 24 #[.slice q l.length qc, .slice p (reachI l).length pc] w fun e w' => ∃ g L, e = .returned (.slice (some ⟨g, 0, none⟩) (l.length + 2) (l.length + 2)) ∧ L.length = l.length + 2 ∧ (∀ j, L.getD j false = (gOf l).lead j) ∧ Lw w w' g L := by
  have HG := Lib.hid (check_flow hc)
  have hN := (check_ok hc).1
  have HI := Lib.hid h
  have HR := Lib.hid hr
  have HL0 : Hid ((gOf l).Ld 0 0 ((List.replicate (l.length + 2) false).set 0 true)) := Lib.hid (Fl.Fg.Ld.start (gOf l))
  have hrn : (reachI l).length = (gOf l).reach.length := by rw [reachI_ok hc]; simp
  have HRA : Hid (∀ k, k < (gOf l).reach.length → (reachI l).getD k 0 = (((gOf l).reach.getD k 0 : Nat) : Int)) := Lib.hid (fun k hk => by
    rw [reachI_ok hc, List.getD_eq_getElem?_getD, List.getElem?_map, List.getD_eq_getElem?_getD, List.getElem?_eq_getElem hk]; rfl)
  have HLW := Lib.hid (Lw.start w (l.length + 2))
  have hs := hr.small
  have HCK := Lib.hid hc
  obtain ⟨N, hNl⟩ : ∃ N, l.length = N := ⟨_, rfl⟩
  have HNL := Lib.hid hNl
  obtain ⟨M, hM⟩ : ∃ M, (gOf l).reach.length = M := ⟨_, rfl⟩
  rw [hrn, hM] at hs ⊢
  rw [hM] at HRA
  have HM := Lib.hid hM
  have HRN := Lib.hid hrn
  rw [hNl] at hN HL0 HLW ⊢
  clear h hc hNl hr hrn hM
  have hmk := fun W => run_make_row' (P := Try.prog) 49 4 (.bool false) 1 Try.underlying49 infoBool rfl .i64 .i64 (N + 2) (by omega) (by omega) W
  have e2 : ((N + 2 : Nat) : Int) = (N : Int) + 2 := by omega
  simp only [e2] at hmk
  have c0 := HLW.out.rb.cell 0 (by simp)
  have hl := HLW.out.rb.lt
  have hf := HLW.out.rb.fr 0
  go_enter Try.func24, Try.ntmps24
  go_wp2_with fail
  clear hf hl hmk e2
  have HSU := Lib.hid (fun (i : Int) (W : World) (hW : Below w.heap.size w W) => rsucc_new q qc l i W (HI.out.below hW))
  unfold SuccQ at HSU
  rw [HNL.out] at HSU
  go_loopw [6] (fun k wr => ∃ (a : Nat) (L : List Bool), a ≤ M ∧ k = .int .i64 (a : Int) ∧ Hid ((gOf l).Ld a 0 L) ∧ Lw w wr w.heap.size L) (fun k _ => M - (intOf k).toNat)
  case atStart => exact ⟨0, _, Nat.zero_le _, rfl, HL0, Lw.start2 w (N + 2) (by omega)⟩
  case round =>
    clear HLW HL0 c0
    obtain ⟨a, L, ha, rfl, HLd, hlw⟩ := hrel
    have HW := Lib.hid hlw
    by_cases hlt : a < M
    · obtain ⟨b1, o1, rfl, hl1, c0⟩ := (HR.out.below hlw.low).cells a (by rw [HRN.out, HM.out]; exact hlt)
      rw [HRA.out a hlt] at c0
      have hR : (gOf l).R ((gOf l).reach.getD a 0) := (Fl.Fg.mem_reach HG.out).1 (Fl.getD_mem (by rw [HM.out]; exact hlt))
      have hiN := (hR.ok HG.out).1
      have HSI := HSU.out (((gOf l).reach.getD a 0 : Nat) : Int)
      rw [su_ints HCK.out hR] at HSI
      have HST := Lib.hid (fun m L (h : (gOf l).Ld a m L) hm hs => h.step hm hs)
      clear hlw
      have HNX := Lib.hid (fun (L : List Bool) (h : (gOf l).Ld a ((gOf l).su ((gOf l).reach.getD a 0)).length L) => h.next (by rw [HM.out]; exact hlt))
      have HSL : Hid (∀ m, m < ((gOf l).su ((gOf l).reach.getD a 0)).length → ((gOf l).su ((gOf l).reach.getD a 0)).getD m 0 < N) := Lib.hid (fun m hm => by
        have := (HG.out.su _ hiN (hR.ok HG.out).2 _ (Fl.getD_mem hm)).1
        rw [← HNL.out]; exact this)
      have HBD := Lib.hid (fun (W : World) (hW : Below w.heap.size w W) => (HI.out.below hW).cells ((gOf l).reach.getD a 0) hiN)
      have hiN' : (gOf l).reach.getD a 0 < N := by rw [← HNL.out]; exact hiN
      have HRN2 := Lib.hid (fun (W : World) (hW : Below w.heap.size w W) => rnext_any q qc l ((gOf l).reach.getD a 0) hiN W (HI.out.below hW))
      have HRJ := Lib.hid (fun (W : World) => rjumps_any (l.getD ((gOf l).reach.getD a 0) z) (HI.out.bd _ hiN) W)
      have HJU : Hid (jB (l.getD ((gOf l).reach.getD a 0) z) = (gOf l).ju ((gOf l).reach.getD a 0)) := Lib.hid rfl
      have HNXT : Hid (nxI (l.getD ((gOf l).reach.getD a 0) z) ((gOf l).reach.getD a 0) = (gOf l).nx ((gOf l).reach.getD a 0)) := Lib.hid rfl
      clear hiN hR
      rw [HNL.out] at HRN2
      rw [HJU.out] at HRJ
      rw [HNXT.out] at HRN2
      clear HJU HNXT
      generalize (gOf l).nx ((gOf l).reach.getD a 0) = NX at *
      generalize (gOf l).ju ((gOf l).reach.getD a 0) = JU at *
      generalize (gOf l).su ((gOf l).reach.getD a 0) = SU at *
      generalize (gOf l).reach.getD a 0 = i at *
      generalize l.getD i z = X at *
      simp only [List.length_map] at HSI
      have HSI2 := Lib.hid HSI
      obtain ⟨S, hS⟩ : ∃ S, SU.length = S := ⟨_, rfl⟩
      rw [hS] at HNX HSL HST HSI2
      have HS := Lib.hid hS
      clear HSI hS
      go_wp2_with (go_at_call 16; (with_reducible refine (HSI2.out _ HW.out.low).mono ?_); rintro e w1 ⟨p2, c2, rfl, hn, hb, hp⟩; have HX := Lib.hid (HW.out.next hb); have HNU := Lib.hid hn; have HPP := Lib.hid (fun ad h => Nat.ne_of_gt (Nat.lt_of_lt_of_le HW.out.rb.lt (hp ad h))); clear hn hb hp)
      go_loopw [9] (fun v wr2 => ∃ (m : Nat) (L2 : List Bool), m ≤ S ∧ v = .int .i64 (m : Int) ∧ Hid ((gOf l).Ld a m L2) ∧ Lw w wr2 w.heap.size L2 ∧ NumsAt .i64 wr2 p2 (SU.map Int.ofNat)) (fun v _ => S - (intOf v).toNat)
      case atStart => exact ⟨0, L, Nat.zero_le _, rfl, HLd, HX.out, HNU.out⟩
      case round =>
        clear HX HNU HLd HW hl1 c0
        obtain ⟨m, L2, hmS, rfl, HLd, hlw, hnu⟩ := hrel
        by_cases hm : m < S
        · obtain ⟨b2, o2, rfl, hl2, c0⟩ := (hnu.below ((Below.refl _ _).drew)).cells m (by rw [List.length_map, HS.out]; exact hm)
          obtain ⟨b3, o3, rfl, hl3, d⟩ := HBD.out wr.drew hlw.low.drew
          obtain ⟨b3', o3', hq3, hb3, _⟩ := HBD.out w (Below.refl _ _)
          have n3 : b3 ≠ w.heap.size := by
            injection hq3 with hq3
            injection hq3 with hq3 _
            omega
          clear hq3 hb3
          have n2 : b2 ≠ w.heap.size := HPP.out _ rfl
          have hsN := HSL.out m hm
          have HLd2 := Lib.hid (HST.out m L2 HLd.out hm (by have := HNL.out; show _ < l.length + 2; omega))
          have hll : L2.length = N + 2 := by rw [HLd.out.len, ← HNL.out]; rfl
          have hse : (SU.map Int.ofNat).getD m 0 = ((SU.getD m 0 : Nat) : Int) := by
            have hm' : m < SU.length := by rw [HS.out]; exact hm
            rw [List.getD_eq_getElem?_getD, List.getElem?_map, List.getD_eq_getElem?_getD, List.getElem?_eq_getElem hm']; rfl
          rw [hse] at c0
          have hSs := hnu.small
          rw [List.length_map, HS.out] at hSs
          have mS : (m : Int) + 1 ≤ 140737488351232 := by omega
          have HN := Lib.hid (Ls.mk (xs := SU.map Int.ofNat) (p2 := some ⟨b2, o2, none⟩) (hlw.next ((Below.refl _ _).drew)) (hnu.below ((Below.refl _ _).drew)) hl2 hl3 ⟨c0, d⟩)
          clear hse c0 d hl2 hl3 hlw hnu HLd
          generalize hs9 : SU.getD m 0 = s at *
          clear hs9
          have oc := HN.out.lw.rb.cell s (by omega)
          have sN : (s : Int) < (N : Int) + 2 := by omega
          cases hv : L2.getD s false with
          | true =>
            rw [hv] at oc HLd2
            simp only [Bool.true_or] at HLd2
            clear hv
            have f0 := HN.out.lw.rb.fr s
            have f1 := HN.out.lw.rb.lt
            go_wp2_with fail
            refine wp_region_held_drew (S := (fun W => W.cell? ⟨b2, o2 + m, none⟩ = some (.int .i64 (s : Int)) ∧ W.cell? ⟨b3, o3 + i * 6, none⟩ = some (.int .i64 X.op) ∧ W.cell? ⟨b3, o3 + i * 6 + 1, none⟩ = some (.int .i64 X.dst) ∧ W.cell? ⟨b3, o3 + i * 6 + 2, none⟩ = some (.int .i64 X.src) ∧ W.cell? ⟨b3, o3 + i * 6 + 3, none⟩ = some (.int .i64 X.off) ∧ W.cell? ⟨b3, o3 + i * 6 + 4, none⟩ = some (.int .i64 X.imm) ∧ W.cell? ⟨b3, o3 + i * 6 + 5, none⟩ = some (.int .u64 X.wide))) (by kernel_rfl) HN.out.s (fun hHeld => ?_)
            refine takeYes (i := 0) (v := ?vA0) (some 35) rfl rfl (by kernel_rfl) (by kernel_rfl) (by kernel_rfl) (fun _ _ _ h => h) (by rfl) ?yA0 hHeld ?rA0
            case yA0 =>
              intro w hSw
              try dsimp only at hSw
              go_simp
              try (with_reducible rfl)
            case rA0 =>
            try simp only [Act.put, List.setIfInBounds_toArray, List.set_cons_zero, List.set_cons_succ]
            refine takeYes (i := 1) (v := ?vA1) (some 36) rfl rfl (by kernel_rfl) (by kernel_rfl) (by kernel_rfl) (fun _ _ _ h => h) (by rfl) ?yA1 hHeld ?rA1
            case yA1 =>
              intro w hSw
              try dsimp only at hSw
              go_simp
              try (with_reducible rfl)
            case rA1 =>
            try simp only [Act.put, List.setIfInBounds_toArray, List.set_cons_zero, List.set_cons_succ]
            refine takeYes (i := 2) (v := ?vA2) (some 37) rfl rfl (by kernel_rfl) (by kernel_rfl) (by kernel_rfl) (fun _ _ _ h => h) (by rfl) ?yA2 hHeld ?rA2
            case yA2 =>
              intro w hSw
              try dsimp only at hSw
              go_simp
              try (with_reducible rfl)
            case rA2 =>
            try simp only [Act.put, List.setIfInBounds_toArray, List.set_cons_zero, List.set_cons_succ]
            refine takeYes (i := 3) (v := ?vA3) (some 38) rfl rfl (by kernel_rfl) (by kernel_rfl) (by kernel_rfl) (fun _ _ _ h => h) (by rfl) ?yA3 hHeld ?rA3
            case yA3 =>
              intro w hSw
              try dsimp only at hSw
              go_simp
              try (with_reducible rfl)
            case rA3 =>
            try simp only [Act.put, List.setIfInBounds_toArray, List.set_cons_zero, List.set_cons_succ]
            refine takeYes (i := 4) (v := ?vA4) (some 39) rfl rfl (by kernel_rfl) (by kernel_rfl) (by kernel_rfl) (fun _ _ _ h => h) (by rfl) ?yA4 hHeld ?rA4
            case yA4 =>
              intro w hSw
              try dsimp only at hSw
              go_simp
              try (with_reducible rfl)
            case rA4 =>
            try simp only [Act.put, List.setIfInBounds_toArray, List.set_cons_zero, List.set_cons_succ]
            refine takeYes (i := 5) (v := ?vA5) (some 40) rfl rfl (by kernel_rfl) (by kernel_rfl) (by kernel_rfl) (fun _ _ _ h => h) (by rfl) ?yA5 hHeld ?rA5
            case yA5 =>
              intro w hSw
              try dsimp only at hSw
              go_simp
              try (with_reducible rfl)
            case rA5 =>
            try simp only [Act.put, List.setIfInBounds_toArray, List.set_cons_zero, List.set_cons_succ]
            refine takeYes (i := 6) (v := ?vA6) (some 41) rfl rfl (by kernel_rfl) (by kernel_rfl) (by kernel_rfl) (fun _ _ _ h => h) (by rfl) ?yA6 hHeld ?rA6
            case yA6 =>
              intro w hSw
              try dsimp only at hSw
              go_simp
              try (with_reducible rfl)
            case rA6 =>
            try simp only [Act.put, List.setIfInBounds_toArray, List.set_cons_zero, List.set_cons_succ]
            refine takeYes (i := 7) (v := ?vA7) (some 42) rfl rfl (by kernel_rfl) (by kernel_rfl) (by kernel_rfl) (fun _ _ _ h => h) (by rfl) ?yA7 hHeld ?rA7
            case yA7 =>
              intro w hSw
              try dsimp only at hSw
              go_simp
              try (with_reducible rfl)
            case rA7 =>
            try simp only [Act.put, List.setIfInBounds_toArray, List.set_cons_zero, List.set_cons_succ]
            refine takeYes (i := 8) (v := ?vA8) (some 43) rfl rfl (by kernel_rfl) (by kernel_rfl) (by kernel_rfl) (fun _ _ _ h => h) (by rfl) ?yA8 hHeld ?rA8
            case yA8 =>
              intro w hSw
              try dsimp only at hSw
              go_simp
              try (with_reducible rfl)
            case rA8 =>
            try simp only [Act.put, List.setIfInBounds_toArray, List.set_cons_zero, List.set_cons_succ]
            refine takeYes (i := 9) (v := ?vA9) (some 44) rfl rfl (by kernel_rfl) (by kernel_rfl) (by kernel_rfl) (fun _ _ _ h => h) (by rfl) ?yA9 hHeld ?rA9
            case yA9 =>
              intro w hSw
              try dsimp only at hSw
              go_simp
              try (with_reducible rfl)
            case rA9 =>
            try simp only [Act.put, List.setIfInBounds_toArray, List.set_cons_zero, List.set_cons_succ]
            refine takeYes (i := 10) (v := ?vA10) (some 45) rfl rfl (by kernel_rfl) (by kernel_rfl) (by kernel_rfl) (fun _ _ _ h => h) (by rfl) ?yA10 hHeld ?rA10
            case yA10 =>
              intro w hSw
              try dsimp only at hSw
              go_simp
              try (with_reducible rfl)
            case rA10 =>
            try simp only [Act.put, List.setIfInBounds_toArray, List.set_cons_zero, List.set_cons_succ]
            refine wpAnyH_ready (rs := [11]) (by kernel_rfl) (by simp) ?_
            refine AllReadyH.cons rfl (fun K hK => ?_) AllReadyH.nil
            go_simp
            try dsimp only
            refine hK.out _ _ HN.out.s (fun hHeld2 => ?_)
            clear hK K
            try simp only [Act.put, List.setIfInBounds_toArray, List.set_cons_zero, List.set_cons_succ]
            refine takeYes (i := 12) (v := ?vA12) (some 47) rfl rfl (by kernel_rfl) (by kernel_rfl) (by kernel_rfl) (fun _ _ _ h => h) (by rfl) ?yA12 hHeld2 ?rA12
            case yA12 =>
              intro w hSw
              try dsimp only at hSw
              go_simp
              try (with_reducible rfl)
            case rA12 =>
            try simp only [Act.put, List.setIfInBounds_toArray, List.set_cons_zero, List.set_cons_succ]
            refine takeNo (i := 13) (some 48) rfl rfl (by kernel_rfl) (by kernel_rfl) (by kernel_rfl) (fun _ _ _ h => h) (by rfl) hHeld2 ?_
            try simp only [Act.put, List.setIfInBounds_toArray, List.set_cons_zero, List.set_cons_succ]
            refine takeNo (i := 14) (some 49) rfl rfl (by kernel_rfl) (by kernel_rfl) (by kernel_rfl) (fun _ _ _ h => h) (by rfl) hHeld2 ?_
            try simp only [Act.put, List.setIfInBounds_toArray, List.set_cons_zero, List.set_cons_succ]
            refine takeNo (i := 15) (some 50) rfl rfl (by kernel_rfl) (by kernel_rfl) (by kernel_rfl) (fun _ _ _ h => h) (by rfl) hHeld2 ?_
            try simp only [Act.put, List.setIfInBounds_toArray, List.set_cons_zero, List.set_cons_succ]
            refine takeNo (i := 16) (some 51) rfl rfl (by kernel_rfl) (by kernel_rfl) (by kernel_rfl) (fun _ _ _ h => h) (by rfl) hHeld2 ?_
            try simp only [Act.put, List.setIfInBounds_toArray, List.set_cons_zero, List.set_cons_succ]
            refine takeNo (i := 17) (some 52) rfl rfl (by kernel_rfl) (by kernel_rfl) (by kernel_rfl) (fun _ _ _ h => h) (by rfl) hHeld2 ?_
            try simp only [Act.put, List.setIfInBounds_toArray, List.set_cons_zero, List.set_cons_succ]
            refine takeYes (i := 18) (v := ?vA18) (some 53) rfl rfl (by kernel_rfl) (by kernel_rfl) (by kernel_rfl) (fun _ _ _ h => h) (by rfl) ?yA18 hHeld2 ?rA18
            case yA18 =>
              intro w hSw
              try dsimp only at hSw
              go_simp
              try (with_reducible rfl)
            case rA18 =>
            try simp only [Act.put, List.setIfInBounds_toArray, List.set_cons_zero, List.set_cons_succ]
            refine takeYes (i := 19) (v := ?vA19) (some 54) rfl rfl (by kernel_rfl) (by kernel_rfl) (by kernel_rfl) (fun _ _ _ h => h) (by rfl) ?yA19 hHeld2 ?rA19
            case yA19 =>
              intro w hSw
              try dsimp only at hSw
              go_simp
              try (with_reducible rfl)
            case rA19 =>
            try simp only [Act.put, List.setIfInBounds_toArray, List.set_cons_zero, List.set_cons_succ]
            refine takeNo (i := 20) (some 55) rfl rfl (by kernel_rfl) (by kernel_rfl) (by kernel_rfl) (fun _ _ _ h => h) (by rfl) hHeld2 ?_
            try simp only [Act.put, List.setIfInBounds_toArray, List.set_cons_zero, List.set_cons_succ]
            refine takeNo (i := 21) (some 56) rfl rfl (by kernel_rfl) (by kernel_rfl) (by kernel_rfl) (fun _ _ _ h => h) (by rfl) hHeld2 ?_
            try simp only [Act.put, List.setIfInBounds_toArray, List.set_cons_zero, List.set_cons_succ]
            refine takeNo (i := 22) (some 57) rfl rfl (by kernel_rfl) (by kernel_rfl) (by kernel_rfl) (fun _ _ _ h => h) (by rfl) hHeld2 ?_
            try simp only [Act.put, List.setIfInBounds_toArray, List.set_cons_zero, List.set_cons_succ]
            refine takeNo (i := 23) (some 58) rfl rfl (by kernel_rfl) (by kernel_rfl) (by kernel_rfl) (fun _ _ _ h => h) (by rfl) hHeld2 ?_
            try simp only [Act.put, List.setIfInBounds_toArray, List.set_cons_zero, List.set_cons_succ]
            refine takeNo (i := 24) (some 59) rfl rfl (by kernel_rfl) (by kernel_rfl) (by kernel_rfl) (fun _ _ _ h => h) (by rfl) hHeld2 ?_
            try simp only [Act.put, List.setIfInBounds_toArray, List.set_cons_zero, List.set_cons_succ]
            refine takeNo (i := 25) (some 60) rfl rfl (by kernel_rfl) (by kernel_rfl) (by kernel_rfl) (fun _ _ _ h => h) (by rfl) hHeld2 ?_
            try simp only [Act.put, List.setIfInBounds_toArray, List.set_cons_zero, List.set_cons_succ]
            refine takeNo (i := 26) (some 61) rfl rfl (by kernel_rfl) (by kernel_rfl) (by kernel_rfl) (fun _ _ _ h => h) (by rfl) hHeld2 ?_
            try simp only [Act.put, List.setIfInBounds_toArray, List.set_cons_zero, List.set_cons_succ]
            refine takeNo (i := 27) (some 62) rfl rfl (by kernel_rfl) (by kernel_rfl) (by kernel_rfl) (fun _ _ _ h => h) (by rfl) hHeld2 ?_
            try simp only [Act.put, List.setIfInBounds_toArray, List.set_cons_zero, List.set_cons_succ]
            refine takeYes (i := 28) (v := ?vA28) (some 63) rfl rfl (by kernel_rfl) (by kernel_rfl) (by kernel_rfl) (fun _ _ _ h => h) (by rfl) ?yA28 hHeld2 ?rA28
            case yA28 =>
              intro w hSw
              try dsimp only at hSw
              go_simp
              try (with_reducible rfl)
            case rA28 =>
            try simp only [Act.put, List.setIfInBounds_toArray, List.set_cons_zero, List.set_cons_succ]
            refine takeYes (i := 29) (v := ?vA29) (some 64) rfl rfl (by kernel_rfl) (by kernel_rfl) (by kernel_rfl) (fun _ _ _ h => h) (by rfl) ?yA29 hHeld2 ?rA29
            case yA29 =>
              intro w hSw
              try dsimp only at hSw
              go_simp
              try (with_reducible rfl)
            case rA29 =>
            try simp only [Act.put, List.setIfInBounds_toArray, List.set_cons_zero, List.set_cons_succ]
            refine wpAnyH_ready (rs := [30]) (by kernel_rfl) (by simp) ?_
            refine AllReadyH.cons rfl (fun K hK => ?_) AllReadyH.nil
            go_simp
            have H' := Lib.hid (HN.out.set (k := s) (v := true) (by omega) HPP.out n2 n3)
            try dsimp only
            refine hK.out _ _ H'.out.s (fun hHeld9 => ?_)
            clear hK K
            try simp only [Act.put, List.setIfInBounds_toArray, List.set_cons_zero, List.set_cons_succ]
            refine wpAnyH_done (by kernel_rfl) ?_ _
            go_wp2_with fail
            go_roundw
            case rel => exact ⟨m + 1, L2.set s true, by omega, rfl, HLd2, H'.out.lw, H'.out.nu⟩
            case measure => simp [intOf]; omega
            
          | false =>
            rw [hv] at oc HLd2
            simp only [Bool.false_or] at HLd2
            have HV := Lib.hid hv
            clear hv
            have f0 := HN.out.lw.rb.fr s
            have f1 := HN.out.lw.rb.lt
            cases JU with
            | true =>
              simp only [Bool.true_or] at HLd2
              go_wp2_with fail
              refine wp_region_held_drew (S := (fun W => W.cell? ⟨b2, o2 + m, none⟩ = some (.int .i64 (s : Int)) ∧ W.cell? ⟨b3, o3 + i * 6, none⟩ = some (.int .i64 X.op) ∧ W.cell? ⟨b3, o3 + i * 6 + 1, none⟩ = some (.int .i64 X.dst) ∧ W.cell? ⟨b3, o3 + i * 6 + 2, none⟩ = some (.int .i64 X.src) ∧ W.cell? ⟨b3, o3 + i * 6 + 3, none⟩ = some (.int .i64 X.off) ∧ W.cell? ⟨b3, o3 + i * 6 + 4, none⟩ = some (.int .i64 X.imm) ∧ W.cell? ⟨b3, o3 + i * 6 + 5, none⟩ = some (.int .u64 X.wide))) (by kernel_rfl) HN.out.s (fun hHeld => ?_)
              refine takeYes (i := 0) (v := ?vB0) (some 35) rfl rfl (by kernel_rfl) (by kernel_rfl) (by kernel_rfl) (fun _ _ _ h => h) (by rfl) ?yB0 hHeld ?rB0
              case yB0 =>
                intro w hSw
                try dsimp only at hSw
                go_simp
                try (with_reducible rfl)
              case rB0 =>
              try simp only [Act.put, List.setIfInBounds_toArray, List.set_cons_zero, List.set_cons_succ]
              refine takeYes (i := 1) (v := ?vB1) (some 36) rfl rfl (by kernel_rfl) (by kernel_rfl) (by kernel_rfl) (fun _ _ _ h => h) (by rfl) ?yB1 hHeld ?rB1
              case yB1 =>
                intro w hSw
                try dsimp only at hSw
                go_simp
                try (with_reducible rfl)
              case rB1 =>
              try simp only [Act.put, List.setIfInBounds_toArray, List.set_cons_zero, List.set_cons_succ]
              refine takeYes (i := 2) (v := ?vB2) (some 37) rfl rfl (by kernel_rfl) (by kernel_rfl) (by kernel_rfl) (fun _ _ _ h => h) (by rfl) ?yB2 hHeld ?rB2
              case yB2 =>
                intro w hSw
                try dsimp only at hSw
                go_simp
                try (with_reducible rfl)
              case rB2 =>
              try simp only [Act.put, List.setIfInBounds_toArray, List.set_cons_zero, List.set_cons_succ]
              refine takeYes (i := 3) (v := ?vB3) (some 38) rfl rfl (by kernel_rfl) (by kernel_rfl) (by kernel_rfl) (fun _ _ _ h => h) (by rfl) ?yB3 hHeld ?rB3
              case yB3 =>
                intro w hSw
                try dsimp only at hSw
                go_simp
                try (with_reducible rfl)
              case rB3 =>
              try simp only [Act.put, List.setIfInBounds_toArray, List.set_cons_zero, List.set_cons_succ]
              refine takeYes (i := 4) (v := ?vB4) (some 39) rfl rfl (by kernel_rfl) (by kernel_rfl) (by kernel_rfl) (fun _ _ _ h => h) (by rfl) ?yB4 hHeld ?rB4
              case yB4 =>
                intro w hSw
                try dsimp only at hSw
                go_simp
                try (with_reducible rfl)
              case rB4 =>
              try simp only [Act.put, List.setIfInBounds_toArray, List.set_cons_zero, List.set_cons_succ]
              refine takeYes (i := 5) (v := ?vB5) (some 40) rfl rfl (by kernel_rfl) (by kernel_rfl) (by kernel_rfl) (fun _ _ _ h => h) (by rfl) ?yB5 hHeld ?rB5
              case yB5 =>
                intro w hSw
                try dsimp only at hSw
                go_simp
                try (with_reducible rfl)
              case rB5 =>
              try simp only [Act.put, List.setIfInBounds_toArray, List.set_cons_zero, List.set_cons_succ]
              refine takeYes (i := 6) (v := ?vB6) (some 41) rfl rfl (by kernel_rfl) (by kernel_rfl) (by kernel_rfl) (fun _ _ _ h => h) (by rfl) ?yB6 hHeld ?rB6
              case yB6 =>
                intro w hSw
                try dsimp only at hSw
                go_simp
                try (with_reducible rfl)
              case rB6 =>
              try simp only [Act.put, List.setIfInBounds_toArray, List.set_cons_zero, List.set_cons_succ]
              refine takeYes (i := 7) (v := ?vB7) (some 42) rfl rfl (by kernel_rfl) (by kernel_rfl) (by kernel_rfl) (fun _ _ _ h => h) (by rfl) ?yB7 hHeld ?rB7
              case yB7 =>
                intro w hSw
                try dsimp only at hSw
                go_simp
                try (with_reducible rfl)
              case rB7 =>
              try simp only [Act.put, List.setIfInBounds_toArray, List.set_cons_zero, List.set_cons_succ]
              refine takeYes (i := 8) (v := ?vB8) (some 43) rfl rfl (by kernel_rfl) (by kernel_rfl) (by kernel_rfl) (fun _ _ _ h => h) (by rfl) ?yB8 hHeld ?rB8
              case yB8 =>
                intro w hSw
                try dsimp only at hSw
                go_simp
                try (with_reducible rfl)
              case rB8 =>
              try simp only [Act.put, List.setIfInBounds_toArray, List.set_cons_zero, List.set_cons_succ]
              refine takeYes (i := 9) (v := ?vB9) (some 44) rfl rfl (by kernel_rfl) (by kernel_rfl) (by kernel_rfl) (fun _ _ _ h => h) (by rfl) ?yB9 hHeld ?rB9
              case yB9 =>
                intro w hSw
                try dsimp only at hSw
                go_simp
                try (with_reducible rfl)
              case rB9 =>
              try simp only [Act.put, List.setIfInBounds_toArray, List.set_cons_zero, List.set_cons_succ]
              refine takeYes (i := 10) (v := ?vB10) (some 45) rfl rfl (by kernel_rfl) (by kernel_rfl) (by kernel_rfl) (fun _ _ _ h => h) (by rfl) ?yB10 hHeld ?rB10
              case yB10 =>
                intro w hSw
                try dsimp only at hSw
                go_simp
                try (with_reducible rfl)
              case rB10 =>
              try simp only [Act.put, List.setIfInBounds_toArray, List.set_cons_zero, List.set_cons_succ]
              refine wpAnyH_ready (rs := [11]) (by kernel_rfl) (by simp) ?_
              refine AllReadyH.cons rfl (fun K hK => ?_) AllReadyH.nil
              go_simp
              try dsimp only
              refine hK.out _ _ HN.out.s (fun hHeld2 => ?_)
              clear hK K
              try simp only [Act.put, List.setIfInBounds_toArray, List.set_cons_zero, List.set_cons_succ]
              refine takeYes (i := 12) (v := ?vB12) (some 47) rfl rfl (by kernel_rfl) (by kernel_rfl) (by kernel_rfl) (fun _ _ _ h => h) (by rfl) ?yB12 hHeld2 ?rB12
              case yB12 =>
                intro w hSw
                try dsimp only at hSw
                go_simp
                try (with_reducible rfl)
              case rB12 =>
              try simp only [Act.put, List.setIfInBounds_toArray, List.set_cons_zero, List.set_cons_succ]
              refine takeYes (i := 13) (v := ?vB13) (some 48) rfl rfl (by kernel_rfl) (by kernel_rfl) (by kernel_rfl) (fun _ _ _ h => h) (by rfl) ?yB13 hHeld2 ?rB13
              case yB13 =>
                intro w hSw
                try dsimp only at hSw
                go_simp
                try (with_reducible rfl)
              case rB13 =>
              try simp only [Act.put, List.setIfInBounds_toArray, List.set_cons_zero, List.set_cons_succ]
              refine takeYes (i := 14) (v := ?vB14) (some 49) rfl rfl (by kernel_rfl) (by kernel_rfl) (by kernel_rfl) (fun _ _ _ h => h) (by rfl) ?yB14 hHeld2 ?rB14
              case yB14 =>
                intro w hSw
                try dsimp only at hSw
                go_simp
                try (with_reducible rfl)
              case rB14 =>
              try simp only [Act.put, List.setIfInBounds_toArray, List.set_cons_zero, List.set_cons_succ]
              refine takeYes (i := 15) (v := ?vB15) (some 50) rfl rfl (by kernel_rfl) (by kernel_rfl) (by kernel_rfl) (fun _ _ _ h => h) (by rfl) ?yB15 hHeld2 ?rB15
              case yB15 =>
                intro w hSw
                try dsimp only at hSw
                go_simp
                try (with_reducible rfl)
              case rB15 =>
              try simp only [Act.put, List.setIfInBounds_toArray, List.set_cons_zero, List.set_cons_succ]
              refine takeYes (i := 16) (v := ?vB16) (some 51) rfl rfl (by kernel_rfl) (by kernel_rfl) (by kernel_rfl) (fun _ _ _ h => h) (by rfl) ?yB16 hHeld2 ?rB16
              case yB16 =>
                intro w hSw
                try dsimp only at hSw
                go_simp
                try (with_reducible rfl)
              case rB16 =>
              try simp only [Act.put, List.setIfInBounds_toArray, List.set_cons_zero, List.set_cons_succ]
              refine wpAnyH_ready (rs := [17]) (by kernel_rfl) (by simp) ?_
              refine AllReadyH.cons rfl (fun K hK => ?_) AllReadyH.nil
              go_simp
              go_at_call 26
              refine (HRJ.out _).mono ?_
              rintro e w3 ⟨rfl, hb⟩
              have H' := Lib.hid (HN.out.next hb)
              clear hb HN hHeld hHeld2 oc f0 f1
              have HN := H'
              clear H'
              have oc := HN.out.lw.rb.cell s (by omega)
              rw [HV.out] at oc
              have f0 := HN.out.lw.rb.fr s
              have f1 := HN.out.lw.rb.lt
              try dsimp only
              refine hK.out _ _ HN.out.s (fun hHeld3 => ?_)
              clear hK K
              try simp only [Act.put, List.setIfInBounds_toArray, List.set_cons_zero, List.set_cons_succ]
              refine takeYes (i := 18) (v := ?vB18) (some 53) rfl rfl (by kernel_rfl) (by kernel_rfl) (by kernel_rfl) (fun _ _ _ h => h) (by rfl) ?yB18 hHeld3 ?rB18
              case yB18 =>
                intro w hSw
                try dsimp only at hSw
                go_simp
                try (with_reducible rfl)
              case rB18 =>
              try simp only [Act.put, List.setIfInBounds_toArray, List.set_cons_zero, List.set_cons_succ]
              refine takeYes (i := 19) (v := ?vB19) (some 54) rfl rfl (by kernel_rfl) (by kernel_rfl) (by kernel_rfl) (fun _ _ _ h => h) (by rfl) ?yB19 hHeld3 ?rB19
              case yB19 =>
                intro w hSw
                try dsimp only at hSw
                go_simp
                try (with_reducible rfl)
              case rB19 =>
              try simp only [Act.put, List.setIfInBounds_toArray, List.set_cons_zero, List.set_cons_succ]
              refine takeNo (i := 20) (some 55) rfl rfl (by kernel_rfl) (by kernel_rfl) (by kernel_rfl) (fun _ _ _ h => h) (by rfl) hHeld3 ?_
              try simp only [Act.put, List.setIfInBounds_toArray, List.set_cons_zero, List.set_cons_succ]
              refine takeNo (i := 21) (some 56) rfl rfl (by kernel_rfl) (by kernel_rfl) (by kernel_rfl) (fun _ _ _ h => h) (by rfl) hHeld3 ?_
              try simp only [Act.put, List.setIfInBounds_toArray, List.set_cons_zero, List.set_cons_succ]
              refine takeNo (i := 22) (some 57) rfl rfl (by kernel_rfl) (by kernel_rfl) (by kernel_rfl) (fun _ _ _ h => h) (by rfl) hHeld3 ?_
              try simp only [Act.put, List.setIfInBounds_toArray, List.set_cons_zero, List.set_cons_succ]
              refine takeNo (i := 23) (some 58) rfl rfl (by kernel_rfl) (by kernel_rfl) (by kernel_rfl) (fun _ _ _ h => h) (by rfl) hHeld3 ?_
              try simp only [Act.put, List.setIfInBounds_toArray, List.set_cons_zero, List.set_cons_succ]
              refine takeNo (i := 24) (some 59) rfl rfl (by kernel_rfl) (by kernel_rfl) (by kernel_rfl) (fun _ _ _ h => h) (by rfl) hHeld3 ?_
              try simp only [Act.put, List.setIfInBounds_toArray, List.set_cons_zero, List.set_cons_succ]
              refine takeNo (i := 25) (some 60) rfl rfl (by kernel_rfl) (by kernel_rfl) (by kernel_rfl) (fun _ _ _ h => h) (by rfl) hHeld3 ?_
              try simp only [Act.put, List.setIfInBounds_toArray, List.set_cons_zero, List.set_cons_succ]
              refine takeNo (i := 26) (some 61) rfl rfl (by kernel_rfl) (by kernel_rfl) (by kernel_rfl) (fun _ _ _ h => h) (by rfl) hHeld3 ?_
              try simp only [Act.put, List.setIfInBounds_toArray, List.set_cons_zero, List.set_cons_succ]
              refine takeNo (i := 27) (some 62) rfl rfl (by kernel_rfl) (by kernel_rfl) (by kernel_rfl) (fun _ _ _ h => h) (by rfl) hHeld3 ?_
              try simp only [Act.put, List.setIfInBounds_toArray, List.set_cons_zero, List.set_cons_succ]
              refine takeYes (i := 28) (v := ?vB28) (some 63) rfl rfl (by kernel_rfl) (by kernel_rfl) (by kernel_rfl) (fun _ _ _ h => h) (by rfl) ?yB28 hHeld3 ?rB28
              case yB28 =>
                intro w hSw
                try dsimp only at hSw
                go_simp
                try (with_reducible rfl)
              case rB28 =>
              try simp only [Act.put, List.setIfInBounds_toArray, List.set_cons_zero, List.set_cons_succ]
              refine takeYes (i := 29) (v := ?vB29) (some 64) rfl rfl (by kernel_rfl) (by kernel_rfl) (by kernel_rfl) (fun _ _ _ h => h) (by rfl) ?yB29 hHeld3 ?rB29
              case yB29 =>
                intro w hSw
                try dsimp only at hSw
                go_simp
                try (with_reducible rfl)
              case rB29 =>
              try simp only [Act.put, List.setIfInBounds_toArray, List.set_cons_zero, List.set_cons_succ]
              refine wpAnyH_ready (rs := [30]) (by kernel_rfl) (by simp) ?_
              refine AllReadyH.cons rfl (fun K hK => ?_) AllReadyH.nil
              go_simp
              have H' := Lib.hid (HN.out.set (k := s) (v := true) (by omega) HPP.out n2 n3)
              try dsimp only
              refine hK.out _ _ H'.out.s (fun hHeld9 => ?_)
              clear hK K
              try simp only [Act.put, List.setIfInBounds_toArray, List.set_cons_zero, List.set_cons_succ]
              refine wpAnyH_done (by kernel_rfl) ?_ _
              go_wp2_with fail
              go_roundw
              case rel => exact ⟨m + 1, L2.set s true, by omega, rfl, HLd2, H'.out.lw, H'.out.nu⟩
              case measure => simp [intOf]; omega
              
            | false =>
              simp only [Bool.false_or] at HLd2
              rw [show decide (s ≠ NX) = ((s : Int) != (NX : Int)) by
                by_cases e : s = NX
                · subst e; simp
                · have e2 : ¬ (s : Int) = (NX : Int) := by omega
                  simp [e, e2]] at HLd2
              go_wp2_with fail
              refine wp_region_held_drew (S := (fun W => W.cell? ⟨b2, o2 + m, none⟩ = some (.int .i64 (s : Int)) ∧ W.cell? ⟨b3, o3 + i * 6, none⟩ = some (.int .i64 X.op) ∧ W.cell? ⟨b3, o3 + i * 6 + 1, none⟩ = some (.int .i64 X.dst) ∧ W.cell? ⟨b3, o3 + i * 6 + 2, none⟩ = some (.int .i64 X.src) ∧ W.cell? ⟨b3, o3 + i * 6 + 3, none⟩ = some (.int .i64 X.off) ∧ W.cell? ⟨b3, o3 + i * 6 + 4, none⟩ = some (.int .i64 X.imm) ∧ W.cell? ⟨b3, o3 + i * 6 + 5, none⟩ = some (.int .u64 X.wide))) (by kernel_rfl) HN.out.s (fun hHeld => ?_)
              refine takeYes (i := 0) (v := ?vC0) (some 35) rfl rfl (by kernel_rfl) (by kernel_rfl) (by kernel_rfl) (fun _ _ _ h => h) (by rfl) ?yC0 hHeld ?rC0
              case yC0 =>
                intro w hSw
                try dsimp only at hSw
                go_simp
                try (with_reducible rfl)
              case rC0 =>
              try simp only [Act.put, List.setIfInBounds_toArray, List.set_cons_zero, List.set_cons_succ]
              refine takeYes (i := 1) (v := ?vC1) (some 36) rfl rfl (by kernel_rfl) (by kernel_rfl) (by kernel_rfl) (fun _ _ _ h => h) (by rfl) ?yC1 hHeld ?rC1
              case yC1 =>
                intro w hSw
                try dsimp only at hSw
                go_simp
                try (with_reducible rfl)
              case rC1 =>
              try simp only [Act.put, List.setIfInBounds_toArray, List.set_cons_zero, List.set_cons_succ]
              refine takeYes (i := 2) (v := ?vC2) (some 37) rfl rfl (by kernel_rfl) (by kernel_rfl) (by kernel_rfl) (fun _ _ _ h => h) (by rfl) ?yC2 hHeld ?rC2
              case yC2 =>
                intro w hSw
                try dsimp only at hSw
                go_simp
                try (with_reducible rfl)
              case rC2 =>
              try simp only [Act.put, List.setIfInBounds_toArray, List.set_cons_zero, List.set_cons_succ]
              refine takeYes (i := 3) (v := ?vC3) (some 38) rfl rfl (by kernel_rfl) (by kernel_rfl) (by kernel_rfl) (fun _ _ _ h => h) (by rfl) ?yC3 hHeld ?rC3
              case yC3 =>
                intro w hSw
                try dsimp only at hSw
                go_simp
                try (with_reducible rfl)
              case rC3 =>
              try simp only [Act.put, List.setIfInBounds_toArray, List.set_cons_zero, List.set_cons_succ]
              refine takeYes (i := 4) (v := ?vC4) (some 39) rfl rfl (by kernel_rfl) (by kernel_rfl) (by kernel_rfl) (fun _ _ _ h => h) (by rfl) ?yC4 hHeld ?rC4
              case yC4 =>
                intro w hSw
                try dsimp only at hSw
                go_simp
                try (with_reducible rfl)
              case rC4 =>
              try simp only [Act.put, List.setIfInBounds_toArray, List.set_cons_zero, List.set_cons_succ]
              refine takeYes (i := 5) (v := ?vC5) (some 40) rfl rfl (by kernel_rfl) (by kernel_rfl) (by kernel_rfl) (fun _ _ _ h => h) (by rfl) ?yC5 hHeld ?rC5
              case yC5 =>
                intro w hSw
                try dsimp only at hSw
                go_simp
                try (with_reducible rfl)
              case rC5 =>
              try simp only [Act.put, List.setIfInBounds_toArray, List.set_cons_zero, List.set_cons_succ]
              refine takeYes (i := 6) (v := ?vC6) (some 41) rfl rfl (by kernel_rfl) (by kernel_rfl) (by kernel_rfl) (fun _ _ _ h => h) (by rfl) ?yC6 hHeld ?rC6
              case yC6 =>
                intro w hSw
                try dsimp only at hSw
                go_simp
                try (with_reducible rfl)
              case rC6 =>
              try simp only [Act.put, List.setIfInBounds_toArray, List.set_cons_zero, List.set_cons_succ]
              refine takeYes (i := 7) (v := ?vC7) (some 42) rfl rfl (by kernel_rfl) (by kernel_rfl) (by kernel_rfl) (fun _ _ _ h => h) (by rfl) ?yC7 hHeld ?rC7
              case yC7 =>
                intro w hSw
                try dsimp only at hSw
                go_simp
                try (with_reducible rfl)
              case rC7 =>
              try simp only [Act.put, List.setIfInBounds_toArray, List.set_cons_zero, List.set_cons_succ]
              refine takeYes (i := 8) (v := ?vC8) (some 43) rfl rfl (by kernel_rfl) (by kernel_rfl) (by kernel_rfl) (fun _ _ _ h => h) (by rfl) ?yC8 hHeld ?rC8
              case yC8 =>
                intro w hSw
                try dsimp only at hSw
                go_simp
                try (with_reducible rfl)
              case rC8 =>
              try simp only [Act.put, List.setIfInBounds_toArray, List.set_cons_zero, List.set_cons_succ]
              refine takeYes (i := 9) (v := ?vC9) (some 44) rfl rfl (by kernel_rfl) (by kernel_rfl) (by kernel_rfl) (fun _ _ _ h => h) (by rfl) ?yC9 hHeld ?rC9
              case yC9 =>
                intro w hSw
                try dsimp only at hSw
                go_simp
                try (with_reducible rfl)
              case rC9 =>
              try simp only [Act.put, List.setIfInBounds_toArray, List.set_cons_zero, List.set_cons_succ]
              refine takeYes (i := 10) (v := ?vC10) (some 45) rfl rfl (by kernel_rfl) (by kernel_rfl) (by kernel_rfl) (fun _ _ _ h => h) (by rfl) ?yC10 hHeld ?rC10
              case yC10 =>
                intro w hSw
                try dsimp only at hSw
                go_simp
                try (with_reducible rfl)
              case rC10 =>
              try simp only [Act.put, List.setIfInBounds_toArray, List.set_cons_zero, List.set_cons_succ]
              refine wpAnyH_ready (rs := [11]) (by kernel_rfl) (by simp) ?_
              refine AllReadyH.cons rfl (fun K hK => ?_) AllReadyH.nil
              go_simp
              try dsimp only
              refine hK.out _ _ HN.out.s (fun hHeld2 => ?_)
              clear hK K
              try simp only [Act.put, List.setIfInBounds_toArray, List.set_cons_zero, List.set_cons_succ]
              refine takeYes (i := 12) (v := ?vC12) (some 47) rfl rfl (by kernel_rfl) (by kernel_rfl) (by kernel_rfl) (fun _ _ _ h => h) (by rfl) ?yC12 hHeld2 ?rC12
              case yC12 =>
                intro w hSw
                try dsimp only at hSw
                go_simp
                try (with_reducible rfl)
              case rC12 =>
              try simp only [Act.put, List.setIfInBounds_toArray, List.set_cons_zero, List.set_cons_succ]
              refine takeYes (i := 13) (v := ?vC13) (some 48) rfl rfl (by kernel_rfl) (by kernel_rfl) (by kernel_rfl) (fun _ _ _ h => h) (by rfl) ?yC13 hHeld2 ?rC13
              case yC13 =>
                intro w hSw
                try dsimp only at hSw
                go_simp
                try (with_reducible rfl)
              case rC13 =>
              try simp only [Act.put, List.setIfInBounds_toArray, List.set_cons_zero, List.set_cons_succ]
              refine takeYes (i := 14) (v := ?vC14) (some 49) rfl rfl (by kernel_rfl) (by kernel_rfl) (by kernel_rfl) (fun _ _ _ h => h) (by rfl) ?yC14 hHeld2 ?rC14
              case yC14 =>
                intro w hSw
                try dsimp only at hSw
                go_simp
                try (with_reducible rfl)
              case rC14 =>
              try simp only [Act.put, List.setIfInBounds_toArray, List.set_cons_zero, List.set_cons_succ]
              refine takeYes (i := 15) (v := ?vC15) (some 50) rfl rfl (by kernel_rfl) (by kernel_rfl) (by kernel_rfl) (fun _ _ _ h => h) (by rfl) ?yC15 hHeld2 ?rC15
              case yC15 =>
                intro w hSw
                try dsimp only at hSw
                go_simp
                try (with_reducible rfl)
              case rC15 =>
              try simp only [Act.put, List.setIfInBounds_toArray, List.set_cons_zero, List.set_cons_succ]
              refine takeYes (i := 16) (v := ?vC16) (some 51) rfl rfl (by kernel_rfl) (by kernel_rfl) (by kernel_rfl) (fun _ _ _ h => h) (by rfl) ?yC16 hHeld2 ?rC16
              case yC16 =>
                intro w hSw
                try dsimp only at hSw
                go_simp
                try (with_reducible rfl)
              case rC16 =>
              try simp only [Act.put, List.setIfInBounds_toArray, List.set_cons_zero, List.set_cons_succ]
              refine wpAnyH_ready (rs := [17]) (by kernel_rfl) (by simp) ?_
              refine AllReadyH.cons rfl (fun K hK => ?_) AllReadyH.nil
              go_simp
              go_at_call 26
              refine (HRJ.out _).mono ?_
              rintro e w3 ⟨rfl, hb⟩
              have H' := Lib.hid (HN.out.next hb)
              clear hb HN hHeld hHeld2 oc f0 f1
              have HN := H'
              clear H'
              have oc := HN.out.lw.rb.cell s (by omega)
              rw [HV.out] at oc
              have f0 := HN.out.lw.rb.fr s
              have f1 := HN.out.lw.rb.lt
              try dsimp only
              refine hK.out _ _ HN.out.s (fun hHeld3 => ?_)
              clear hK K
              try simp only [Act.put, List.setIfInBounds_toArray, List.set_cons_zero, List.set_cons_succ]
              refine takeYes (i := 18) (v := ?vC18) (some 53) rfl rfl (by kernel_rfl) (by kernel_rfl) (by kernel_rfl) (fun _ _ _ h => h) (by rfl) ?yC18 hHeld3 ?rC18
              case yC18 =>
                intro w hSw
                try dsimp only at hSw
                go_simp
                try (with_reducible rfl)
              case rC18 =>
              try simp only [Act.put, List.setIfInBounds_toArray, List.set_cons_zero, List.set_cons_succ]
              refine takeYes (i := 19) (v := ?vC19) (some 54) rfl rfl (by kernel_rfl) (by kernel_rfl) (by kernel_rfl) (fun _ _ _ h => h) (by rfl) ?yC19 hHeld3 ?rC19
              case yC19 =>
                intro w hSw
                try dsimp only at hSw
                go_simp
                try (with_reducible rfl)
              case rC19 =>
              try simp only [Act.put, List.setIfInBounds_toArray, List.set_cons_zero, List.set_cons_succ]
              refine takeYes (i := 20) (v := ?vC20) (some 55) rfl rfl (by kernel_rfl) (by kernel_rfl) (by kernel_rfl) (fun _ _ _ h => h) (by rfl) ?yC20 hHeld3 ?rC20
              case yC20 =>
                intro w hSw
                try dsimp only at hSw
                go_simp
                try (with_reducible rfl)
              case rC20 =>
              try simp only [Act.put, List.setIfInBounds_toArray, List.set_cons_zero, List.set_cons_succ]
              refine takeYes (i := 21) (v := ?vC21) (some 56) rfl rfl (by kernel_rfl) (by kernel_rfl) (by kernel_rfl) (fun _ _ _ h => h) (by rfl) ?yC21 hHeld3 ?rC21
              case yC21 =>
                intro w hSw
                try dsimp only at hSw
                go_simp
                try (with_reducible rfl)
              case rC21 =>
              try simp only [Act.put, List.setIfInBounds_toArray, List.set_cons_zero, List.set_cons_succ]
              refine takeYes (i := 22) (v := ?vC22) (some 57) rfl rfl (by kernel_rfl) (by kernel_rfl) (by kernel_rfl) (fun _ _ _ h => h) (by rfl) ?yC22 hHeld3 ?rC22
              case yC22 =>
                intro w hSw
                try dsimp only at hSw
                go_simp
                try (with_reducible rfl)
              case rC22 =>
              try simp only [Act.put, List.setIfInBounds_toArray, List.set_cons_zero, List.set_cons_succ]
              refine takeYes (i := 23) (v := ?vC23) (some 58) rfl rfl (by kernel_rfl) (by kernel_rfl) (by kernel_rfl) (fun _ _ _ h => h) (by rfl) ?yC23 hHeld3 ?rC23
              case yC23 =>
                intro w hSw
                try dsimp only at hSw
                go_simp
                try (with_reducible rfl)
              case rC23 =>
              try simp only [Act.put, List.setIfInBounds_toArray, List.set_cons_zero, List.set_cons_succ]
              refine takeYes (i := 24) (v := ?vC24) (some 59) rfl rfl (by kernel_rfl) (by kernel_rfl) (by kernel_rfl) (fun _ _ _ h => h) (by rfl) ?yC24 hHeld3 ?rC24
              case yC24 =>
                intro w hSw
                try dsimp only at hSw
                go_simp
                try (with_reducible rfl)
              case rC24 =>
              try simp only [Act.put, List.setIfInBounds_toArray, List.set_cons_zero, List.set_cons_succ]
              refine takeYes (i := 25) (v := ?vC25) (some 60) rfl rfl (by kernel_rfl) (by kernel_rfl) (by kernel_rfl) (fun _ _ _ h => h) (by rfl) ?yC25 hHeld3 ?rC25
              case yC25 =>
                intro w hSw
                try dsimp only at hSw
                go_simp
                try (with_reducible rfl)
              case rC25 =>
              try simp only [Act.put, List.setIfInBounds_toArray, List.set_cons_zero, List.set_cons_succ]
              refine wpAnyH_ready (rs := [26]) (by kernel_rfl) (by simp) ?_
              refine AllReadyH.cons rfl (fun K hK => ?_) AllReadyH.nil
              go_simp
              go_at_call 25
              refine (HRN2.out _ HN.out.lw.low).mono ?_
              rintro e w4 ⟨rfl, rfl⟩
              try dsimp only
              refine hK.out _ _ HN.out.s (fun hHeld4 => ?_)
              clear hK K
              try simp only [Act.put, List.setIfInBounds_toArray, List.set_cons_zero, List.set_cons_succ]
              refine takeYes (i := 27) (v := ?vC27) (some 62) rfl rfl (by kernel_rfl) (by kernel_rfl) (by kernel_rfl) (fun _ _ _ h => h) (by rfl) ?yC27 hHeld4 ?rC27
              case yC27 =>
                intro w hSw
                try dsimp only at hSw
                go_simp
                try (with_reducible rfl)
              case rC27 =>
              try simp only [Act.put, List.setIfInBounds_toArray, List.set_cons_zero, List.set_cons_succ]
              refine takeYes (i := 28) (v := ?vC28) (some 63) rfl rfl (by kernel_rfl) (by kernel_rfl) (by kernel_rfl) (fun _ _ _ h => h) (by rfl) ?yC28 hHeld4 ?rC28
              case yC28 =>
                intro w hSw
                try dsimp only at hSw
                go_simp
                try (with_reducible rfl)
              case rC28 =>
              try simp only [Act.put, List.setIfInBounds_toArray, List.set_cons_zero, List.set_cons_succ]
              refine takeYes (i := 29) (v := ?vC29) (some 64) rfl rfl (by kernel_rfl) (by kernel_rfl) (by kernel_rfl) (fun _ _ _ h => h) (by rfl) ?yC29 hHeld4 ?rC29
              case yC29 =>
                intro w hSw
                try dsimp only at hSw
                go_simp
                try (with_reducible rfl)
              case rC29 =>
              try simp only [Act.put, List.setIfInBounds_toArray, List.set_cons_zero, List.set_cons_succ]
              refine wpAnyH_ready (rs := [30]) (by kernel_rfl) (by simp) ?_
              refine AllReadyH.cons rfl (fun K hK => ?_) AllReadyH.nil
              go_simp
              have H' := Lib.hid (HN.out.set (k := s) (v := ((s : Int) != (NX : Int))) (by omega) HPP.out n2 n3)
              try dsimp only
              refine hK.out _ _ H'.out.s (fun hHeld9 => ?_)
              clear hK K
              try simp only [Act.put, List.setIfInBounds_toArray, List.set_cons_zero, List.set_cons_succ]
              refine wpAnyH_done (by kernel_rfl) ?_ _
              go_wp2_with fail
              go_roundw
              case rel => exact ⟨m + 1, L2.set s ((s : Int) != (NX : Int)), by omega, rfl, HLd2, H'.out.lw, H'.out.nu⟩
              case measure => simp [intOf]; omega
              
        · obtain rfl : m = S := by omega
          have HX := Lib.hid hlw
          have HN' := Lib.hid (HNX.out L2 HLd.out)
          clear hlw hnu
          go_wp2_with fail
          go_roundw
          case rel => exact ⟨a + 1, L2, by omega, rfl, HN', HX.out⟩
          case measure => simp [intOf]; omega
    · obtain rfl : a = M := by omega
      have hd : ∀ j, L.getD j false = (gOf l).lead j := by
        have := HLd.out
        rw [← HM.out] at this
        exact this.done
      have hlen : L.length = N + 2 := by
        have := HLd.out.len
        rw [this, ← HNL.out]
        rfl
      have HD := Lib.hid (And.intro hlen (And.intro hd HW.out))
      clear hd hlen hlw
      go_wp2_with fail
      go_ret
      exact ⟨_, L, rfl, HD.out⟩
end Go.Proofs.Ytlpijnnlmgoihaa
