/- Dominance: the document's own walk from node to node, walked. -/
import Derived.Test.YtgaacdnljkildaaDE
namespace Go.Proofs.Ytgaacdnljkildaa
open Go.RowKit
open Dm

theorem av0 {G : Dg} {b : Nat} : ¬ G.Av (outS 0) b := by
  intro h
  induction h with
  | zero _ h => exact h rfl
  | step _ _ _ ih => exact ih
/-- a fresh row of bools -/
theorem rb_new (w : World) (N : Nat) : Rb (w.alloc (.cells (madeCells #[.bool false] N) 4)) w.heap.size (List.replicate N false) := by
  refine ⟨by simp, fun i hi => ?_, fun j => World.frozen?_alloc_new _ _ _ j⟩
  have hi' : i < N := by simpa using hi
  refine cell_new w ?_
  rw [rep_get]
  simp [madeCells, hi', Nat.mod_one]
/-- what walk answers -/
def WalkQ (g : List (List Int)) (a : Int) (w : World) (e : Ending) (w' : World) : Prop :=
  ∃ gb L, e = .returned (.slice (some ⟨gb, 0, none⟩) g.length g.length) ∧ w.heap.size ≤ gb ∧ Rb w' gb L ∧ L.length = g.length ∧ (∀ b, b < g.length → (L.getD b false = true ↔ (gL g).Av (outS a) b)) ∧ Below w.heap.size w w'
set_option maxRecDepth 100000 in
set_option maxHeartbeats 2000000 in
theorem rwalk_none (q : Option Addr) (qc : Nat) (g : List (List Int)) (a : Int) (w : World) (hN : g.length ≤ 4096) (h0 : g.length = 0 ∨ a = 0) : Calls Try.prog 28 #[.slice q g.length qc, .int .i64 a] w (WalkQ g a w) := by
  have HQ : Hid (∀ N, g.length = N → WalkQ g a w (.returned (.slice (some ⟨w.heap.size, 0, none⟩) N N)) (w.alloc (.cells (madeCells #[.bool false] N) 4))) := Lib.hid (fun N e => by
    subst e
    refine ⟨w.heap.size, List.replicate g.length false, rfl, Nat.le_refl _, rb_new w _, by simp, fun b hb => ?_, (Below.refl _ _).alloc (Nat.le_refl _) _⟩
    rw [rep_get]
    constructor
    · intro c; cases c
    · intro c
      rcases h0 with e | e
      · omega
      · subst e; exact absurd c av0)
  generalize WalkQ g a w = Q at *
  obtain ⟨N, hNl⟩ : ∃ N, g.length = N := ⟨_, rfl⟩
  rw [hNl] at hN h0 ⊢
  have HQ2 := Lib.hid (HQ.out N hNl)
  clear hNl HQ
  have hmk := fun W => run_make_row' (P := Try.prog) 25 4 (.bool false) 1 Try.underlying25 infoBool rfl .i64 .i64 N (by omega) (by omega) W
  by_cases e0 : N = 0
  · subst e0
    clear h0
    have hmk0 : ∀ W, (Instr.makeSlice 25 (.int .i64 0) (.int .i64 0)).run Try.prog W = .ok (.slice (some ⟨W.heap.size, 0, none⟩) 0 0) (W.alloc (.cells (madeCells #[.bool false] 0) 4)) := fun W => hmk W
    clear hmk
    go_enter Try.func28, Try.ntmps28
    go_wp2
    exact HQ2.out
  · obtain rfl : a = 0 := h0.resolve_left e0
    have hne : ((N : Int) == 0) = false := by simpa using (show ¬ (N : Int) = 0 by omega)
    clear h0
    go_enter Try.func28, Try.ntmps28
    go_wp2
    exact HQ2.out
set_option maxRecDepth 100000 in
set_option maxHeartbeats 4000000 in
theorem rwalk_some (q : Option Addr) (qc : Nat) (g : List (List Int)) (a : Int) (w : World) (h : GsAt w q g) (hN : g.length ≤ 4096) (hT : tot g ≤ 1048576) (h0 : 0 < g.length) (ha : a ≠ 0) : Calls Try.prog 28 #[.slice q g.length qc, .int .i64 a] w (WalkQ g a w) := by
  have HI := Lib.hid h
  have HT0 := Lib.hid (Td.start (g := g) (a := a) h0 ha)
  have HPR : Hid (pot g (List.replicate g.length false) = tot g) := Lib.hid (pot_rep g)
  have HQ : Hid (∀ (w1 : World) gb L, w.heap.size ≤ gb → Rb w1 gb L → Below w.heap.size w w1 → Td g a L [] → WalkQ g a w (.returned (.slice (some ⟨gb, 0, none⟩) g.length g.length)) w1) := Lib.hid (fun w1 gb L hgb hr hb ht => ⟨gb, L, rfl, hgb, hr, ht.len, fun b _ => ht.done b, hb⟩)
  have HLN : Hid (∀ seen todo, Td g a seen todo → seen.length = g.length) := Lib.hid (fun _ _ h => h.len)
  have HRW : Hid (∀ i, i < g.length → (g.getD i []).length ≤ tot g) := Lib.hid (fun i hi => row_le hi)
  have HPS : Hid (∀ s i, i < g.length → i < s.length → s.getD i false = false → pot g (s.set i true) + (g.getD i []).length = pot g s) := Lib.hid (fun s i h1 h2 h3 => pot_set h1 h2 h3)
  have HNW : Hid (∀ seen todo i, Td g a seen (todo ++ [((i : Nat) : Int)]) → Td g a (seen.set i true) (todo ++ (g.getD i []).filter (okB g.length a))) := Lib.hid (fun _ _ _ h => h.new)
  generalize WalkQ g a w = Q at *
  have hsl1 := fun (q : Option Addr) (len cap C : Nat) (h : C ≤ cap) W => (slice_headI q len cap C h W).1
  have hsl2 := fun (q : Option Addr) (len cap C : Nat) (h : C ≤ cap) W => (slice_headI q len cap C h W).2
  have HGC := Lib.hid (fun (W : World) (hW : Below w.heap.size w W) i hi => (HI.out.below hW).cells i hi)
  obtain ⟨N, hNl⟩ : ∃ N, g.length = N := ⟨_, rfl⟩
  have HNL := Lib.hid hNl
  obtain ⟨TT, hTT⟩ : ∃ T, tot g = T := ⟨_, rfl⟩
  rw [hNl] at hN h0 HT0 HPR HQ HLN HRW HPS HNW HGC ⊢
  rw [hTT] at hT HPR HRW
  have hne : ((N : Int) == 0) = false := by simpa using (show ¬ (N : Int) = 0 by omega)
  have hna : (a == 0) = false := by simpa using ha
  clear h hNl hTT ha
  have hmk := fun W => run_make_row' (P := Try.prog) 25 4 (.bool false) 1 Try.underlying25 infoBool rfl .i64 .i64 N (by omega) (by omega) W
  have HS := Lib.hid (Rs.start (w := w) (w1 := w) N (Below.refl _ _))
  go_enter Try.func28, Try.ntmps28
  go_wp2_with fail
  clear hne hna hmk
  go_loopg [6] (pot g (List.replicate N false) + 1) (fun k t wr => ∃ (seen : List Bool) (T : List Int) (p : Option Addr) (c : Nat), t = .slice p T.length c ∧ Hid (Td g a seen T) ∧ Hid (pot g seen + T.length ≤ k ∧ k ≤ TT + 1) ∧ Rs w wr w.heap.size seen T p c)
  case atStart => exact ⟨List.replicate N false, [0], some ⟨w.heap.size + 1, 0, none⟩, 1, rfl, HT0, Lib.hid ⟨Nat.le_refl _, by rw [HPR.out]; omega⟩, HS.out⟩
  case round =>
    clear HS HT0
    obtain ⟨seen, T, p, c, rfl, HTo, HK, hs⟩ := hrel
    have HS := Lib.hid hs
    by_cases hT0 : T.length = 0
    · obtain rfl : T = [] := List.eq_nil_of_length_eq_zero hT0
      have HD := Lib.hid (HQ.out _ _ _ (Nat.le_refl _) HS.out.sn HS.out.low HTo.out)
      clear hs hT0
      rw [show ([] : List Int).length = 0 from rfl]
      go_wp2_with fail
      exact HD.out
    · obtain ⟨T', x, hTx⟩ : ∃ T' x, T = T' ++ [x] := by
        rcases List.eq_nil_or_concat T with e | ⟨T', x, e⟩
        · rw [e] at hT0; exact absurd rfl hT0
        · exact ⟨T', x, by simpa using e⟩
      subst hTx
      clear hT0
      obtain ⟨i, rfl, hiN, _⟩ := HTo.out.at
      rw [HNL.out] at hiN
      obtain ⟨g6, cap, hv, hg1, hg2⟩ := own_some hs.td (by simp)
      injection hv with hv1 hv2 hv3
      subst hv1 hv3
      obtain ⟨o1, o2, o3⟩ := own_pop hs.td
      have HO := Lib.hid o1
      have hTl : (T' ++ [(i : Int)]).length = T'.length + 1 := by simp
      have hn6 : ¬ g6 = w.heap.size := fun e => hs.ap (by rw [e]; rfl)
      have HKl := HK.out
      have hTN : T'.length ≤ 1048577 := by simp at HKl; omega
      have hsl : seen.length = N := HLN.out _ _ HTo.out
      have hsc := hs.sn.cell i (by omega)
      have hfr := hs.sn.fr
      have hlt := hs.sn.lt
      rw [hTl]
      clear HKl hTl hv2
      obtain ⟨n6, hn6'⟩ : ∃ n, T'.length = n := ⟨_, rfl⟩
      rw [hn6'] at HO o2 o3 hTN ⊢
      have HN6 := Lib.hid hn6'
      clear hn6' o1
      cases hv : seen.getD i false with
      | true =>
        rw [hv] at hsc
        have HV := Lib.hid hv
        clear hs hv
        go_wp2_with fail
        go_roundg (pot g seen + T'.length)
        case measure => have := HK.out.1; simp at this; omega
        case rel => exact ⟨seen, T', some ⟨g6, 0, none⟩, c, by rw [HN6.out], Lib.hid (HTo.out.old HV.out), Lib.hid ⟨Nat.le_refl _, by have := HK.out; simp at this; omega⟩, HS.out.pop HN6.out HO.out⟩
      | false =>
        rw [hv] at hsc
        have HV := Lib.hid hv
        have HR5 := Lib.hid ((HS.out.pop HN6.out HO.out).see (i := i) (by omega))
        have HU := Lib.hid (HPS.out seen i hiN (by omega) hv)
        have HNW2 := Lib.hid (HNW.out seen T' i HTo.out)
        have HRW2 := Lib.hid (HRW.out i hiN)
        have HGC2 := Lib.hid (fun W hW => HGC.out W hW i hiN)
        obtain ⟨R, hR⟩ : ∃ R, g.getD i [] = R := ⟨_, rfl⟩
        rw [hR] at HU HNW2 HRW2 HGC2
        obtain ⟨M, hM⟩ : ∃ M, R.length = M := ⟨_, rfl⟩
        have HM := Lib.hid hM
        rw [hM] at HU HRW2 HGC2
        have HN9 := Lib.hid (fun (x : Int) W => nums_new (k := .i64) W 3 [x] #[.int .i64 x] rfl (by simp))
        obtain ⟨F, hF⟩ : ∃ F : Nat → List Int, ∀ m, F m = T' ++ (R.take m).filter (okB N a) := ⟨_, fun m => rfl⟩
        have HF0 : Hid (F 0 = T') := Lib.hid (by rw [hF]; simp)
        have HFM : Hid (F M = T' ++ R.filter (okB N a)) := Lib.hid (by rw [hF, ← hM, List.take_length])
        have HFY : Hid (∀ m, m < M → okB N a (R.getD m 0) = true → F (m + 1) = F m ++ [R.getD m 0]) := Lib.hid (fun m hm h => by rw [hF, hF, take_filter_yes (by rw [hM]; exact hm) h, List.append_assoc])
        have HFN : Hid (∀ m, m < M → okB N a (R.getD m 0) = false → F (m + 1) = F m) := Lib.hid (fun m hm h => by rw [hF, hF, take_filter_no (by rw [hM]; exact hm) h])
        have HFL : Hid (∀ m, (F m).length ≤ n6 + m) := Lib.hid (fun m => by
          rw [hF, List.length_append, HN6.out]
          have := List.length_filter_le (okB N a) (R.take m)
          have := List.length_take_le m R
          omega)
        clear hs hv hR hM hF HPS HRW HNW HGC
        go_wp2_with fail
        go_loopw [6, 8] (fun t v wr2 => ∃ (m : Nat) (p : Option Addr) (c : Nat), m ≤ M ∧ v = .int .i64 (m : Int) ∧ t = .slice p (F m).length c ∧ Rs w wr2 w.heap.size (seen.set i true) (F m) p c) (fun _ v _ => M - (intOf v).toNat)
        case atStart => exact ⟨0, some ⟨g6, 0, none⟩, c, Nat.zero_le _, rfl, by rw [HF0.out, HN6.out], by rw [HF0.out]; exact HR5.out⟩
        case round =>
          clear HR5 HS HO o2 o3 hsc hfr hlt
          obtain ⟨m, p, c, hm1, rfl, rfl, hs⟩ := hrel
          have HS := Lib.hid hs
          obtain ⟨b4, o4, p4, c4, rfl, hl4, e4, hn4⟩ := HGC2.out wr hs.low
          by_cases hm : m < M
          · obtain ⟨b5, o5, rfl, hl5, e5⟩ := hn4.cells m (by rw [HM.out]; exact hm)
            have hFL := HFL.out m
            have HY := Lib.hid (HFY.out m hm)
            have HN := Lib.hid (HFN.out m hm)
            have hMT := HRW2.out
            clear hn4 hs
            generalize R.getD m 0 = y at *
            by_cases y0 : 0 ≤ y
            · by_cases yN : y < (N : Int)
              · by_cases ya : y = a
                · have HE := Lib.hid (HN.out (by unfold okB; simp [ya]))
                  have hb : (y != a) = false := by simp [ya]
                  clear ya HY HN
                  go_wp2_with fail
                  go_roundw
                  case rel => exact ⟨m + 1, p, c, by omega, rfl, by rw [HE.out], by rw [HE.out]; exact HS.out⟩
                  case measure => simp [intOf]; omega
                · have HE := Lib.hid (HY.out (okB_iff.2 ⟨y0, yN, ya⟩))
                  have hb : (y != a) = true := by simp [ya]
                  clear ya HY HN
                  go_wp2_with (at_builtin; refine wpList_app_ints rfl (.tmp 72) (.tmp 74) rfl rfl w.heap.size (some ⟨wr.heap.size, 0, none⟩) [y] (F m) (.slice p (F m).length c) 1 1 rfl rfl rfl (own_below HS.out.td ((Below.refl _ _).alloc (Nat.le_refl _) _)) (HN9.out _ _) (by have := HS.out.low.size; simp; omega) (by simp; omega) ?_; intro v8 w8 ho8 hg8 hb8; obtain ⟨q8, c8, rfl⟩ := own_form ho8; have HR8 := Lib.hid (Rs.app (HS.out.next ((Below.refl _ _).alloc (Nat.le_refl _) _)) rfl ho8 rfl hg8 hb8); clear ho8 hg8 hb8)
                  go_roundw
                  case rel => exact ⟨m + 1, q8, c8, by omega, rfl, by rw [HE.out]; simp, by rw [HE.out]; exact HR8.out⟩
                  case measure => simp [intOf]; omega
              · have HE := Lib.hid (HN.out (by unfold okB; simp [yN]))
                clear HY HN
                go_wp2_with fail
                go_roundw
                case rel => exact ⟨m + 1, p, c, by omega, rfl, by rw [HE.out], by rw [HE.out]; exact HS.out⟩
                case measure => simp [intOf]; omega
            · have HE := Lib.hid (HN.out (by unfold okB; simp [y0]))
              clear HY HN
              go_wp2_with fail
              go_roundw
              case rel => exact ⟨m + 1, p, c, by omega, rfl, by rw [HE.out], by rw [HE.out]; exact HS.out⟩
              case measure => simp [intOf]; omega
          · obtain rfl : M = m := by omega
            clear hs hn4
            go_wp2_with fail
            go_roundg (pot g (seen.set i true) + (F M).length)
            case measure => have := HK.out.1; have := HU.out; have := HFL.out M; have := HN6.out; simp at *; omega
            case rel => exact ⟨seen.set i true, F M, p, c, rfl, by rw [HFM.out]; exact HNW2, Lib.hid ⟨Nat.le_refl _, by have := HK.out; have := HU.out; have := HFL.out M; have := HN6.out; simp at *; omega⟩, HS.out⟩
theorem rwalk_any (q : Option Addr) (qc : Nat) (g : List (List Int)) (a : Int) (w : World) (h : GsAt w q g) (hN : g.length ≤ 4096) (hT : tot g ≤ 1048576) : Calls Try.prog 28 #[.slice q g.length qc, .int .i64 a] w (WalkQ g a w) := by
  by_cases h0 : g.length = 0 ∨ a = 0
  · exact rwalk_none q qc g a w hN h0
  · exact rwalk_some q qc g a w h hN hT (by omega) (fun e => h0 (.inr e))
end Go.Proofs.Ytgaacdnljkildaa
