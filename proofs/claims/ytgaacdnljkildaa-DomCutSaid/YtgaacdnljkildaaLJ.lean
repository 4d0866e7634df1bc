/- Dominance: package dom's own preds. -/
import Derived.Test.YtgaacdnljkildaaLI
namespace Go.Proofs.Ytgaacdnljkildaa
open Go.RowKit
open Dm

theorem infoInts : (Try.prog.info? 27).map (fun i => (i.zero, i.size, i.bytes)) = some (some (.slice none 0 0), 1, 24) := by kernel_rfl
/-- numbers that a Go int bears -/
def Wd (g : List (List Int)) : Prop := ∀ i, ∀ x ∈ g.getD i [], (lit x).wf = true
/-- a fresh row of rows -/
theorem Sr.rows (base : Nat) (W : World) (N : Nat) : Sr base (W.alloc (.cells (madeCells #[.slice none 0 0] N) 27)) W.heap.size (List.range N) (fun _ => []) (fun _ => none) (fun _ => 0) := by
  refine ⟨by simp, fun j => World.frozen?_alloc_new _ _ _ j, fun j hj => ?_, fun j _ => World.ownsRow_nil _ _ _ _, fun j _ => by simp, fun j _ k _ _ => .inl rfl⟩
  have hj' := List.mem_range.1 hj
  refine cell_new W ?_
  simp [madeCells, hj', Nat.mod_one]
def cb (k i : Nat) : Nat := k * 1048576 + i
theorem cb_next {c k m : Nat} (h : c ≤ cb k m) (hm : m ≤ 1048576) : c ≤ cb (k + 1) 0 := by
  refine Nat.le_trans h ?_
  unfold cb
  rw [Nat.add_mul, Nat.one_mul]
  exact Nat.add_le_add_left hm _
/-- what leads where, of the first k numbers, and of some of the next one's row -/
structure Pr (su : Nat → List Int) (S : Ws) (k : Nat) (xs : List Int) (r : Nat → List Int) (cnt : Nat) : Prop where
  is : ∀ j, j < S.nodes.length → ∀ x, x ∈ r j ↔ ∃ p : Nat, x = (p : Int) ∧ ((p < k ∧ (gN su S).e p j) ∨ (p = k ∧ ((S.nodes.getD j 0 : Nat) : Int) ∈ xs))
  ln : ∀ j, (r j).length ≤ cnt
theorem Pr.start (su : Nat → List Int) (S : Ws) : Pr su S 0 [] (fun _ => []) 0 :=
  ⟨fun j _ x => ⟨fun h => (by cases h), fun ⟨p, _, h⟩ => (by
    rcases h with h | h
    · exact absurd h.1 (Nat.not_lt_zero _)
    · cases h.2)⟩, fun _ => Nat.le_refl _⟩
theorem Pr.skip {su : Nat → List Int} {S : Ws} {k cnt : Nat} {xs : List Int} {r : Nat → List Int} (h : Pr su S k xs r cnt) {x : Int} (hx : ∀ j, j < S.nodes.length → ((S.nodes.getD j 0 : Nat) : Int) ≠ x) : Pr su S k (xs ++ [x]) r (cnt + 1) := by
  refine ⟨fun j hj y => ?_, fun j => Nat.le_succ_of_le (h.ln j)⟩
  rw [h.is j hj y]
  have : ((S.nodes.getD j 0 : Nat) : Int) ∈ xs ++ [x] ↔ ((S.nodes.getD j 0 : Nat) : Int) ∈ xs := by
    rw [List.mem_append, List.mem_singleton]
    exact ⟨fun c => c.resolve_right (hx j hj), .inl⟩
  simp only [this]
theorem Pr.put {su : Nat → List Int} {S : Ws} {k cnt n : Nat} {xs : List Int} {r : Nat → List Int} (hS : S.nodes.Nodup) (h : Pr su S k xs r cnt) (hn : n < S.nodes.length) : Pr su S k (xs ++ [((S.nodes.getD n 0 : Nat) : Int)]) (up1 r n (r n ++ [(k : Int)])) (cnt + 1) := by
  refine ⟨fun j hj y => ?_, fun j => ?_⟩
  · by_cases e : j = n
    · subst e
      rw [up1_at, List.mem_append, h.is j hj y, List.mem_singleton]
      constructor
      · rintro (⟨p, e1, c | ⟨c1, c2⟩⟩ | e1)
        · exact ⟨p, e1, .inl c⟩
        · exact ⟨p, e1, .inr ⟨c1, List.mem_append_left _ c2⟩⟩
        · exact ⟨k, e1, .inr ⟨rfl, List.mem_append_right _ (List.mem_singleton.2 rfl)⟩⟩
      · rintro ⟨p, e1, c | ⟨c1, _⟩⟩
        · exact .inl ⟨p, e1, .inl c⟩
        · exact .inr (by rw [e1, c1])
    · rw [up1_ne _ _ _ e, h.is j hj y]
      have : ((S.nodes.getD j 0 : Nat) : Int) ∈ xs ++ [((S.nodes.getD n 0 : Nat) : Int)] ↔ ((S.nodes.getD j 0 : Nat) : Int) ∈ xs := by
        rw [List.mem_append, List.mem_singleton]
        exact ⟨fun c => c.resolve_right (fun c => e (nodup_getD hS hj hn (by omega))), .inl⟩
      simp only [this]
  · unfold up1
    split
    · rename_i e; subst e; have := h.ln j; simp; omega
    · have := h.ln j; omega
theorem Pr.next {su : Nat → List Int} {S : Ws} {k cnt : Nat} {r : Nat → List Int} (h : Pr su S k (su (S.nodes.getD k 0)) r cnt) (hk : k < S.nodes.length) : Pr su S (k + 1) [] r cnt := by
  refine ⟨fun j hj y => ?_, h.ln⟩
  rw [h.is j hj y]
  constructor
  · rintro ⟨p, e1, ⟨c1, c2⟩ | ⟨c1, c2⟩⟩
    · exact ⟨p, e1, .inl ⟨by omega, c2⟩⟩
    · subst c1; exact ⟨p, e1, .inl ⟨by omega, hk, hj, c2⟩⟩
  · rintro ⟨p, e1, ⟨c1, c2⟩ | ⟨_, c2⟩⟩
    · by_cases e : p = k
      · subst e; exact ⟨p, e1, .inr ⟨rfl, c2.2.2⟩⟩
      · exact ⟨p, e1, .inl ⟨by omega, c2⟩⟩
    · cases c2
theorem Pr.done {su : Nat → List Int} {S : Ws} {cnt : Nat} {r : Nat → List Int} (h : Pr su S S.nodes.length [] r cnt) : ∀ j, j < S.nodes.length → ∀ x, x ∈ r j ↔ ∃ p : Nat, x = (p : Int) ∧ (gN su S).e p j := fun j hj x => by
  rw [h.is j hj x]
  constructor
  · rintro ⟨p, e1, ⟨_, c2⟩ | ⟨_, c2⟩⟩
    · exact ⟨p, e1, c2⟩
    · cases c2
  · rintro ⟨p, e1, c⟩; exact ⟨p, e1, .inl ⟨c.1, c⟩⟩
/-- what preds answers -/
def PrP (w : World) (su : Nat → List Int) (S : Ws) (e : Ending) (w' : World) : Prop :=
  ∃ gp r P C, e = .returned (.slice (some ⟨gp, 0, none⟩) S.nodes.length S.nodes.length) ∧ w.heap.size ≤ gp ∧ Sr w.heap.size w' gp (List.range S.nodes.length) r P C ∧ (∀ j, j < S.nodes.length → ∀ x, x ∈ r j ↔ ∃ p : Nat, x = (p : Int) ∧ (gN su S).e p j) ∧ (∀ j, (r j).length ≤ 134217728) ∧ Below w.heap.size w w'
set_option maxRecDepth 100000 in
set_option maxHeartbeats 4000000 in
theorem spreds_any {B b : Nat} {S : Ws} (q : Option Addr) (qc : Nat) (g : List (List Int)) (w : World) (h : GsAt w q g) (_hN : g.length ≤ 60) (hT : tot g ≤ 1048576) (hW : Wd g) (ht : Tt B w b S) (hS : S.nodes.Nodup) (hlt : ∀ x ∈ S.nodes, x < g.length) (hM : S.nodes.length ≤ 60) :
    Calls Try.prog 23 #[.pointer (some ⟨b, 0, none⟩), .slice q g.length qc] w (PrP w (fun i => g.getD i []) S) := by
  have HG := Lib.hid (fun W (hb : Below w.heap.size w W) i hi => (h.below hb).cells i hi)
  have HTT := Lib.hid (fun W (hb : Below w.heap.size w W) => ht.next hb)
  obtain ⟨su, hsu⟩ : ∃ su : Nat → List Int, (fun i => g.getD i []) = su := ⟨_, rfl⟩
  have hsi : ∀ i, g.getD i [] = su i := fun i => congrFun hsu i
  have HRW : Hid (∀ i, i < g.length → (g.getD i []).length ≤ tot g) := Lib.hid (fun i hi => row_le hi)
  unfold Wd at hW
  simp only [hsi] at HG HRW hW
  rw [hsu]
  obtain ⟨q1, c1, d1, n1, _⟩ := ht.r1
  have dl := ht.bl
  obtain ⟨M, hMd⟩ : ∃ M, S.nodes.length = M := ⟨_, rfl⟩
  have HML : Hid (S.nodes.length = M ∧ (S.nodes.map Int.ofNat).length = M) := Lib.hid ⟨hMd, (List.length_map ..).trans hMd⟩
  have HN1 := Lib.hid n1
  have HX : Hid (∀ k, k < M → S.nodes.getD k 0 < g.length ∧ (S.nodes.map Int.ofNat).getD k 0 = ((S.nodes.getD k 0 : Nat) : Int)) := Lib.hid (fun k hk => ⟨hlt _ (getD_memN (by rw [hMd]; exact hk)), by
    rw [List.getD_eq_getElem?_getD, List.getD_eq_getElem?_getD, List.getElem?_map, List.getElem?_eq_getElem (by rw [hMd]; exact hk)]; rfl⟩)
  have HD : Hid (∀ W r P C cnt, cnt ≤ 134217728 → Pr su S M [] r cnt → Sr w.heap.size W w.heap.size (List.range M) r P C → Below w.heap.size w W → PrP w su S (.returned (.slice (some ⟨w.heap.size, 0, none⟩) M M)) W) := Lib.hid (fun W r P C cnt h0 h1 h2 h3 => by
    rw [← hMd] at h1 h2 ⊢
    exact ⟨_, r, P, C, rfl, Nat.le_refl _, h2, h1.done, fun j => Nat.le_trans (h1.ln j) h0, h3⟩)
  generalize PrP w su S = Q at *
  have HW := Lib.hid hW
  have HS := Lib.hid hS
  have hmk := fun W => run_make_row' (P := Try.prog) 22 27 (.slice none 0 0) 24 Try.underlying22 infoInts rfl .i64 .i64 M (by omega) (by omega) W
  have HN9 := Lib.hid (fun (x : Int) (W : World) k (e : k = W.heap.size) => (e ▸ nums_new (k := .i64) W 3 [x] #[.int .i64 x] rfl (by simp) : NumsAt .i64 (W.alloc (.cells #[.int .i64 x] 3)) (some ⟨k, 0, none⟩) [x]))
  obtain ⟨N, hNd⟩ : ∃ N, g.length = N := ⟨_, rfl⟩
  obtain ⟨TT, hTT⟩ : ∃ T, tot g = T := ⟨_, rfl⟩
  rw [hMd] at d1 hM
  rw [hNd] at HG HRW HX _hN ⊢
  rw [hTT] at HRW hT
  have HB0 : Hid (Below w.heap.size w (w.alloc (.cells (madeCells #[.slice none 0 0] M) 27))) := Lib.hid b1
  have HR0 := Lib.hid (Sr.rows w.heap.size w M)
  have HP0 := Lib.hid (Pr.start su S)
  clear h ht n1 hW hS hlt hsu hsi hMd hNd hTT
  go_enter Try.func23, Try.ntmps23
  go_wp2_with fail
  go_loopw [23] (fun v wr => ∃ (k : Nat) (r : Nat → List Int) (P : Nat → Option Addr) (C : Nat → Nat) (cnt : Nat), k ≤ M ∧ v = .int .i64 (k : Int) ∧ Hid (cnt ≤ cb k 0) ∧ Hid (Pr su S k [] r cnt) ∧ Hid (Sr w.heap.size wr w.heap.size (List.range M) r P C) ∧ Below w.heap.size w wr) (fun v _ => M - (RowKit.intOf v).toNat)
  case atStart => exact ⟨0, _, _, _, 0, Nat.zero_le _, rfl, Lib.hid (Nat.zero_le _), HP0, HR0, HB0.out⟩
  case round =>
    clear HP0 HR0 d1 dl HB0
    obtain ⟨k, r, P, C, cnt, hk, rfl, HC, HPR, HSR, hb⟩ := hrel
    have HB := Lib.hid hb
    have d1l := hb
    by_cases hkM : k < M
    · obtain ⟨b5, o5, rfl, hl5, e5⟩ := (HN1.out.below hb).cells k (by rw [HML.out.2]; exact hkM)
      obtain ⟨hx, e6⟩ := HX.out k hkM
      rw [e6] at e5
      obtain ⟨u, hu⟩ : ∃ u, S.nodes.getD k 0 = u := ⟨_, rfl⟩
      rw [hu] at hx e5
      have HU := Lib.hid hu
      obtain ⟨b4, o4, p4, c4, rfl, hb4, e4w, n4⟩ := HG.out w (Below.refl _ _) u hx
      have e4 := (hb.cell (p := ⟨b4, o4 + u, none⟩) hb4).trans e4w
      have lb4 := Nat.lt_of_lt_of_le hb4 hb.size
      have HG4 := Lib.hid (fun W (hW : Below w.heap.size w W) => n4.below hW)
      have HWR : Hid (∀ x ∈ su u, (lit x).wf = true) := Lib.hid (HW.out u)
      have hRT := HRW.out u hx
      obtain ⟨row, hrow⟩ : ∃ row, su u = row := ⟨_, rfl⟩
      rw [hrow] at e4 HG4 hRT HWR
      have HRE := Lib.hid hrow
      obtain ⟨m, hm⟩ : ∃ m, row.length = m := ⟨_, rfl⟩
      rw [hm] at e4 hRT
      have HMM := Lib.hid hm
      clear hb d1l hm hrow n4 hu e6 e4w
      go_wp2_with fail
      go_loopw [33] (fun v wr2 => ∃ (i : Nat) (r : Nat → List Int) (P : Nat → Option Addr) (C : Nat → Nat) (cnt : Nat), i ≤ m ∧ v = .int .i64 (i : Int) ∧ Hid (cnt ≤ cb k i) ∧ Hid (Pr su S k (row.take i) r cnt) ∧ Hid (Sr w.heap.size wr2 w.heap.size (List.range M) r P C) ∧ Below w.heap.size w wr2) (fun v _ => m - (RowKit.intOf v).toNat)
      case atStart => exact ⟨0, r, P, C, cnt, Nat.zero_le _, rfl, HC, by rw [List.take_zero]; exact HPR, HSR, HB.out⟩
      case round =>
        clear e4 HC HPR HSR HB lb4 hl5 e5
        obtain ⟨i, r, P, C, cnt, hi, rfl, HC, HPR, HSR, hb⟩ := hrel
        have HB := Lib.hid hb
        by_cases him : i < m
        · obtain ⟨b6, o6, rfl, hl6, e6⟩ := (HG4.out wr hb).cells i (by rw [HMM.out]; exact him)
          have hilt : i < row.length := by rw [HMM.out]; exact him
          have HTK : Hid (row.take (i + 1) = row.take i ++ [row.getD i 0]) := Lib.hid (take_one hilt)
          have hxw : (lit (row.getD i 0)).wf = true := HWR.out _ (by rw [List.getD_eq_getElem?_getD, List.getElem?_eq_getElem hilt]; exact List.getElem_mem hilt)
          obtain ⟨mm, nn, f, c0, hmp, hf, _⟩ := (HTT.out wr hb).mp
          have dbl := (HTT.out wr hb).bl
          have HMP := Lib.hid hmp
          have HNF := Lib.hid hf
          clear hb hmp hf hilt
          generalize row.getD i 0 = x at *
          cases hfx : f x with
          | none =>
            have HP2 := Lib.hid (HPR.out.skip (x := x) (fun j hj e => by have := HNF.out.is j hj; rw [e, hfx] at this; cases this))
            go_wp2_with (at_lookup; refine wpList_mp_look_no rfl (.tmp 41) (.tmp 42) rfl mm nn f x rfl rfl HMP.out hxw hfx ?_; intro c1)
            go_roundw
            case rel => exact ⟨i + 1, r, P, C, cnt + 1, by omega, rfl, Lib.hid (Nat.succ_le_succ HC.out), by rw [HTK.out]; exact HP2, HSR, HB.out⟩
            case measure => simp [RowKit.intOf]; omega
          | some y =>
            obtain ⟨n, hn, hxe, rfl⟩ := HNF.out.some_iff hfx
            rw [HML.out.1] at hn
            have HP2 := Lib.hid (HPR.out.put HS.out (n := n) (by rw [HML.out.1]; exact hn))
            rw [hxe] at HP2
            have hmem : n ∈ List.range M := List.mem_range.2 hn
            have hln := HPR.out.ln n
            have HLB : Hid (cb k i ≤ 1099511627775) := Lib.hid (by unfold cb; omega)
            obtain ⟨l, hl⟩ : ∃ l, r n = l := ⟨_, rfl⟩
            obtain ⟨z, hz⟩ : ∃ z, l.length = z := ⟨_, rfl⟩
            have HLN : Hid (l.length = z ∧ (l ++ [(k : Int)]).length = z + 1 ∧ l.length + [(k : Int)].length ≤ 1099511627776) := Lib.hid ⟨hz, by simp [hz], by have := HC.out; have := HLB.out; rw [hl] at hln; simp; omega⟩
            have g1 := HSR.out.clE (j := n) hmem hl rfl rfl hz
            have g2 := HSR.out.bl
            have HSM : Hid (Sr w.heap.size (wr.alloc (.cells #[.int .i64 (k : Int)] 3)) w.heap.size (List.range M) r P C) := Lib.hid (HSR.out.grown (al_grown wr _) (by simp) (fun _ _ _ e => by cases e))
            have HEN : Hid (n ∈ List.range M ∧ r n = l) := Lib.hid ⟨hmem, hl⟩
            have HBA : Hid (Below w.heap.size w (wr.alloc (.cells #[.int .i64 (k : Int)] 3))) := Lib.hid (HB.out.trans (b1.mono HB.out.size))
            have HN8 := Lib.hid (HN9.out (k : Int) wr _ rfl)
            rw [hl] at HP2
            clear hln hmem hl hz hxe
            go_wp2_with (first
              | (at_lookup; refine wpList_mp_look_ok rfl (.tmp 41) (.tmp 42) rfl mm nn f x (n : Int) rfl rfl HMP.out hxw hfx ?_)
              | (at_builtin; refine wpList_app_ints rfl (.tmp 52) (.tmp 54) rfl rfl w.heap.size _ [(k : Int)] l (.slice (P n) z (C n)) 1 1 rfl rfl rfl (HSM.out.ownE (j := n) HEN.out.1 HEN.out.2 rfl rfl HLN.out.1.symm) HN8.out HBA.out.size HLN.out.2.2 ?_; intro v8 w8 ho8 hg8 hb8; rw [HLN.out.2.1] at ho8; obtain ⟨q8, c8, rfl⟩ := own_form ho8; obtain ⟨e8, fz8, bl8⟩ := HSM.out.mid (j := n) HEN.out.1 hg8; rw [HEN.out.2, HLN.out.1] at e8; have HX := Lib.hid (HSM.out.app (j := n) HEN.out.1 (by rw [HLN.out.2.1]; exact ho8) HLN.out.2.1.symm hg8 hb8); have HBX := Lib.hid ((HBA.out.grown hg8 HBA.out.size (fun k e => (HSM.out.blk (j := n) HEN.out.1 (by rw [← e, own_blk])).1)).setCell (p := ⟨w.heap.size, n, none⟩) (Nat.le_refl _) (.slice q8 (z + 1) c8)); clear ho8 hg8 hb8))
            go_roundw
            case rel => exact ⟨i + 1, _, _, _, cnt + 1, by omega, rfl, Lib.hid (Nat.succ_le_succ HC.out), by rw [HTK.out]; exact HP2, HX, HBX.out⟩
            case measure => simp [RowKit.intOf]; omega
        · obtain rfl : m = i := by omega
          have HP2 : Hid (Pr su S (k + 1) [] r cnt) := Lib.hid ((show Pr su S k (su (S.nodes.getD k 0)) r cnt by rw [HU.out, HRE.out, ← List.take_length (l := row), HMM.out]; exact HPR.out).next (by rw [HML.out.1]; exact hkM))
          clear hb
          go_wp2_with fail
          go_roundw
          case rel => exact ⟨k + 1, r, P, C, cnt, by omega, rfl, Lib.hid (cb_next HC.out (by omega)), HP2, HSR, HB.out⟩
          case measure => simp [RowKit.intOf]; omega
    · obtain rfl : M = k := by omega
      clear hb d1l
      go_wp2_with fail
      exact HD.out _ _ _ _ _ (Nat.le_trans HC.out (by unfold cb; omega)) HPR.out HSR.out HB.out
end Go.Proofs.Ytgaacdnljkildaa
