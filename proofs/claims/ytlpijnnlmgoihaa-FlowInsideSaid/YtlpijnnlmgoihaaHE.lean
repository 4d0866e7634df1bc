/- Flow: package flow's own cut: the blocks, one instruction after another. -/
import Derived.Test.YtlpijnnlmgoihaaHD
import Derived.Test.YtlpijnnlmgoihaaGY
namespace Go.Proofs.Ytlpijnnlmgoihaa
open Go.RowKit M
open Fl (Fg upd upd_same upd_other)

namespace Fl
variable {G : Fg}
theorem Fg.fd_in (hG : G.Ok) {r : Nat} (h : G.R r) : G.fd r < G.n ∧ G.inB (G.fd r) r = true := by
  obtain ⟨k, hk, hb⟩ := Fg.in_some hG h
  rw [Fg.fd_is hG hk hb]
  exact ⟨hk, hb⟩
theorem sorted_le {l : List Nat} (h : l.Pairwise (· < ·)) {i j : Nat} (hij : i ≤ j) (hj : j < l.length) : l.getD i 0 ≤ l.getD j 0 := by
  rcases Nat.lt_or_ge i j with c | c
  · exact Nat.le_of_lt (sorted_lt h c hj)
  · rw [show i = j by omega]; exact Nat.le_refl _
/-- one that is no leader is in the block of the one ahead of it -/
theorem Fg.fd_prev (hG : G.Ok) {k : Nat} (hk : k + 1 < G.reach.length) (hl : G.lead (G.reach.getD (k + 1) 0) = false) : G.fd (G.reach.getD (k + 1) 0) = G.fd (G.reach.getD k 0) := by
  have hR := (Fg.mem_reach hG).1 (getD_mem hk)
  obtain ⟨h1, h2⟩ := Fg.fd_in hG hR
  obtain ⟨a1, a2⟩ := Fg.inB_iff.1 h2
  have hf := Fg.fr_ok hG h1
  have hne : G.fr (G.fd (G.reach.getD (k + 1) 0)) ≠ G.reach.getD (k + 1) 0 := fun e => by
    rw [e, hl] at hf; cases hf.2
  obtain ⟨j, hj, e⟩ := mem_getD ((Fg.mem_reach hG).2 hf.1)
  have hjk : j ≤ k := by
    rcases Nat.lt_or_ge k j with c | c
    · have := sorted_le G.reach_sorted (i := k + 1) (j := j) (by omega) hj
      omega
    · exact c
  have h3 := sorted_le G.reach_sorted hjk (by omega)
  have h4 := sorted_lt G.reach_sorted (i := k) (j := k + 1) (by omega) hk
  exact (Fg.fd_is hG h1 (Fg.inB_iff.2 ⟨by omega, by omega⟩)).symm
theorem Fg.reach_zero (hG : G.Ok) : G.lead (G.reach.getD 0 0) = true := by
  obtain ⟨j, hj, e⟩ := mem_getD ((Fg.mem_reach hG).2 .zero)
  have := sorted_le G.reach_sorted (i := 0) (j := j) (by omega) hj
  rw [show G.reach.getD 0 0 = 0 by omega]
  exact Fg.lead0
end Fl
/-- the blocks when k of those that one may come to are done -/
structure Ct (G : Fg) (k : Nat) (F T L : Nat → Nat) : Prop where
  fr : ∀ a, a < G.n → G.fr a ∈ G.reach.take k → F a = G.fr a
  la : ∀ a, a < G.n → ∀ r ∈ G.reach.take k, G.inB a r = true → r ≤ L a ∧ G.R (L a) ∧ G.inB a (L a) = true ∧ T a = G.nx (L a)
theorem Ct.start (G : Fg) (F T L : Nat → Nat) : Ct G 0 F T L := ⟨fun a _ h => by simp at h, fun a _ r h => by simp at h⟩
theorem take_lt {G : Fg} {k : Nat} (hk : k < G.reach.length) {r : Nat} (h : r ∈ G.reach.take k) : r < G.reach.getD k 0 := by
  obtain ⟨j, hj, e⟩ := List.getElem_of_mem h
  rw [List.length_take] at hj
  have := Fl.sorted_lt G.reach_sorted (i := j) (j := k) (by omega) hk
  rw [List.getElem_take] at e
  rw [List.getD_eq_getElem?_getD, List.getElem?_eq_getElem (by omega)] at this
  have e2 : G.reach[j]'(by omega) = r := e
  simp only [Option.getD_some] at this
  omega
theorem Ct.step {G : Fg} (hG : G.Ok) {k : Nat} {F T L : Nat → Nat} (h : Ct G k F T L) (hk : k < G.reach.length) {r t : Nat} (hr : G.reach.getD k 0 = r) (ht : G.fd r = t) :
    Ct G (k + 1) (if G.lead r = true then upd F t r else F) (upd T t (G.nx r)) (upd L t r) := by
  have hR : G.R r := by rw [← hr]; exact (Fg.mem_reach hG).1 (Fl.getD_mem hk)
  obtain ⟨h1, h2⟩ := Fg.fd_in hG hR
  rw [ht] at h1 h2
  have htk := take_next hk
  rw [hr] at htk
  refine ⟨fun a ha hm => ?_, fun a ha s hm hb => ?_⟩
  · rw [htk] at hm
    rcases List.mem_append.1 hm with c | c
    · have e := h.fr a ha c
      split
      · rename_i hl
        by_cases e2 : a = t
        · subst e2
          have h3 := Fg.fd_lead hG hR hl
          rw [ht] at h3
          rw [upd_same, h3.2.1]
        · rw [upd_other _ _ e2]; exact e
      · exact e
    · have e : G.fr a = r := List.mem_singleton.1 c
      have hl : G.lead r = true := by rw [← e]; exact (Fg.fr_ok hG ha).2
      have h3 := Fg.fd_lead hG hR hl
      rw [ht] at h3
      have e2 : a = t := Fg.fr_inj G ha h1 (by rw [e, h3.2.1])
      rw [if_pos hl, e2, upd_same, h3.2.1]
  · rw [htk] at hm
    by_cases e2 : a = t
    · subst e2
      rw [upd_same, upd_same]
      refine ⟨?_, hR, h2, rfl⟩
      rcases List.mem_append.1 hm with c | c
      · have := take_lt hk c; omega
      · rw [List.mem_singleton.1 c]; exact Nat.le_refl _
    · rw [upd_other _ _ e2, upd_other _ _ e2]
      rcases List.mem_append.1 hm with c | c
      · exact h.la a ha s c hb
      · rw [List.mem_singleton.1 c] at hb
        exact absurd (Fg.in_one hG ha h1 hb h2) e2
theorem Ct.done {G : Fg} (hG : G.Ok) {F T L : Nat → Nat} (h : Ct G G.reach.length F T L) {a : Nat} (ha : a < G.n) : F a = G.fr a ∧ T a = G.to (G.fr a) ∧ L a = G.la a := by
  rw [show G.reach.length = G.reach.length from rfl] at h
  have hfr := Fg.fr_ok hG ha
  have h1 := h.fr a ha (by rw [List.take_length]; exact (Fg.mem_reach hG).2 hfr.1)
  obtain ⟨l1, l2, l3⟩ := Fg.last_ok hG _ hfr.1
  obtain ⟨t1, t2, t3⟩ := Fg.to_ok hG hfr.1
  obtain ⟨c1, c2, c3, c4⟩ := h.la a ha (G.la a) (by rw [List.take_length]; exact (Fg.mem_reach hG).2 l1) (Fg.inB_iff.2 ⟨l3, t1⟩)
  obtain ⟨d1, d2⟩ := Fg.inB_iff.1 c3
  have hto : G.to (G.fr a) = G.nx (G.last (G.fr a)) := rfl
  have hla : G.la a = G.last (G.fr a) := rfl
  rw [hla] at c1
  have e : L a = G.la a := by
    rw [hla]
    obtain ⟨k1, k2⟩ := l1.ok hG
    rcases hG.nx _ k1 k2 with e | ⟨e, hh⟩
    · omega
    · by_cases e2 : L a = G.last (G.fr a) + 1
      · have := (c2.ok hG).2
        rw [e2, hh] at this
        cases this
      · omega
  exact ⟨h1, by rw [c4, e]; rfl, e⟩
/-- blocks in memory, their rows empty yet -/
structure Bc (w W : World) (g n : Nat) (F T L : Nat → Nat) : Prop where
  low : Below w.heap.size w W
  gb : w.heap.size ≤ g
  gl : g < W.heap.size
  fz : ∀ j, W.frozen? ⟨g, j, none⟩ = false
  c : ∀ k, k < n → W.cell? ⟨g, k * 5, none⟩ = some (.int .i64 (F k)) ∧ W.cell? ⟨g, k * 5 + 1, none⟩ = some (.int .i64 (T k)) ∧ W.cell? ⟨g, k * 5 + 2, none⟩ = some (.int .i64 (L k)) ∧ W.cell? ⟨g, k * 5 + 3, none⟩ = some (.slice none 0 0) ∧ W.cell? ⟨g, k * 5 + 4, none⟩ = some (.slice none 0 0)
theorem Bc.next {w W W' : World} {g n : Nat} {F T L : Nat → Nat} (h : Bc w W g n F T L) (hb : Below W.heap.size W W') : Bc w W' g n F T L := by
  obtain ⟨low, gb, gl, fz, c⟩ := h
  refine ⟨low.trans (hb.mono low.size), gb, Nat.lt_of_lt_of_le gl hb.size, fun j => (hb.frozen (p := ⟨g, j, none⟩) gl).trans (fz j), fun k hk => ?_⟩
  obtain ⟨c0, c1, c2, c3, c4⟩ := c k hk
  exact ⟨(hb.cell (p := ⟨g, _, none⟩) gl).trans c0, (hb.cell (p := ⟨g, _, none⟩) gl).trans c1, (hb.cell (p := ⟨g, _, none⟩) gl).trans c2, (hb.cell (p := ⟨g, _, none⟩) gl).trans c3, (hb.cell (p := ⟨g, _, none⟩) gl).trans c4⟩
theorem cell_off {W : World} {g o k : Nat} {u v : Value} (h : W.cell? ⟨g, o, none⟩ = some u) (hb : o ≠ k) : (W.setCell ⟨g, k, none⟩ v).cell? ⟨g, o, none⟩ = some u :=
  (World.cell?_setCell_other _ _ _ _ (fun e => hb (congrArg Addr.off e).symm)).trans h
theorem Bc.set0 {w W : World} {g n a o : Nat} {F T L : Nat → Nat} (h : Bc w W g n F T L) (ha : a < n) (ho : o = a * 5) (x : Nat) : Bc w (W.setCell ⟨g, o, none⟩ (.int .i64 (x : Int))) g n (upd F a x) T L := by
  subst ho
  obtain ⟨low, gb, gl, fz, c⟩ := h
  refine ⟨low.setCell (p := ⟨g, _, none⟩) gb _, gb, by simpa [World.setCell] using gl, fun j => (World.frozen?_setCell ..).trans (fz j), fun k hk => ?_⟩
  obtain ⟨c0, c1, c2, c3, c4⟩ := c k hk
  refine ⟨?_, cell_off c1 (by omega), cell_off c2 (by omega), cell_off c3 (by omega), cell_off c4 (by omega)⟩
  by_cases e : k = a
  · subst e; rw [upd_same]; exact World.cell?_setCell_same _ _ _ c0
  · rw [upd_other _ _ e]; exact cell_off c0 (by omega)
theorem Bc.set1 {w W : World} {g n a o : Nat} {F T L : Nat → Nat} (h : Bc w W g n F T L) (ha : a < n) (ho : o = a * 5 + 1) (x : Nat) : Bc w (W.setCell ⟨g, o, none⟩ (.int .i64 (x : Int))) g n F (upd T a x) L := by
  subst ho
  obtain ⟨low, gb, gl, fz, c⟩ := h
  refine ⟨low.setCell (p := ⟨g, _, none⟩) gb _, gb, by simpa [World.setCell] using gl, fun j => (World.frozen?_setCell ..).trans (fz j), fun k hk => ?_⟩
  obtain ⟨c0, c1, c2, c3, c4⟩ := c k hk
  refine ⟨cell_off c0 (by omega), ?_, cell_off c2 (by omega), cell_off c3 (by omega), cell_off c4 (by omega)⟩
  by_cases e : k = a
  · subst e; rw [upd_same]; exact World.cell?_setCell_same _ _ _ c1
  · rw [upd_other _ _ e]; exact cell_off c1 (by omega)
theorem Bc.set2 {w W : World} {g n a o : Nat} {F T L : Nat → Nat} (h : Bc w W g n F T L) (ha : a < n) (ho : o = a * 5 + 2) (x : Nat) : Bc w (W.setCell ⟨g, o, none⟩ (.int .i64 (x : Int))) g n F T (upd L a x) := by
  subst ho
  obtain ⟨low, gb, gl, fz, c⟩ := h
  refine ⟨low.setCell (p := ⟨g, _, none⟩) gb _, gb, by simpa [World.setCell] using gl, fun j => (World.frozen?_setCell ..).trans (fz j), fun k hk => ?_⟩
  obtain ⟨c0, c1, c2, c3, c4⟩ := c k hk
  refine ⟨cell_off c0 (by omega), cell_off c1 (by omega), ?_, cell_off c3 (by omega), cell_off c4 (by omega)⟩
  by_cases e : k = a
  · subst e; rw [upd_same]; exact World.cell?_setCell_same _ _ _ c2
  · rw [upd_other _ _ e]; exact cell_off c2 (by omega)
def zB : Array Value := #[.int .i64 0, .int .i64 0, .int .i64 0, .slice none 0 0, .slice none 0 0]
def mkB (n : Nat) : Array Value := madeCells zB (n * 5)
theorem mkB_get {n k d : Nat} (hk : k < n) (hd : d < 5) : (mkB n)[k * 5 + d]? = zB[d]? := by
  have h1 : k * 5 + d < n * 5 := by omega
  have h2 : (k * 5 + d) % 5 = d := by omega
  have h3 : zB.size = 5 := rfl
  simp only [mkB, madeCells, Array.getElem?_map, Array.getElem?_range, h1, h3]
  simp [h2, h3, hd]
theorem run_make_blk (n : Nat) (hn : n ≤ 8192) (W : World) : (Instr.makeSlice 23 (.int .i64 (n : Int)) (.int .i64 (n : Int))).run Try.prog W = .ok (.slice (some ⟨W.heap.size, 0, none⟩) n n) (W.alloc (.cells (mkB n) 37)) := by
  obtain ⟨i, hi, hz, hs, hb⟩ := info_parts infoBlk
  have h := run_make (P := Try.prog) W 23 37 i _ Try.underlying23 hi hz .i64 .i64 n n (by omega) (Int.le_refl _) (by rw [hb]; omega) (by omega)
  simp only [Int.toNat_natCast, hs] at h
  exact h
theorem Bc.start (w : World) (n : Nat) : Bc w (w.alloc (.cells (mkB n) 37)) w.heap.size n (fun _ => 0) (fun _ => 0) (fun _ => 0) :=
  ⟨(Below.refl _ _).alloc (Nat.le_refl _) _, Nat.le_refl _, by simp, fun j => World.frozen?_alloc_new _ _ _ j, fun k hk =>
    ⟨cell_new w (mkB_get (d := 0) hk (by omega)), cell_new w (mkB_get (d := 1) hk (by omega)), cell_new w (mkB_get (d := 2) hk (by omega)), cell_new w (mkB_get (d := 3) hk (by omega)), cell_new w (mkB_get (d := 4) hk (by omega))⟩⟩
theorem Bc.done {w W : World} {g : Nat} {G : Fg} (hG : G.Ok) {F T L : Nat → Nat} (h : Bc w W g G.n F T L) (hc : Ct G G.reach.length F T L) : Bm w W g G.n G (fun _ => none) (fun _ => 0) (G.row 0 0) := by
  rw [Fl.Fg.row_start]
  refine ⟨h.low, h.gb, h.gl, h.fz, fun k hk => ?_, fun r hr => ?_, fun r hr => World.ownsRow_nil _ _ _ _, fun r hr => by simp, fun r s hr hs _ b hb2 => by simp at hb2⟩
  · obtain ⟨c0, c1, c2, _⟩ := h.c k hk
    obtain ⟨e0, e1, e2⟩ := hc.done hG hk
    rw [e0] at c0; rw [e1] at c1; rw [e2] at c2
    exact ⟨c0, c1, c2⟩
  · obtain ⟨_, _, _, c3, c4⟩ := h.c (r / 2) (by omega)
    rcases Nat.mod_two_eq_zero_or_one r with e | e
    · rw [e]; exact c3
    · rw [e]; exact c4
set_option maxRecDepth 100000 in
set_option maxHeartbeats 2000000 in
theorem cut_any (q : Option Addr) (qc : Nat) (l : List In) (p : Option Addr) (pc b nn : Nat) (f : Int → Option Int) (w : World) (h : InsAt w q l) (hc : (checkS l).2 = 0) (hr : NumsAt .i64 w p (reachI l)) (hm : Mp w b nn f) (hp : Lp (gOf l) (gOf l).n f) :
    Calls Try.prog 21 #[.slice q l.length qc, .slice p (reachI l).length pc, .map (some b)] w fun e w' => ∃ g, e = .returned (.slice (some ⟨g, 0, none⟩) (gOf l).n (gOf l).n) ∧ Bm w w' g (gOf l).n (gOf l) (fun _ => none) (fun _ => 0) ((gOf l).row 0 0) := by
  have HG := Lib.hid (check_flow hc)
  have hN := (check_ok hc).1
  have HR := Lib.hid (fun W (hW : Below w.heap.size w W) => hr.below hW)
  have HMP := Lib.hid (fun W (hW : Below w.heap.size w W) => hm.next hW)
  have HBE := Lib.hid (fun (i : Nat) (hi : (gOf l).R i) (W : World) (hb : Below w.heap.size w W) => behind_any q qc l i W (h.below hb) hc hi)
  have hrn : (reachI l).length = (gOf l).reach.length := by rw [reachI_ok hc]; simp
  have HRA : Hid (∀ k, k < (gOf l).reach.length → (reachI l).getD k 0 = (((gOf l).reach.getD k 0 : Nat) : Int)) := Lib.hid (fun k hk => by
    rw [reachI_ok hc, List.getD_eq_getElem?_getD, List.getElem?_map, List.getD_eq_getElem?_getD, List.getElem?_eq_getElem hk]; rfl)
  have HRR : Hid (∀ k, k < (gOf l).reach.length → (gOf l).R ((gOf l).reach.getD k 0)) := Lib.hid (fun k hk => (Fl.Fg.mem_reach HG.out).1 (Fl.getD_mem hk))
  have HST := Lib.hid (fun k F T L (h : Ct (gOf l) k F T L) hk => h.step HG.out hk rfl rfl)
  have HPR := Lib.hid (fun k hk hl => Fl.Fg.fd_prev (G := gOf l) HG.out (k := k) hk hl)
  have HZE := Lib.hid (Fl.Fg.reach_zero HG.out)
  have HDN := Lib.hid (fun g W F T L (h : Bc w W g (gOf l).n F T L) (hc : Ct (gOf l) (gOf l).reach.length F T L) => h.done HG.out hc)
  have HLE := Lib.hid (fun s hs hl => hp.lead HG.out (s := s) hs hl)
  have HNO := Lib.hid (fun s hl => hp.none HG.out (s := s) hl)
  have HFD := Lib.hid (fun r (h : (gOf l).R r) => (Fl.Fg.fd_in HG.out h).1)
  have HLS := Lib.hid (ls_lt (gOf l))
  have HKE := Lib.hid hp.key
  have hll : ((gOf l).ls.map Int.ofNat).length = (gOf l).n := by rw [List.length_map]; rfl
  have hs := hr.small
  obtain ⟨N, hNl⟩ : ∃ N, l.length = N := ⟨_, rfl⟩
  have HNL := Lib.hid hNl
  obtain ⟨M, hM⟩ : ∃ M, (gOf l).reach.length = M := ⟨_, rfl⟩
  have hMN : M ≤ 4096 := by
    have h2 : (gOf l).reach.length ≤ (List.range (gOf l).N).length := List.length_filter_le _ _
    have h3 : (gOf l).N ≤ 4096 := hN
    rw [List.length_range] at h2
    omega
  have hn : (gOf l).n ≤ 4096 := by
    have h2 : (gOf l).ls.length ≤ (gOf l).reach.length := List.length_filter_le _ _
    have : (gOf l).ls.length = (gOf l).n := rfl
    omega
  obtain ⟨n, hnn⟩ : ∃ n, (gOf l).n = n := ⟨_, rfl⟩
  rw [hM] at hrn HRA HRR HST HPR HDN
  rw [hnn] at HFD hll hn HDN
  have HRN := Lib.hid hrn
  have HNN := Lib.hid hnn
  have HLL := Lib.hid hll
  rw [hrn] at hs ⊢
  rw [hNl] at hN HBE ⊢
  generalize (gOf l).ls.map Int.ofNat = ks at *
  have hmk := run_make_blk n (by omega)
  clear h hc hNl hM hrn hr hm hp hnn hll
  rw [HNN.out]
  have hlen := fun ty => (HMP.out _ (Below.refl _ w)).size (nodup_lt HLS.out) HKE.out ty
  rw [HLL.out] at hlen
  go_enter Try.func21, Try.ntmps21
  go_wp2_with fail
  clear hmk hlen
  go_loopw [8, 18] (fun o v wr => ∃ (k a : Nat) (F T L : Nat → Nat), k ≤ M ∧ v = .int .i64 (k : Int) ∧ o = .int .i64 (a : Int) ∧ Hid (∀ j, k = j + 1 → a = (gOf l).fd ((gOf l).reach.getD j 0)) ∧ Hid (Ct (gOf l) k F T L) ∧ Bc w wr w.heap.size n F T L) (fun _ v _ => M - (RowKit.intOf v).toNat)
  case atStart => exact ⟨0, 0, _, _, _, Nat.zero_le _, rfl, rfl, Lib.hid (fun j hj => by omega), Lib.hid (Ct.start _ _ _ _), Bc.start w n⟩
  case round =>
    obtain ⟨k, a, F, T, L, hk, rfl, rfl, HA, HCT, hb⟩ := hrel
    have HB := Lib.hid hb
    by_cases hlt : k < M
    · obtain ⟨b1, o1, rfl, hl1, c0⟩ := (HR.out _ hb.low).cells k (by rw [HRN.out]; exact hlt)
      rw [HRA.out k hlt] at c0
      have hRi := HRR.out k hlt
      have hiN : (gOf l).reach.getD k 0 < N := by have := (hRi.ok HG.out).1; rw [← HNL.out]; exact this
      have HS2 := Lib.hid (HST.out k F T L HCT.out hlt)
      have hfd := HFD.out _ hRi
      have hleT := fun hl => HLE.out _ hRi hl
      have hnoT := fun hl => HNO.out ((gOf l).reach.getD k 0) hl
      have hprev : (gOf l).lead ((gOf l).reach.getD k 0) = false → a = (gOf l).fd ((gOf l).reach.getD k 0) := fun hl => by
        cases k with
        | zero => rw [HZE.out] at hl; cases hl
        | succ j => rw [HPR.out j hlt hl]; exact HA.out j rfl
      have HAN : Hid (∀ j, k + 1 = j + 1 → (gOf l).fd ((gOf l).reach.getD k 0) = (gOf l).fd ((gOf l).reach.getD j 0)) := Lib.hid (fun j hj => by rw [show k = j by omega])
      have HBE2 := Lib.hid (HBE.out _ hRi)
      generalize hrr : (gOf l).reach.getD k 0 = r at *
      have hlt1 := (HB.out.c)
      generalize htt : (gOf l).fd r = t at *
      have hgl := hb.gl
      obtain ⟨NX, hNX⟩ : ∃ x, nxI (l.getD r z) r = x := ⟨_, rfl⟩
      have hnx : (gOf l).nx r = NX := hNX
      rw [hNX] at HBE2
      rw [hnx] at HS2
      clear hb hRi hlt1 HST hNX hnx
      cases hv : (gOf l).lead r with
      | true =>
        rw [hv, if_pos rfl] at HS2
        have HF := Lib.hid (hleT hv)
        obtain ⟨c1, c2, c3, c4, c5⟩ := HB.out.c t hfd
        have f0 := HB.out.fz
        have HB1 := Lib.hid (HB.out.set0 hfd (o := t * 5) rfl r)
        have HB2 := Lib.hid (HB1.out.set2 hfd (o := t * 5 + 2) rfl r)
        have HB3 := Lib.hid (HB2.out.set1 hfd (o := t * 5 + 1) rfl NX)
        clear hleT hnoT hprev hv
        go_wp2_with (first
          | (at_lookup; refine wpList_mp_look_ok rfl (.tmp 23) (.tmp 24) rfl b nn f (r : Int) (t : Int) rfl rfl (HMP.out _ HB.out.low) (lit_wf (by omega) (by omega)) HF.out ?_)
          | (go_at_call 39; (with_reducible refine (HBE2.out _ HB2.out.low).mono ?_); rintro e w4 ⟨rfl, rfl⟩))
        go_roundw
        case rel => exact ⟨k + 1, t, _, _, _, by omega, rfl, rfl, HAN, HS2, HB3.out⟩
        case measure => simp [RowKit.intOf]; omega
      | false =>
        rw [hv, if_neg (by simp)] at HS2
        have HF := Lib.hid (hnoT hv)
        have hat := hprev hv
        subst hat
        obtain ⟨c1, c2, c3, c4, c5⟩ := HB.out.c a hfd
        have f0 := HB.out.fz
        have HB2 := Lib.hid (HB.out.set2 hfd (o := a * 5 + 2) rfl r)
        have HB3 := Lib.hid (HB2.out.set1 hfd (o := a * 5 + 1) rfl NX)
        clear hleT hnoT hprev hv
        go_wp2_with (first
          | (at_lookup; refine wpList_mp_look_no rfl (.tmp 23) (.tmp 24) rfl b nn f (r : Int) rfl rfl (HMP.out _ HB.out.low) (lit_wf (by omega) (by omega)) HF.out ?_; intro c9)
          | (go_at_call 39; (with_reducible refine (HBE2.out _ HB2.out.low).mono ?_); rintro e w4 ⟨rfl, rfl⟩))
        go_roundw
        case rel => exact ⟨k + 1, a, _, _, _, by omega, rfl, rfl, HAN, HS2, HB3.out⟩
        case measure => simp [RowKit.intOf]; omega
    · obtain rfl : M = k := by omega
      have HD := Lib.hid (HDN.out _ _ F T L hb HCT.out)
      clear hb
      go_wp2_with fail
      go_ret
      exact ⟨w.heap.size, rfl, HD.out⟩
end Go.Proofs.Ytlpijnnlmgoihaa
