/- Contracts of the document's own answer: Table, Spans, Kinds. -/
import Derived.Test.YthckkdkijajadaaDoorYQ

/- Contracts of the document's own answer: Table, Spans, Kinds. -/
namespace Go.Proofs.YthckkdkijajadaaDoor
open Go.RowKit M

theorem tab_new {w : World} {n : Int} {W : World} {ks : List Int} (hk : kinds n = ks) (h3 : ks.length ≤ 3) (hW : Below w.heap.size w W) (hz : W.heap.size = w.heap.size + 1) (t : TypeId) :
    Below w.heap.size w (W.alloc (.cells (intsV ks).toArray t)) ∧ KindsAt (W.alloc (.cells (intsV ks).toArray t)) (some ⟨w.heap.size + 1, 0, none⟩) (kinds n) := by
  rw [hk]
  refine ⟨hW.alloc hW.size _, h3, fun j hj => ⟨_, _, rfl, by simp [hz], ?_⟩⟩
  have := cell_new W (cs := (intsV ks).toArray) (t := t) (fr := (0, 0)) (i := j) (v := .int .i64 (ks.getD j 0)) (by simp [intsV, hj])
  rw [hz] at this
  rw [Nat.zero_add]; exact this
set_option maxRecDepth 100000 in
set_option maxHeartbeats 1000000 in
theorem rtable_1 (w : World) : Calls Tryd.prog 12 #[.int .i64 1] w (TabPost 1 w) := by
  go_enter Tryd.func12, Tryd.ntmps12
  go_wp2
  refine bodyPost_ret (v := .tuple #[.agg #[.string ⟨#[110, 111, 119]⟩, .slice none 0 0, .int .i64 0], .bool true]) (by simp [results, Tryd.results12, go_sem]) rfl ⟨none, 0, rfl, (Below.refl _ _).alloc (Nat.le_refl _) _, KindsAt.nil _ _⟩
set_option maxRecDepth 100000 in
set_option maxHeartbeats 1000000 in
theorem rtable_2 (w : World) : Calls Tryd.prog 12 #[.int .i64 2] w (TabPost 2 w) := by
  go_enter Tryd.func12, Tryd.ntmps12
  go_wp2
  obtain ⟨h1, h2⟩ := tab_new (w := w) (n := 2) (ks := [1]) (by decide) (by decide) ((Below.refl w.heap.size w).alloc (Nat.le_refl _) (.cells #[.string ⟨#[112, 117, 116]⟩, .slice (some ⟨w.heap.size + 1, 0, none⟩) 1 1, .int .i64 0] 43)) (by simp) 69
  refine bodyPost_ret (v := .tuple #[.agg #[.string ⟨#[112, 117, 116]⟩, .slice (some ⟨w.heap.size + 1, 0, none⟩) 1 1, .int .i64 0], .bool true]) (by simp [results, Tryd.results12, go_sem]) rfl ⟨some ⟨w.heap.size + 1, 0, none⟩, 1, rfl, h1, h2⟩
set_option maxRecDepth 100000 in
set_option maxHeartbeats 1000000 in
theorem rtable_3 (w : World) : Calls Tryd.prog 12 #[.int .i64 3] w (TabPost 3 w) := by
  go_enter Tryd.func12, Tryd.ntmps12
  go_wp2
  obtain ⟨h1, h2⟩ := tab_new (w := w) (n := 3) (ks := [2, 4]) (by decide) (by decide) ((Below.refl w.heap.size w).alloc (Nat.le_refl _) (.cells #[.string ⟨#[115, 101, 110, 100]⟩, .slice (some ⟨w.heap.size + 1, 0, none⟩) 2 2, .int .i64 64] 43)) (by simp) 69
  refine bodyPost_ret (v := .tuple #[.agg #[.string ⟨#[115, 101, 110, 100]⟩, .slice (some ⟨w.heap.size + 1, 0, none⟩) 2 2, .int .i64 64], .bool true]) (by simp [results, Tryd.results12, go_sem]) rfl ⟨some ⟨w.heap.size + 1, 0, none⟩, 2, rfl, h1, h2⟩
set_option maxRecDepth 100000 in
set_option maxHeartbeats 1000000 in
theorem rtable_4 (w : World) : Calls Tryd.prog 12 #[.int .i64 4] w (TabPost 4 w) := by
  go_enter Tryd.func12, Tryd.ntmps12
  go_wp2
  obtain ⟨h1, h2⟩ := tab_new (w := w) (n := 4) (ks := [3, 4]) (by decide) (by decide) ((Below.refl w.heap.size w).alloc (Nat.le_refl _) (.cells #[.string ⟨#[114, 101, 99, 118]⟩, .slice (some ⟨w.heap.size + 1, 0, none⟩) 2 2, .int .i64 64] 43)) (by simp) 69
  refine bodyPost_ret (v := .tuple #[.agg #[.string ⟨#[114, 101, 99, 118]⟩, .slice (some ⟨w.heap.size + 1, 0, none⟩) 2 2, .int .i64 64], .bool true]) (by simp [results, Tryd.results12, go_sem]) rfl ⟨some ⟨w.heap.size + 1, 0, none⟩, 2, rfl, h1, h2⟩
set_option maxRecDepth 100000 in
set_option maxHeartbeats 1000000 in
theorem rtable_5 (w : World) : Calls Tryd.prog 12 #[.int .i64 5] w (TabPost 5 w) := by
  go_enter Tryd.func12, Tryd.ntmps12
  go_wp2
  obtain ⟨h1, h2⟩ := tab_new (w := w) (n := 5) (ks := [1, 1, 1]) (by decide) (by decide) ((Below.refl w.heap.size w).alloc (Nat.le_refl _) (.cells #[.string ⟨#[109, 105, 120]⟩, .slice (some ⟨w.heap.size + 1, 0, none⟩) 3 3, .int .i64 0] 43)) (by simp) 69
  refine bodyPost_ret (v := .tuple #[.agg #[.string ⟨#[109, 105, 120]⟩, .slice (some ⟨w.heap.size + 1, 0, none⟩) 3 3, .int .i64 0], .bool true]) (by simp [results, Tryd.results12, go_sem]) rfl ⟨some ⟨w.heap.size + 1, 0, none⟩, 3, rfl, h1, h2⟩
set_option maxRecDepth 100000 in
set_option maxHeartbeats 1000000 in
theorem rtable_no (n : Int) (w : World) (hh : isH n = false) : Calls Tryd.prog 12 #[.int .i64 n] w (TabPost n w) := by
  have h15 : ¬ (1 ≤ n ∧ n ≤ 5) := by simpa [isH] using hh
  have e1 : (n == 1) = false := by simp; omega
  have e2 : (n == 2) = false := by simp; omega
  have e3 : (n == 3) = false := by simp; omega
  have e4 : (n == 4) = false := by simp; omega
  have e5 : (n == 5) = false := by simp; omega
  go_enter Tryd.func12, Tryd.ntmps12
  go_wp2
  have n1 : n ≠ 1 := by omega
  have n2 : n ≠ 2 := by omega
  have n3 : n ≠ 3 := by omega
  have n4 : n ≠ 4 := by omega
  have n5 : n ≠ 5 := by omega
  have en : nmB n = ⟨#[]⟩ := by simp [nmB, n1, n2, n3, n4, n5]
  have ek : kinds n = [] := by simp [kinds, cnt, n2, n3, n4, n5]
  have em : most n = 0 := by simp [most, n3, n4]
  refine bodyPost_ret (v := .tuple #[.agg #[.string ⟨#[]⟩, .slice none 0 0, .int .i64 0], .bool false]) (by simp [results, Tryd.results12, go_sem]) rfl ⟨none, 0, by rw [en, ek, em, hh]; rfl, (Below.refl _ _).alloc (Nat.le_refl _) _, by rw [ek]; exact KindsAt.nil _ _⟩
theorem rtable_any (n : Int) (w : World) : Calls Tryd.prog 12 #[.int .i64 n] w (TabPost n w) := by
  cases hh : isH n
  · exact rtable_no n w hh
  · rcases isH_cases hh with rfl | rfl | rfl | rfl | rfl
    · exact rtable_1 w
    · exact rtable_2 w
    · exact rtable_3 w
    · exact rtable_4 w
    · exact rtable_5 w
set_option maxRecDepth 100000 in
set_option maxHeartbeats 1000000 in
theorem rkinds_any (q1 q2 : Option Addr) (c1 c2 : Nat) (ks : List Int) (w : World) (h1 : KindsAt w q1 ks) (h2 : KindsAt w q2 ks) :
    Calls Tryd.prog 15 #[.slice q1 ks.length c1, .slice q2 ks.length c2] w fun e w' => e = .returned (.bool true) ∧ Below w.heap.size w w' := by
  have H1 := Lib.hid h1
  have H2 := Lib.hid h2
  have hs := h1.small
  obtain ⟨K, hK⟩ : ∃ K, ks.length = K := ⟨_, rfl⟩
  have HK := Lib.hid hK
  rw [hK] at hs ⊢
  have t0 : ((K : Int) != K) = false := by simp
  clear h1 h2 hK
  go_enter Tryd.func15, Tryd.ntmps15
  go_wp2
  go_loopw [5] (fun i wr => ∃ k : Nat, k ≤ K ∧ i = .int .i64 k ∧ Hid (Below w.heap.size w wr)) (fun i _ => K - (intOf i).toNat)
  case atStart => exact ⟨0, Nat.zero_le _, rfl, Below.refl _ _⟩
  case round =>
    obtain ⟨k, hk, rfl, HB⟩ := hrel
    by_cases hlt : k < K
    · obtain ⟨b1, o1, rfl, _, g1⟩ := (H1.out.below HB.out).cells k (by rw [HK.out]; exact hlt)
      obtain ⟨b2, o2, rfl, _, g2⟩ := (H2.out.below HB.out).cells k (by rw [HK.out]; exact hlt)
      generalize ks.getD k 0 = x at g1 g2
      have tx : (x != x) = false := by simp
      go_wp2_with fail
      go_quiet (fail)
      go_wp2
      go_roundw
      case rel => exact ⟨k + 1, by omega, by go_num, below_drewN HB.out _⟩
      case measure => simp [intOf]; omega
    · go_wp2
      go_ret
      exact ⟨rfl, HB.out⟩
end Go.Proofs.YthckkdkijajadaaDoor

/- Contract of the document's own answer: Spans. -/
namespace Go.Proofs.YthckkdkijajadaaDoor
open Go.RowKit M

set_option maxRecDepth 100000 in
set_option maxHeartbeats 1000000 in
theorem rspans_bad (n : Int) (q : Option Addr) (al cc : Nat) (w : World) (_ : al ≤ 17592186044154) (h : isH n = false ∨ al < cnt n) :
    Calls Tryd.prog 14 #[.int .i64 n, .slice q al cc] w fun e w' => e = .returned (.tuple #[.agg #[.int .u64 0, .int .i64 0], .agg #[.int .u64 0, .int .i64 0], .bool false]) ∧ Below w.heap.size w w' := by
  have HT := Lib.hid (fun W => rtable_any n W)
  unfold TabPost at HT
  rw [kinds_length] at HT
  generalize nmB n = nm at HT
  generalize most n = m at HT
  cases hh : isH n
  · rw [hh] at HT
    clear h hh
    generalize cnt n = C at HT
    go_enter Tryd.func14, Tryd.ntmps14
    go_wp2_with (go_at_call 12; refine (HT.out _).mono ?_; rintro e w1 ⟨kp, kc, rfl, hb, _⟩; obtain ⟨hc, hf⟩ := bcell hb; obtain ⟨z1, z2⟩ := two_in hb)
    obtain ⟨y0, y1, y2, y3⟩ := sp_cells hb
    refine bodyPost_ret (v := .tuple #[.agg #[.int .u64 0, .int .i64 0], .agg #[.int .u64 0, .int .i64 0], .bool false]) (by simp [results, Tryd.results14, go_sem, y0, y1, y2, y3, z1, z2]) rfl ⟨rfl, ?_⟩
    exact below_one (below_set2 (below_set2 (below2 hb) (Nat.le_refl _) _ _) (Nat.le_succ _) _ _) _
  · rw [hh] at HT
    have hl : al < cnt n := by
      rcases h with h | h
      · rw [hh] at h; cases h
      · exact h
    clear h hh
    generalize cnt n = C at HT hl
    have hlt : (al : Int) < C := by omega
    go_enter Tryd.func14, Tryd.ntmps14
    go_wp2_with (go_at_call 12; refine (HT.out _).mono ?_; rintro e w1 ⟨kp, kc, rfl, hb, _⟩; obtain ⟨hc, hf⟩ := bcell hb; obtain ⟨z1, z2⟩ := two_in hb)
    obtain ⟨y0, y1, y2, y3⟩ := sp_cells hb
    refine bodyPost_ret (v := .tuple #[.agg #[.int .u64 0, .int .i64 0], .agg #[.int .u64 0, .int .i64 0], .bool false]) (by simp [results, Tryd.results14, go_sem, y0, y1, y2, y3, z1, z2]) rfl ⟨rfl, ?_⟩
    exact below_one (below_set2 (below_set2 (below2 hb) (Nat.le_refl _) _ _) (Nat.le_succ _) _ _) _
set_option maxRecDepth 100000 in
set_option maxHeartbeats 1000000 in
theorem rspans_other (n : Int) (q : Option Addr) (al cc : Nat) (w : World) (_ : al ≤ 17592186044154) (hh : isH n = true) (hl : cnt n ≤ al) (h3 : n ≠ 3) (h4 : n ≠ 4) :
    Calls Tryd.prog 14 #[.int .i64 n, .slice q al cc] w fun e w' => e = .returned (.tuple #[.agg #[.int .u64 0, .int .i64 0], .agg #[.int .u64 0, .int .i64 0], .bool true]) ∧ Below w.heap.size w w' := by
  have HT := Lib.hid (fun W => rtable_any n W)
  unfold TabPost at HT
  rw [kinds_length, hh] at HT
  generalize nmB n = nm at HT
  generalize most n = m at HT
  generalize cnt n = C at HT hl
  have hlt : ¬ (al : Int) < C := by omega
  have e3 : (n == 3) = false := by simp [h3]
  have e4 : (n == 4) = false := by simp [h4]
  clear hh
  go_enter Tryd.func14, Tryd.ntmps14
  go_wp2_with (go_at_call 12; refine (HT.out _).mono ?_; rintro e w1 ⟨kp, kc, rfl, hb, _⟩; obtain ⟨hc, hf⟩ := bcell hb; obtain ⟨z1, z2⟩ := two_in hb)
  obtain ⟨y0, y1, y2, y3⟩ := sp_cells hb
  refine bodyPost_ret (v := .tuple #[.agg #[.int .u64 0, .int .i64 0], .agg #[.int .u64 0, .int .i64 0], .bool true]) (by simp [results, Tryd.results14, go_sem, y0, y1, y2, y3, z1, z2]) rfl ⟨rfl, ?_⟩
  exact below_one (below_set2 (below_set2 (below2 hb) (Nat.le_refl _) _ _) (Nat.le_succ _) _ _) _
set_option maxRecDepth 100000 in
set_option maxHeartbeats 2000000 in
theorem rspans_3 (b o al cc : Nat) (x0 x1 : Int) (w : World) (hb0 : b < w.heap.size) (hal : al ≤ 17592186044154) (hl : 2 ≤ al) (c0 : w.cell? ⟨b, o, none⟩ = some (.int .u64 x0)) (c1 : w.cell? ⟨b, o + 1, none⟩ = some (.int .u64 x1)) (hx : 0 ≤ x1) :
    Calls Tryd.prog 14 #[.int .i64 3, .slice (some ⟨b, o, none⟩) al cc] w fun e w' => e = .returned (.tuple #[.agg #[.int .u64 x0, .int .i64 (szC x1)], .agg #[.int .u64 0, .int .i64 0], .bool true]) ∧ Below w.heap.size w w' := by
  have HT := Lib.hid (fun W => rtable_any 3 W)
  unfold TabPost at HT
  rw [kinds_length] at HT
  rw [show isH 3 = true from rfl, show cnt 3 = 2 from rfl] at HT
  have HSZ := Lib.hid (fun W => rsize05_any x1 W hx)
  have HC := Lib.hid (And.intro c0 c1)
  generalize nmB 3 = nm at HT
  generalize most 3 = m at HT
  generalize szC x1 = sz at *
  have hlt : ¬ (al : Int) < 2 := by omega
  have i0 : (0 : Int) < (al : Int) := by omega
  have i1 : (1 : Int) < (al : Int) := by omega
  have i0' : 0 < al := by omega
  have i1' : 1 < al := by omega
  have hnb : w.heap.size ≠ b := Nat.ne_of_gt hb0
  have hnb1 : w.heap.size + 1 ≠ b := by omega
  clear c0 c1
  go_enter Tryd.func14, Tryd.ntmps14
  go_wp2_with (go_at_call 12; refine (HT.out _).mono ?_; rintro e w1 ⟨kp, kc, rfl, hb, _⟩; have HW1 := Lib.hid (SpW.first (cs := [.string nm, .slice kp 2 kc, .int .i64 m]) (t3 := 43) hb); have k0 := HW1.out.call 0 _ rfl; have k1 := HW1.out.call 1 _ rfl; have k2 := HW1.out.call 2 _ rfl)
  have d0 := (HW1.out.below.cell (p := ⟨b, o, none⟩) hb0).trans HC.out.1
  have d1 := (HW1.out.below.cell (p := ⟨b, o + 1, none⟩) hb0).trans HC.out.2
  have r0 := HW1.out.r0 0 _ rfl
  have r1 := HW1.out.r0 1 _ rfl
  have t0 := HW1.out.r1 0 _ rfl
  have t1 := HW1.out.r1 1 _ rfl
  have fz0 := HW1.out.f0
  have fz1 := HW1.out.f1
  generalize w1.alloc (.cells #[.string nm, .slice kp 2 kc, .int .i64 m] 43) = W at *
  have e0 := set2_other hnb d0 (.int .u64 x0) (.int .i64 sz)
  have e1 := set2_other hnb d1 (.int .u64 x0) (.int .i64 sz)
  have K6 := And.intro e0 e1
  have K7 := And.intro (set2_other hnb1 e0 (.int .u64 0) (.int .i64 0)) (set2_other hnb1 e1 (.int .u64 0) (.int .i64 0))
  clear e0 e1
  go_region_held3 (fun W => W.cell? ⟨b, o, none⟩ = some (.int .u64 x0) ∧ W.cell? ⟨b, o + 1, none⟩ = some (.int .u64 x1)) (first | go_keep | with_reducible exact K6 | with_reducible exact K7)
    (first | (go_at_call 36; refine (HSZ.out _).mono ?_; rintro e w3 ⟨rfl, rfl⟩))
  go_wp2_with fail
  refine bodyPost_ret (v := .tuple #[.agg #[.int .u64 x0, .int .i64 sz], .agg #[.int .u64 0, .int .i64 0], .bool true]) (by simp [results, Tryd.results14, go_sem, r0, r1, t0, t1]) rfl ⟨rfl, ?_⟩
  exact (below_set2 (below_set2 HW1.out.below (Nat.le_refl _) _ _) (Nat.le_succ _) _ _).drew
set_option maxRecDepth 100000 in
set_option maxHeartbeats 2000000 in
theorem rspans_4 (b o al cc : Nat) (x0 x1 : Int) (w : World) (hb0 : b < w.heap.size) (hal : al ≤ 17592186044154) (hl : 2 ≤ al) (c0 : w.cell? ⟨b, o, none⟩ = some (.int .u64 x0)) (c1 : w.cell? ⟨b, o + 1, none⟩ = some (.int .u64 x1)) (hx : 0 ≤ x1) :
    Calls Tryd.prog 14 #[.int .i64 4, .slice (some ⟨b, o, none⟩) al cc] w fun e w' => e = .returned (.tuple #[.agg #[.int .u64 0, .int .i64 0], .agg #[.int .u64 x0, .int .i64 (szC x1)], .bool true]) ∧ Below w.heap.size w w' := by
  have HT := Lib.hid (fun W => rtable_any 4 W)
  unfold TabPost at HT
  rw [kinds_length] at HT
  rw [show isH 4 = true from rfl, show cnt 4 = 2 from rfl] at HT
  have HSZ := Lib.hid (fun W => rsize05_any x1 W hx)
  have HC := Lib.hid (And.intro c0 c1)
  generalize nmB 4 = nm at HT
  generalize most 4 = m at HT
  generalize szC x1 = sz at *
  have hlt : ¬ (al : Int) < 2 := by omega
  have i0 : (0 : Int) < (al : Int) := by omega
  have i1 : (1 : Int) < (al : Int) := by omega
  have i0' : 0 < al := by omega
  have i1' : 1 < al := by omega
  have hnb : w.heap.size ≠ b := Nat.ne_of_gt hb0
  have hnb1 : w.heap.size + 1 ≠ b := by omega
  clear c0 c1
  go_enter Tryd.func14, Tryd.ntmps14
  go_wp2_with (go_at_call 12; refine (HT.out _).mono ?_; rintro e w1 ⟨kp, kc, rfl, hb, _⟩; have HW1 := Lib.hid (SpW.first (cs := [.string nm, .slice kp 2 kc, .int .i64 m]) (t3 := 43) hb); have k0 := HW1.out.call 0 _ rfl; have k1 := HW1.out.call 1 _ rfl; have k2 := HW1.out.call 2 _ rfl)
  have d0 := (HW1.out.below.cell (p := ⟨b, o, none⟩) hb0).trans HC.out.1
  have d1 := (HW1.out.below.cell (p := ⟨b, o + 1, none⟩) hb0).trans HC.out.2
  have r0 := HW1.out.r0 0 _ rfl
  have r1 := HW1.out.r0 1 _ rfl
  have t0 := HW1.out.r1 0 _ rfl
  have t1 := HW1.out.r1 1 _ rfl
  have fz0 := HW1.out.f0
  have fz1 := HW1.out.f1
  generalize w1.alloc (.cells #[.string nm, .slice kp 2 kc, .int .i64 m] 43) = W at *
  have e0 := set2_other hnb d0 (.int .u64 0) (.int .i64 0)
  have e1 := set2_other hnb d1 (.int .u64 0) (.int .i64 0)
  have K6 := And.intro e0 e1
  have K7 := And.intro (set2_other hnb1 e0 (.int .u64 x0) (.int .i64 sz)) (set2_other hnb1 e1 (.int .u64 x0) (.int .i64 sz))
  clear e0 e1
  go_region_held3 (fun W => W.cell? ⟨b, o, none⟩ = some (.int .u64 x0) ∧ W.cell? ⟨b, o + 1, none⟩ = some (.int .u64 x1)) (first | go_keep | with_reducible exact K6 | with_reducible exact K7)
    (first | (go_at_call 36; refine (HSZ.out _).mono ?_; rintro e w3 ⟨rfl, rfl⟩))
  go_wp2_with fail
  refine bodyPost_ret (v := .tuple #[.agg #[.int .u64 0, .int .i64 0], .agg #[.int .u64 x0, .int .i64 sz], .bool true]) (by simp [results, Tryd.results14, go_sem, r0, r1, t0, t1]) rfl ⟨rfl, ?_⟩
  exact (below_set2 (below_set2 HW1.out.below (Nat.le_refl _) _ _) (Nat.le_succ _) _ _).drew
theorem rspans_any (n : Int) (q : Option Addr) (A : List Int) (cc : Nat) (w : World) (hA : WordsAt w q A) : Calls Tryd.prog 14 #[.int .i64 n, .slice q A.length cc] w (SpPost n A w) := by
  unfold SpPost
  have hsm := hA.small
  cases hh : isH n
  · have e : spOk n A = false := by simp [spOk, hh]
    simp only [spAt, spN, e, Bool.false_eq_true, false_and, if_false]
    exact rspans_bad n q A.length cc w hsm (.inl hh)
  · by_cases hl : cnt n ≤ A.length
    · have e : spOk n A = true := by simp [spOk, hh, hl]
      simp only [spAt, spN, e, true_and]
      have two : 2 ≤ A.length → ∃ b o, q = some ⟨b, o, none⟩ ∧ b < w.heap.size ∧ w.cell? ⟨b, o, none⟩ = some (.int .u64 (A.getD 0 0)) ∧ w.cell? ⟨b, o + 1, none⟩ = some (.int .u64 (A.getD 1 0)) ∧ 0 ≤ A.getD 1 0 := fun h2 => by
        obtain ⟨b, o, rfl, hb, c0⟩ := hA.cells 0 (by omega)
        obtain ⟨_, _, e, _, c1⟩ := hA.cells 1 (by omega)
        injection e with e
        injection e with e1 e2
        subst e1 e2
        exact ⟨b, o, rfl, hb, c0, c1, (hA.bd 1 (by omega)).1⟩
      by_cases h3 : n = 3
      · subst h3
        have h2 : 2 ≤ A.length := hl
        obtain ⟨b, o, rfl, hb, c0, c1, hx⟩ := two h2
        rw [if_pos rfl, if_pos rfl, if_neg (by decide), if_neg (by decide)]
        exact rspans_3 b o A.length cc _ _ w hb hsm h2 c0 c1 hx
      · by_cases h4 : n = 4
        · subst h4
          have h2 : 2 ≤ A.length := hl
          obtain ⟨b, o, rfl, hb, c0, c1, hx⟩ := two h2
          rw [if_neg (by decide), if_neg (by decide), if_pos rfl, if_pos rfl]
          exact rspans_4 b o A.length cc _ _ w hb hsm h2 c0 c1 hx
        · rw [if_neg h3, if_neg h3, if_neg h4, if_neg h4]
          exact rspans_other n q A.length cc w hsm hh hl h3 h4
    · have e : spOk n A = false := by simp [spOk, hl]
      simp only [spAt, spN, e, Bool.false_eq_true, false_and, if_false]
      exact rspans_bad n q A.length cc w hsm (.inr (by omega))
end Go.Proofs.YthckkdkijajadaaDoor

/- Boxes and words of the document's own Do; the calls that it refuses. -/
namespace Go.Proofs.YthckkdkijajadaaDoor
open Go.RowKit M

/-- a box holds these cells -/
structure Box (W : World) (b : Nat) (cs : List Value) : Prop where
  lt : b < W.heap.size
  cell : ∀ i u, cs[i]? = some u → W.cell? ⟨b, i, none⟩ = some u
  frozen : ∀ i, W.frozen? ⟨b, i, none⟩ = false
theorem Box.next {W W' : World} {b : Nat} {cs : List Value} (h : Box W b cs) (hb : Below W.heap.size W W') : Box W' b cs :=
  ⟨Nat.lt_of_lt_of_le h.lt hb.size, fun i u hi => (hb.cell (p := ⟨b, i, none⟩) h.lt).trans (h.cell i u hi), fun i => (hb.frozen (p := ⟨b, i, none⟩) h.lt).trans (h.frozen i)⟩
theorem Box.alloc {W : World} {b : Nat} {cs : List Value} (h : Box W b cs) (o : Obj) : Box (W.alloc o) b cs := h.next ((Below.refl _ _).alloc (Nat.le_refl _) o)
theorem Box.drew {W : World} {b : Nat} {cs : List Value} (h : Box W b cs) : Box W.drew b cs := h.next (Below.refl _ _).drew
theorem Box.new (W : World) (cs : List Value) (t : TypeId) {b : Nat} (hb : W.heap.size = b) : Box (W.alloc (.cells cs.toArray t)) b cs := by
  subst hb
  exact ⟨by simp, fun i u hi => cell_new W (by simpa using hi), fun i => by rw [frozen?_alloc_cells]; simp [World.frozen?]⟩
theorem Box.setOther {W : World} {b : Nat} {cs : List Value} (h : Box W b cs) {a : Addr} (ha : a.block ≠ b) (v : Value) : Box (W.setCell a v) b cs :=
  ⟨by simpa [World.setCell] using h.lt, fun i u hi => (World.cell?_setCell_other _ _ _ _ (fun e => ha (congrArg Addr.block e))).trans (h.cell i u hi), fun i => (World.frozen?_setCell ..).trans (h.frozen i)⟩
theorem Box.set {W : World} {b : Nat} {cs : List Value} (h : Box W b cs) {i : Nat} (hi : i < cs.length) (v : Value) : Box (W.setCell ⟨b, i, none⟩ v) b (cs.set i v) := by
  refine ⟨by simpa [World.setCell] using h.lt, fun j u hj => ?_, fun j => (World.frozen?_setCell ..).trans (h.frozen j)⟩
  by_cases e : j = i
  · subst e
    have e2 : u = v := by simpa [hi] using hj.symm
    subst e2
    exact World.cell?_setCell_same _ _ _ (h.cell j _ (List.getElem?_eq_getElem hi))
  · rw [List.getElem?_set_ne (fun h => e h.symm)] at hj
    exact (World.cell?_setCell_other _ _ _ _ (fun e' => e (congrArg Addr.off e').symm)).trans (h.cell j u hj)
/-- words, bytes and a memory outlive the setting of a cell that holds something else -/
theorem WordsAt.set1 {W : World} {q : Option Addr} {xs : List Int} (h : WordsAt W q xs) {a : Addr} {y : Value} (hc : W.cell? a = some y) (hy : ∀ x, y ≠ .int .u64 x) (v : Value) : WordsAt (W.setCell a v) q xs :=
  ⟨h.small, fun j hj => by
    obtain ⟨b, off, e, hl, h1⟩ := h.cells j hj
    exact ⟨b, off, e, by simpa [World.setCell] using hl, (World.cell?_setCell_other _ _ _ _ (fun e' => by subst e'; exact hy _ (Option.some.inj (hc.symm.trans h1)))).trans h1⟩, h.bd⟩
theorem RowAt.set1 {W : World} {q : Option Addr} {xs : List Int} (h : RowAt W q xs) {a : Addr} {y : Value} (hc : W.cell? a = some y) (hy : ∀ x, y ≠ .int .u8 x) (v : Value) : RowAt (W.setCell a v) q xs :=
  ⟨h.small, fun j hj => by
    obtain ⟨b, off, e, hl, h1⟩ := h.cells j hj
    exact ⟨b, off, e, by simpa [World.setCell] using hl, (World.cell?_setCell_other _ _ _ _ (fun e' => by subst e'; exact hy _ (Option.some.inj (hc.symm.trans h1)))).trans h1⟩, h.byte⟩
theorem MemAt.set1 {W : World} {mp : Option Addr} {Q : Nat → Option Addr} {C : Nat → Nat} {M : List (List Int)} (h : MemAt W mp Q C M) {a : Addr} {y : Value} (hc : W.cell? a = some y) (hy : ∀ x, y ≠ .int .u8 x) (hn : ∀ ad, mp = some ad → ad.block ≠ a.block) (v : Value) : MemAt (W.setCell a v) mp Q C M :=
  ⟨h.small, h.rsmall, fun i hi => by
    obtain ⟨b, off, e, hl, h1, h2⟩ := h.cells i hi
    exact ⟨b, off, e, by simpa [World.setCell] using hl, (World.cell?_setCell_other _ _ _ _ (fun e' => hn _ e (congrArg Addr.block e').symm) : _ = W.cell? ⟨b, off + i, none⟩).trans h1, h2⟩,
   fun i j hi hj => by
    obtain ⟨b, off, e, hl, h1⟩ := h.rows i j hi hj
    exact ⟨b, off, e, by simpa [World.setCell] using hl, (World.cell?_setCell_other _ _ _ _ (fun e' => by subst e'; exact hy _ (Option.some.inj (hc.symm.trans h1)))).trans h1⟩, h.byte⟩
/-- a row's own words, the first of them set to nought -/
theorem WordsAt.nought {W : World} {g : Nat} {x y : Int} (h : WordsAt W (some ⟨g, 0, none⟩) [x, y]) : WordsAt (W.setCell ⟨g, 0, none⟩ (.int .u64 0)) (some ⟨g, 0, none⟩) [0, y] := by
  obtain ⟨b, off, e, hl, h0⟩ := h.cells 0 (by simp)
  obtain rfl : g = b := by injection e with e; injection e
  obtain rfl : 0 = off := by injection e with e; injection e
  obtain ⟨b, off, e, _, h1⟩ := h.cells 1 (by simp)
  obtain rfl : g = b := by injection e with e; injection e
  obtain rfl : 0 = off := by injection e with e; injection e
  refine ⟨by simp, fun j hj => ⟨g, 0, rfl, by simpa [World.setCell] using hl, ?_⟩, fun j hj => ?_⟩
  · match j, hj with
    | 0, _ => exact World.cell?_setCell_same _ _ _ h0
    | 1, _ => exact (World.cell?_setCell_other _ _ _ _ (by simp)).trans h1
  · match j, hj with
    | 0, _ => exact ⟨Int.le_refl 0, (by decide : (0 : Int) < 18446744073709551616)⟩
    | 1, _ => exact h.bd 1 (by simp)
/-- the first words of a row, appended to nothing -/
theorem run_append_none (w : World) (c : Nat) : (Builtin.append_ #[32, 32] 32 #[.slice none 0 0, .slice none 0 c]).run Tryd.prog w = .ok (.slice none 0 0) w := by
  obtain ⟨i5, h5, g5, s5, b5⟩ := info_parts info22
  simp [Builtin.append_, run_underlying Tryd.underlying32, sizeOf, typeInfo, h5, Builtin.lenOf, Builtin.firstCells]
set_option maxRecDepth 100000 in
theorem app_words {W : World} {q : Option Addr} {A : List Int} (h : WordsAt W q A) (C c : Nat) (hC : C ≤ A.length) :
    ∃ p cp W', (Builtin.append_ #[32, 32] 32 #[.slice none 0 0, .slice q C c]).run Tryd.prog W = .ok (.slice p C cp) W' ∧ Below W.heap.size W W' ∧ W'.ownsRow W.heap.size 22 1 (.slice p C cp) C (wordsV (A.take C)) := by
  have hs := h.small
  cases q with
  | none =>
    have e : A = [] := by
      cases A with
      | nil => rfl
      | cons x xs => obtain ⟨_, _, e, _⟩ := h.cells 0 (by simp); cases e
    subst e
    obtain rfl : C = 0 := by simpa using hC
    exact ⟨none, 0, W, run_append_none W c, Below.refl _ _, ⟨rfl, .inl ⟨rfl, rfl⟩⟩⟩
  | some ad =>
    obtain ⟨i5, h5, g5, s5, b5⟩ := info_parts info22
    have hl : (wordsV (A.take C)).length = C * 1 := by rw [wordsV_length]; simp; omega
    have hsrc : ∀ j u, (wordsV (A.take C))[j]? = some u → W.cell? (ad.add j) = some u := by
      intro j u hj
      have hjl : j < (wordsV (A.take C)).length := (List.getElem?_eq_some_iff.1 hj).1
      rw [hl] at hjl
      obtain ⟨b, off, e, _, hc⟩ := h.cells j (by omega)
      injection e with e
      subst e
      have ea : (⟨b, off, none⟩ : Addr).add j = ⟨b, off + j, none⟩ := by simp [Addr.add]
      rw [ea, hc]
      have : (wordsV (A.take C))[j]? = some (.int .u64 (A.getD j 0)) := by
        have h2 : j < A.length := by omega
        simp [wordsV, h2, (by omega : j < C)]
      rw [this] at hj
      exact hj
    obtain ⟨v', W', hrun, r1, r2, _⟩ := run_append_own (P := Tryd.prog) W W.heap.size 32 32 22 i5 _ 1 8 Tryd.underlying32 h5 g5 s5 b5 rfl (by decide) (.slice none 0 0) 0 [] (World.ownsRow_nil W _ _ _) ad C c (wordsV (A.take C)) hl hsrc (fun u hu => by obtain ⟨x, _, rfl⟩ := List.mem_map.1 hu; rfl) (by simp only [maxLen]; omega) (by omega) (Nat.le_refl _)
    rw [Nat.zero_add, List.nil_append] at r1
    obtain ⟨p, cp, rfl⟩ := own_slice r1
    exact ⟨p, cp, W', hrun, (Below.refl _ W).grown r2 (Nat.le_refl _) (fun k hk => by cases hk), r1⟩
end Go.Proofs.YthckkdkijajadaaDoor
