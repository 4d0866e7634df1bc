/- HelperMixes: what mix, now and put answer. -/
import Derived.Test.YthckkdkijajadaaDoorZH
namespace Go.Proofs.YthckkdkijajadaaDoor
open Go.RowKit M

def mM0 : List (List Int) := freshM (zOf 0 []) 2
theorem mF0 : freshL 0 [] 0 = mM0 := by decide +kernel
theorem mL0 : mM0.length = 2 := by decide +kernel
theorem mMay : mayB 0 [] 0 mM0 = true := by decide +kernel
theorem mK5 (a b c : Int) : doK 5 [a, b, c] 0 false [] 0 mM0 = 5 := by simp [doK, isH, cnt, mMay]
theorem mK1 : doK 1 [] 0 false [] 0 mM0 = 5 := by simp [doK, isH, cnt, mMay]
theorem mK2 (a : Int) : doK 2 [a] 0 false [] 0 mM0 = 5 := by simp [doK, isH, cnt, mMay]
theorem mV5 (a b c y : Int) : doV 5 [a, b, c] [y, 1] 5 = mixV a b c y := rfl
theorem mV1 (y : Int) : doV 1 [] [y] 5 = y := rfl
theorem mV2 (a : Int) : doV 2 [a] [] 5 = 0 := rfl
theorem mT5 (a b c : Int) : doT 5 [a, b, c] 5 = [a, b, c] := rfl
theorem mT1 : doT 1 [] 5 = [] := rfl
theorem mT2 (a : Int) : doT 2 [a] 5 = [a] := rfl
theorem words_at {W : World} {g o : Nat} {xs : List Int} (h : WordsAt W (some ⟨g, o, none⟩) xs) (j : Nat) (hj : j < xs.length) : g < W.heap.size ∧ W.cell? ⟨g, o + j, none⟩ = some (.int .u64 (xs.getD j 0)) := by
  obtain ⟨b, off, e, hl, hc⟩ := h.cells j hj
  obtain rfl : g = b := by injection e with e; injection e
  obtain rfl : o = off := by injection e with e; injection e
  exact ⟨hl, hc⟩
/-- what a fine call answers, of a memory of two regions -/
def OkPost (V H : Int) (T : List Int) (w : World) (e : Ending) (w' : World) : Prop :=
  ∃ mp mc tq tc dq dl dc, e = .returned (.tuple #[.int .u64 V, .slice mp 2 mc, .agg #[.int .i64 H, .slice tq T.length tc, .slice dq dl dc], .int .i64 0]) ∧ Below w.heap.size w w' ∧ WordsAt w' tq T
theorem mdo (s s' : Nat → Addr) {w W : World} {mp : Option Addr} {Q : Nat → Option Addr} {C : Nat → Nat} (mc : Nat) (h : LawW s' w W 0 false none 0 0 []) (hs : HSent W s) (hm : MemAt W mp Q C mM0) (n : Int) (hn : (Lit.int .i64 n).wf = true) (h4 : n ≠ 4) (q sq : Option Addr) (A S : List Int) (cc sc : Nat) (hcc : A.length ≤ cc) (hA : WordsAt W q A) (hSS : WordsAt W sq S) (hk : doK n A 0 false [] 0 mM0 = 5) :
    Calls Tryd.prog 9 #[.agg #[.int .i64 0, .bool false, .slice none 0 0], .slice mp 2 mc, .int .i64 n, .slice q A.length cc, .slice sq S.length sc] W (OkPost (doV n A S 5) n (doT n A 5) W) := by
  have := do_any s s' 0 false none 0 0 [] mp mc Q C mM0 n q A cc sq S sc W hs h.sent h.maps hm hA hcc hSS hn 5 hk
  rw [mL0] at this
  refine this.mono ?_
  rintro e w' ⟨mp2, mc2, Q2, C2, tq2, tc2, dq2, dc2, rfl, hb, _, _, hw, _⟩
  refine ⟨mp2, mc2, tq2, tc2, dq2, (doD n A 0 false [] 0 mM0 5).length, dc2, ?_, hb, hw⟩
  have e1 : doR n A S 0 false [] 0 mM0 5 = mM0 := by simp [doR, h4]
  rw [e1, mL0]
  rfl
theorem mdo5 (s s' : Nat → Addr) {w W : World} {mp : Option Addr} {Q : Nat → Option Addr} {C : Nat → Nat} (mc : Nat) (a b c y : Int) (ha : 0 ≤ a ∧ a < 18446744073709551616) (hb : 0 ≤ b ∧ b < 18446744073709551616) (hc : 0 ≤ c ∧ c < 18446744073709551616) (hy : 0 ≤ y ∧ y < 18446744073709551616) (h : LawW s' w W 0 false none 0 0 []) (hs : HSent W s) (hm : MemAt W mp Q C mM0) (g1 g2 : Nat) (h1 : Box W g1 [.int .u64 a, .int .u64 b, .int .u64 c]) (h2 : Box W g2 [.int .u64 y, .int .u64 1]) :
    Calls Tryd.prog 9 #[.agg #[.int .i64 0, .bool false, .slice none 0 0], .slice mp 2 mc, .int .i64 5, .slice (some ⟨g1, 0, none⟩) 3 3, .slice (some ⟨g2, 0, none⟩) 2 2] W (OkPost (mixV a b c y) 5 [a, b, c] W) := by
  have := mdo s s' mc h hs hm 5 (by decide) (by decide) (some ⟨g1, 0, none⟩) (some ⟨g2, 0, none⟩) [a, b, c] [y, 1] 3 2 (Nat.le_refl _) (words_cells (by simp) (bd3 ha hb hc) h1) (words_cells (by simp) (bd2 hy (by decide)) h2) (mK5 a b c)
  rw [mV5, mT5] at this
  exact this
theorem mdo1 (s s' : Nat → Addr) {w W : World} {mp : Option Addr} {Q : Nat → Option Addr} {C : Nat → Nat} (mc : Nat) (y : Int) (hy : 0 ≤ y ∧ y < 18446744073709551616) (h : LawW s' w W 0 false none 0 0 []) (hs : HSent W s) (hm : MemAt W mp Q C mM0) (g2 : Nat) (h2 : Box W g2 [.int .u64 y]) :
    Calls Tryd.prog 9 #[.agg #[.int .i64 0, .bool false, .slice none 0 0], .slice mp 2 mc, .int .i64 1, .slice none 0 0, .slice (some ⟨g2, 0, none⟩) 1 1] W (OkPost y 1 [] W) := by
  have := mdo s s' mc h hs hm 1 (by decide) (by decide) none (some ⟨g2, 0, none⟩) [] [y] 0 1 (Nat.le_refl _) (WordsAt.nil _ _) (words_cells (by simp) (bd1 hy) h2) mK1
  rw [mV1, mT1] at this
  exact this
theorem mdo2 (s s' : Nat → Addr) {w W : World} {mp : Option Addr} {Q : Nat → Option Addr} {C : Nat → Nat} (mc : Nat) (a : Int) (ha : 0 ≤ a ∧ a < 18446744073709551616) (h : LawW s' w W 0 false none 0 0 []) (hs : HSent W s) (hm : MemAt W mp Q C mM0) (g1 : Nat) (h1 : Box W g1 [.int .u64 a]) :
    Calls Tryd.prog 9 #[.agg #[.int .i64 0, .bool false, .slice none 0 0], .slice mp 2 mc, .int .i64 2, .slice (some ⟨g1, 0, none⟩) 1 1, .slice none 0 0] W (OkPost 0 2 [a] W) := by
  have := mdo s s' mc h hs hm 2 (by decide) (by decide) (some ⟨g1, 0, none⟩) none [a] [] 1 0 (Nat.le_refl _) (words_cells (by simp) (bd1 ha) h1) (WordsAt.nil _ _) (mK2 a)
  rw [mV2, mT2] at this
  exact this
set_option maxRecDepth 100000 in
set_option maxHeartbeats 8000000 in
theorem mixes_any (s s' : Nat → Addr) (a b c y : Int) (w : World) (hs : HSent w s) (hS : Sent w s') (ha : 0 ≤ a ∧ a < 18446744073709551616) (hb : 0 ≤ b ∧ b < 18446744073709551616) (hc : 0 ≤ c ∧ c < 18446744073709551616) (hy : 0 ≤ y ∧ y < 18446744073709551616) :
    Calls Tryd.prog 3 #[.int .u64 a, .int .u64 b, .int .u64 c, .int .u64 y] w fun e w' => e = .returned (.bool true) ∧ Below w.heap.size w w' := by
  have HS := Lib.hid hs
  have H0 := Lib.hid (LawW.first (c := 0) (cw := false) (q := none) (len := 0) (cap := 0) (ms := []) hS (maps_nil w))
  have HFR := Lib.hid (fun W (h : LawW s' w W 0 false none 0 0 []) => rfreshP s' 0 false none 0 0 [] W h.sent (maps_nil W))
  unfold FPost at HFR
  rw [mF0, mL0, show chk (okL 0 []) = 0 from by decide +kernel] at HFR
  have HD5 := Lib.hid (fun W mc mp Q C (h : LawW s' w W 0 false none 0 0 []) hs hm => mdo5 s s' (w := w) (W := W) (mp := mp) (Q := Q) (C := C) mc a b c y ha hb hc hy h hs hm)
  have HD1 := Lib.hid (fun W mc mp Q C (h : LawW s' w W 0 false none 0 0 []) hs hm => mdo1 s s' (w := w) (W := W) (mp := mp) (Q := Q) (C := C) mc y hy h hs hm)
  have HD2 := Lib.hid (fun W mc mp Q C (h : LawW s' w W 0 false none 0 0 []) hs hm => mdo2 s s' (w := w) (W := W) (mp := mp) (Q := Q) (C := C) mc a ha h hs hm)
  unfold OkPost at HD5 HD1 HD2
  unfold mixV at HD5
  clear hs hS
  go_enter Tryd.func3, Tryd.ntmps3
  go_wp2_with (first
    | (go_at_call 8; refine (HFR.out _ H0.out).mono ?_; rintro e w1 ⟨mp, mc, Q, C, rfl, hm1, hb1⟩; have H1 := Lib.hid (H0.out.next hb1); have HS1 := Lib.hid (HS.out.below (below1 hb1)); have HM1 := Lib.hid hm1; have k0 := H1.out.b0; have k1 := H1.out.b1; have k2 := H1.out.b2; clear hb1 hm1)
    | (go_at_call 10; refine (heads_any s s' _ (HS4.out.alloc _) (H4.out.alloc _).sent).mono ?_; rintro e w5 ⟨rfl, hb5⟩; have H5 := Lib.hid ((H4.out.alloc _).next hb5); clear hb5)
    | (go_at_call 9; refine (HD2.out _ mc mp Q C ((H3.out.alloc _).alloc _) ((HS3.out.alloc _).alloc _) ((HM3.out.alloc _).alloc _) _ (Box.new (w3.alloc (.cells #[.int .i64 1, .slice tq3 0 tc3, .slice dq3 dl3 dc3] 35)) [.int .u64 a] 22 (by simp))).mono ?_; rintro e w4 ⟨mp4, mc4, tq4, tc4, dq4, dl4, dc4, rfl, hb4, hw4⟩; have H4 := Lib.hid (((H3.out.alloc _).alloc _).next hb4); have HS4 := Lib.hid (((HS3.out.alloc _).alloc _).below hb4); obtain ⟨g4, o4, rfl, hg4, hc4⟩ := hw4.cells 0 (by simp); have q4 := fun o => (hw4.alloc o).cells 0 (by simp); have HX2 := Lib.hid (((HX.out.alloc (.cells #[.int .i64 1, .slice tq3 0 tc3, .slice dq3 dl3 dc3] 35)).alloc (.cells #[.int .u64 a] 22)).next hb4); have HY2 := Lib.hid ((HY.out.alloc (.cells #[.int .u64 a] 22)).next hb4); have p1 := fun o => (HX2.out.alloc o).cell 1 _ rfl; have p2 := fun o => (HY2.out.alloc o).cell 1 _ rfl; have p3 := fun o => (words_at (((HW2.out.alloc (.cells #[.int .i64 1, .slice tq3 0 tc3, .slice dq3 dl3 dc3] 35)).alloc (.cells #[.int .u64 a] 22)).below hb4 |>.alloc o) 2 (by simp)).2; have p4 : ∀ o, (w4.alloc o).cell? ⟨g4, o4, none⟩ = some (.int .u64 a) := fun o => (words_at (hw4.alloc o) 0 (by simp)).2; clear hb4 hw4 q4 hc4 k0 k1 k2)
    | (go_at_call 9; refine (HD1.out _ mc mp Q C ((H2.out.alloc _).alloc _) ((HS2.out.alloc _).alloc _) ((HM2.out.alloc _).alloc _) _ (Box.new (w2.alloc (.cells #[.int .i64 5, .slice (some ⟨g2, o2, none⟩) 3 tc2, .slice dq2 dl2 dc2] 35)) [.int .u64 y] 22 (by simp))).mono ?_; rintro e w3 ⟨mp3, mc3, tq3, tc3, dq3, dl3, dc3, rfl, hb3, hw3⟩; have H3 := Lib.hid (((H2.out.alloc _).alloc _).next hb3); have HS3 := Lib.hid (((HS2.out.alloc _).alloc _).below hb3); have HM3 := Lib.hid (((HM2.out.alloc _).alloc _).below hb3); have HW2 := Lib.hid (((HW1.out.alloc _).alloc _).below hb3); have HX := Lib.hid ((HX0.out.alloc (.cells #[.int .u64 y] 22)).next hb3); have HY := Lib.hid (Box.new w3 [.int .i64 1, .slice tq3 0 tc3, .slice dq3 dl3 dc3] 35 rfl); have k0 := fun o => (H3.out.alloc o).b0; have k1 := fun o => (H3.out.alloc o).b1; have k2 := fun o => (H3.out.alloc o).b2; clear hb3 hw3)
    | (go_at_call 9; refine (HD5.out _ mc mp Q C ((H1.out.alloc _).alloc _) ((HS1.out.alloc _).alloc _) ((HM1.out.alloc _).alloc _) _ _ ((Box.new w1 [.int .u64 a, .int .u64 b, .int .u64 c] 22 rfl).alloc _) (Box.new (w1.alloc (.cells #[.int .u64 a, .int .u64 b, .int .u64 c] 22)) [.int .u64 y, .int .u64 1] 22 (by simp))).mono ?_; rintro e w2 ⟨mp2, mc2, tq2, tc2, dq2, dl2, dc2, rfl, hb2, hw2⟩; obtain ⟨g2, o2, rfl, hg2, _⟩ := hw2.cells 0 (by simp); have H2 := Lib.hid (((H1.out.alloc _).alloc _).next hb2); have HS2 := Lib.hid (((HS1.out.alloc _).alloc _).below hb2); have HM2 := Lib.hid (((HM1.out.alloc _).alloc _).below hb2); have HW1 := Lib.hid hw2; have HX0 := Lib.hid (Box.new w2 [.int .i64 5, .slice (some ⟨g2, o2, none⟩) 3 tc2, .slice dq2 dl2 dc2] 35 rfl); clear k0 k1 k2; have k0 := fun o => (H2.out.alloc o).b0; have k1 := fun o => (H2.out.alloc o).b1; have k2 := fun o => (H2.out.alloc o).b2; clear hb2 hw2))
  go_ret
  exact ⟨rfl, H5.out.below⟩
end Go.Proofs.YthckkdkijajadaaDoor
