/- Contract of the document's own Do: send, done. -/
import Derived.Test.YthckkdkijajadaaDoorYW
namespace Go.Proofs.YthckkdkijajadaaDoor
open Go.RowKit M

theorem own_form {w : World} {base : Nat} {e : TypeId} {size C cp : Nat} {p : Option Addr} {xs : List Value} (hC : 0 < C) (h : w.ownsRow base e size (.slice p C cp) C xs) : ∃ g, p = some ⟨g, 0, none⟩ ∧ base ≤ g ∧ g < w.heap.size ∧ ∀ i, w.frozen? ⟨g, i, none⟩ = false := by
  obtain ⟨_, ⟨_, h⟩ | ⟨g, cap, cur, hv, hg, hh, _⟩⟩ := h
  · omega
  · injection hv with e1 _ _
    exact ⟨g, e1, hg, (Array.getElem?_eq_some_iff.1 hh).1, fun i => by simp [World.frozen?, hh]⟩
theorem RdT.nought {w W : World} {b bt g : Nat} {ls s14 s15 : List Value} {n : Int} {C cp : Nat} {x y : Int} (h : RdT w W b bt ls s14 s15 n (some ⟨g, 0, none⟩) C cp [x, y]) (hg : bt < g) : RdT w (W.setCell ⟨g, 0, none⟩ (.int .u64 0)) b bt ls s14 s15 n (some ⟨g, 0, none⟩) C cp [0, y] := by
  have z1 := h.rd.le
  have z2 := h.le
  exact ⟨⟨h.rd.below.setCell (p := ⟨g, 0, none⟩) (by show w.heap.size ≤ g; omega) _, h.rd.le, by simpa [World.setCell] using h.rd.size, h.rd.lay.setOther (by show g ≠ _; omega) _, h.rd.res.setOther (by show g ≠ _; omega) _, h.rd.rd.setOther (by show g ≠ _; omega) _, h.rd.wr.setOther (by show g ≠ _; omega) _⟩, h.le, h.box.setOther (by show g ≠ _; omega) _, h.words.nought⟩
theorem word0 {W : World} {g : Nat} {x y : Int} (h : WordsAt W (some ⟨g, 0, none⟩) [x, y]) : W.cell? ⟨g, 0, none⟩ = some (.int .u64 x) := by
  obtain ⟨b, off, e, _, h0⟩ := h.cells 0 (by simp)
  injection e with e
  injection e with e1 e2
  subst e1 e2
  exact h0
theorem RdW.rd_lt {w W : World} {b : Nat} {ls s14 s15 : List Value} (h : RdW w W b ls s14 s15) : w.heap.size < W.heap.size := by have := h.lt3; omega
theorem lt_set {W : World} {g : Nat} (h : g < W.heap.size) (a : Addr) (v : Value) : g < (W.setCell a v).heap.size := by simpa [World.setCell] using h
set_option maxRecDepth 100000 in
set_option maxHeartbeats 16000000 in
theorem rdo_send (c : Int) (cw : Bool) (p : Option Addr) (len cap : Nat) (mp : Option Addr) (mc : Nat) (M : List (List Int)) (b o : Nat) (A : List Int) (cc : Nat) (sq : Option Addr) (sl sc : Nat) (C : Nat) (nm : ByteArray) (mo v0 : Int) (w : World) (x0 x1 sz : Int) (hb0 : b < w.heap.size) (c0 : w.cell? ⟨b, o, none⟩ = some (.int .u64 x0)) (c1 : w.cell? ⟨b, o + 1, none⟩ = some (.int .u64 x1)) (hA : WordsAt w (some ⟨b, o, none⟩) A) (hC : C ≤ A.length) (hC2 : C = 2) (hTK : A.take C = [x0, x1]) (hcc : A.length ≤ cc) (h1 : 1 ≤ x1) (h64 : x1 ≤ 64) (D : List Int) (r : Int) (hS : sl = 0 ∧ v0 = 0 ∨ 0 < sl ∧ ∃ sb so, sq = some ⟨sb, so, none⟩ ∧ sb < w.heap.size ∧ w.cell? ⟨sb, so, none⟩ = some (.int .u64 v0)) (hsl : sl ≤ 17592186044154)
    (HSP : Hid (∀ W, Below w.heap.size w W → Calls Tryd.prog 14 #[.int .i64 3, .slice (some ⟨b, o, none⟩) A.length cc] W fun e w' => e = .returned (.tuple #[.agg #[.int .u64 x0, .int .i64 sz], .agg #[.int .u64 0, .int .i64 0], .bool true]) ∧ Below W.heap.size W w'))
    (HAC : Hid (∀ W, Below w.heap.size w W → Calls Tryd.prog 37 #[.agg #[.int .i64 c, .bool cw, .slice p len cap], .int .u64 x0, .int .i64 sz, .bool false] W fun e w' => e = .returned (.int .i64 0) ∧ Below W.heap.size W w'))
    (HMY : Hid (∀ W, Below w.heap.size w W → Calls Tryd.prog 38 #[.agg #[.int .i64 c, .bool cw, .slice p len cap], .slice mp M.length mc] W fun e w' => e = .returned (.bool true) ∧ Below W.heap.size W w'))
    (HTB : Hid (∀ W, Calls Tryd.prog 12 #[.int .i64 3] W fun e w' => ∃ kp kc, e = .returned (.tuple #[.agg #[.string nm, .slice kp C kc, .int .i64 mo], .bool true]) ∧ Below W.heap.size W w'))
    (HCP : Hid (∀ W, Below w.heap.size w W → Calls Tryd.prog 16 #[.slice mp M.length mc] W fun e w' => ∃ mp' mc' Q' C', e = .returned (.slice mp' M.length mc') ∧ Below W.heap.size W w' ∧ MemAt w' mp' Q' C' M ∧ ∀ ad, mp' = some ad → W.heap.size ≤ ad.block))
    (HBY : Hid (∀ W, Below w.heap.size w W → Calls Tryd.prog 21 #[.agg #[.int .i64 c, .bool cw, .slice p len cap], .slice mp M.length mc, .int .u64 x0, .int .i64 sz] W (RowPost D r W))) :
    Calls Tryd.prog 17 #[.agg #[.int .i64 c, .bool cw, .slice p len cap], .slice mp M.length mc, .int .i64 3, .slice (some ⟨b, o, none⟩) A.length cc, .slice sq sl sc] w (DoPost v0 M 3 [0, x1] D 0 w) := by
  have HA := Lib.hid hA
  have HC := Lib.hid (And.intro c0 c1)
  have HTK := Lib.hid hTK
  have HC2 := Lib.hid hC2
  have hC01 : 0 < C := by omega
  have hC02 : (0 : Int) < (C : Int) := by omega
  have hAs := hA.small
  have i1 : (1 : Int) < (A.length : Int) := by omega
  have i1' : 1 < A.length := by omega
  have hsl1 := fun W => (slice_head (some ⟨b, o, none⟩) A.length cc C (by omega) W).1
  have hsl2 := fun W => (slice_head (some ⟨b, o, none⟩) A.length cc C (by omega) W).2
  have HPOST : Hid (∀ mp' mc' Q' C' tq tc dq dc W, Below w.heap.size w W → MemAt W mp' Q' C' M → C ≤ tc → WordsAt W tq [0, x1] → RowAt W dq D → DoPost v0 M 3 [0, x1] D 0 w (.returned (.tuple #[.int .u64 v0, .slice mp' M.length mc', .agg #[.int .i64 3, .slice tq C tc, .slice dq D.length dc], .int .i64 0])) W) :=
    fun mp' mc' Q' C' tq tc dq dc W g1 g2 g3 g4 g5 => ⟨mp', mc', Q', C', tq, tc, dq, dc, by rw [hC2]; rfl, g1, g2, by rw [hC2] at g3; exact g3, g4, g5⟩
  unfold RowPost at HBY
  generalize DoPost v0 M 3 [0, x1] D 0 w = POST at *
  clear hA c0 c1 hTK hC2
  rcases hS with ⟨rfl, rfl⟩ | ⟨hs0, sb, so, rfl, hsb, hsc⟩
  · go_enter Tryd.func17, Tryd.ntmps17
    go_wp2_with (first
      | (go_at_call 14; refine (HSP.out _ (below3_two w _ _)).mono ?_; rintro e w1 ⟨rfl, hb⟩; have HW1 := Lib.hid (RdW.first (ls := [.int .i64 c, .bool cw, .slice p len cap]) (s14 := [.int .u64 x0, .int .i64 sz]) (s15 := [.int .u64 0, .int .i64 0]) (t3 := 47) hb); have l0 := HW1.out.lay.cell 0 _ rfl; have l1 := HW1.out.lay.cell 1 _ rfl; have l2 := HW1.out.lay.cell 2 _ rfl; have k0 := HW1.out.rd.cell 0 _ rfl; have k1 := HW1.out.rd.cell 1 _ rfl; have k2 := HW1.out.wr.cell 0 _ rfl; have k3 := HW1.out.wr.cell 1 _ rfl; have d1 := (HW1.out.below.cell (p := ⟨b, o + 1, none⟩) hb0).trans HC.out.2)
      | (go_at_call 37; refine (HAC.out _ HW1.out.below).mono ?_; rintro e w2 ⟨rfl, hb2⟩; have HW2 := Lib.hid (HW1.out.next hb2); have m0 := HW2.out.lay.cell 0 _ rfl; have m1 := HW2.out.lay.cell 1 _ rfl; have m2 := HW2.out.lay.cell 2 _ rfl)
      | (go_at_call 38; refine (HMY.out _ HW2.out.below).mono ?_; rintro e w3 ⟨rfl, hb3⟩; have HW3 := Lib.hid (HW2.out.next hb3); clear hb3)
      | (go_at_call 12; refine (HTB.out _).mono ?_; rintro e w4 ⟨kp, kc, rfl, hb4⟩; have HW4 := Lib.hid ((HW3.out.alloc (.cells #[.int .i64 3, .slice none 0 0, .slice none 0 0] 35)).next hb4); have HB4 := Lib.hid ((Box.new w3 [.int .i64 3, .slice none 0 0, .slice none 0 0] 35 rfl).next hb4); clear hb4))
    have HW5 := Lib.hid (HW4.out.alloc (.cells #[.string nm, .slice kp C kc, .int .i64 mo] 43)).drew
    have HB5 := Lib.hid (HB4.out.alloc (.cells #[.string nm, .slice kp C kc, .int .i64 mo] 43)).drew
    have HBT : Hid (w1.heap.size + 1 < w3.heap.size) := HW3.out.size
    have x0' := HB5.out.cell 0 _ rfl
    have x1' := HB5.out.cell 1 _ rfl
    have x2' := HB5.out.cell 2 _ rfl
    go_region_law (refine step_append_words rfl (.tmp 110) (.tmp 115) rfl rfl (some ⟨b, o, none⟩) A C cc (by simp [Act.eval, Act.put]) (by simp [Act.eval, Act.put]) (HA.out.below HW5.out.below) hC ?_; intro p6 cp W6 hb6 ho6; obtain ⟨g6, rfl, hg6, hz6, hf6⟩ := own_form (by rw [HC2.out]; decide) ho6; have HT7' := RdT.first HW5.out HBT.out HB5.out HA.out hC hb6 ho6; rw [HTK.out] at HT7'; have HT7 := Lib.hid HT7'; have HCPP := Lib.hid (own_cp ho6); have HG := Lib.hid (Nat.lt_of_lt_of_le HB5.out.lt hg6); have HGZ : Hid (g6 < (W6.setCell ⟨w3.heap.size, 1, none⟩ (.slice (some ⟨g6, 0, none⟩) C cp)).heap.size) := lt_set hz6 _ _; have HGF : Hid ((W6.setCell ⟨w3.heap.size, 1, none⟩ (.slice (some ⟨g6, 0, none⟩) C cp)).frozen? ⟨g6, 0, none⟩ = false) := (World.frozen?_setCell ..).trans (hf6 0); have y1 := (HB5.out.next hb6).cell 1 _ rfl; have fy := (HB5.out.next hb6).frozen; clear hb6 ho6 HT7' hg6 hz6 hf6)
    all_goals
      go_wp2_with (first
        | (go_at_call 16; refine (HCP.out _ HT7.out.rd.below).mono ?_; rintro e w8 ⟨mp8, mc8, Q8, C8, rfl, hb8, hm8, hn8⟩; have HT8 := Lib.hid (HT7.out.next hb8); have HM8 := Lib.hid hm8; have HN8 : Hid (∀ ad, mp8 = some ad → w3.heap.size < ad.block ∧ g6 < ad.block ∧ w.heap.size + 1 < ad.block) := fun ad e => ⟨Nat.lt_of_lt_of_le (Nat.lt_trans HG.out HGZ.out) (hn8 ad e), Nat.lt_of_lt_of_le HGZ.out (hn8 ad e), Nat.lt_of_lt_of_le HT7.out.rd.lt3 (hn8 ad e)⟩; have s0 := word0 HT8.out.words; have sf := (hb8.frozen (p := ⟨g6, 0, none⟩) HGZ.out).trans HGF.out; have HT9 := Lib.hid (HT8.out.nought HG.out); have HM9 := Lib.hid (HM8.out.set1 s0 (fun x => by simp) (fun ad e => Nat.ne_of_gt (HN8.out ad e).2.1) (.int .u64 0)); have u0 := HT8.out.box.cell 0 (.int .i64 3) rfl; have u1 := HT8.out.box.cell 1 (.slice (some ⟨g6, 0, none⟩) C cp) rfl; have u2 := HT8.out.box.cell 2 (.slice none 0 0) rfl; have a0 := HT9.out.rd.lay.cell 0 _ rfl; have a1 := HT9.out.rd.lay.cell 1 _ rfl; have a2 := HT9.out.rd.lay.cell 2 _ rfl; have a3 := HT9.out.rd.rd.cell 0 _ rfl; have a4 := HT9.out.rd.rd.cell 1 _ rfl; have a5 := HT9.out.rd.wr.cell 0 _ rfl; have a6 := HT9.out.rd.wr.cell 1 _ rfl; clear hb8 hm8 hn8)
        | (go_at_call 21; refine (HBY.out _ HT9.out.rd.below).mono ?_; rintro e w10 ⟨dq, dc, rfl, hb10, hrow, _⟩; have HT10 := Lib.hid (HT9.out.next hb10); have HM10 := Lib.hid (HM9.out.below hb10); have HR10 := Lib.hid hrow; have t0 := HT10.out.box.cell 0 (.int .i64 3) rfl; have t1 := HT10.out.box.cell 1 (.slice (some ⟨g6, 0, none⟩) C cp) rfl; have t2 := HT10.out.box.cell 2 (.slice none 0 0) rfl; have tf := HT10.out.box.frozen; have hb11 : w.heap.size ≤ w3.heap.size := Nat.le_of_lt HW3.out.rd_lt; have hn11 : w3.heap.size ≠ w.heap.size + 1 := Nat.ne_of_gt (Nat.lt_trans HW1.out.le (Nat.lt_trans (Nat.lt_succ_self _) HBT.out)); have hres := HT10.out.rd.res.setOther (a := ⟨w3.heap.size, 2, none⟩) hn11 (.slice dq D.length dc); have HRES := Lib.hid hres; have r0 := HRES.out.cell 0 (.int .i64 0) rfl; have r1 := HRES.out.cell 1 (.slice none 0 0) rfl; have r2 := HRES.out.cell 2 (.slice none 0 0) rfl; have fz := HRES.out.frozen; clear hb10 hrow hres))
      go_region
      all_goals
        go_wp2
        have hm11 := HM10.out.set1 t2 (fun x => by simp) (fun ad e => Nat.ne_of_gt (HN8.out ad e).1) (.slice dq D.length dc)
        have hw11 := HT10.out.words.set1 t2 (fun x => by simp) (.slice dq D.length dc)
        have hr11 := HR10.out.set1 t2 (fun x => by simp) (.slice dq D.length dc)
        have HE := HPOST.out mp8 mc8 Q8 C8 (some ⟨g6, 0, none⟩) cp dq dc _ (below_set3 (HT10.out.rd.below.setCell (p := ⟨w3.heap.size, 2, none⟩) hb11 (.slice dq D.length dc)) (Nat.le_succ _) (.int .i64 3) (.slice (some ⟨g6, 0, none⟩) C cp) (.slice dq D.length dc)).drew ((hm11.set3 HRES.out.cell (fun ad e => (HN8.out ad e).2.2) _ _ _).below (Below.refl _ _).drew) HCPP.out ((hw11.set3 HRES.out.cell _ _ _).drew) ((hr11.set3 HRES.out.cell _ _ _).below (Below.refl _ _).drew)
        refine bodyPost_ret (v := .tuple #[.int .u64 0, .slice mp8 M.length mc8, .agg #[.int .i64 3, .slice (some ⟨g6, 0, none⟩) C cp, .slice dq D.length dc], .int .i64 0]) (by simp [results, Tryd.results17, go_sem, r0, r1, r2]) rfl HE
  · have HSC := Lib.hid hsc
    have hs1 : (0 : Int) < (sl : Int) := by omega
    clear hsc
    go_enter Tryd.func17, Tryd.ntmps17
    go_wp2_with (first
      | (go_at_call 14; refine (HSP.out _ (below3_two w _ _)).mono ?_; rintro e w1 ⟨rfl, hb⟩; have HW1 := Lib.hid (RdW.first (ls := [.int .i64 c, .bool cw, .slice p len cap]) (s14 := [.int .u64 x0, .int .i64 sz]) (s15 := [.int .u64 0, .int .i64 0]) (t3 := 47) hb); have l0 := HW1.out.lay.cell 0 _ rfl; have l1 := HW1.out.lay.cell 1 _ rfl; have l2 := HW1.out.lay.cell 2 _ rfl; have k0 := HW1.out.rd.cell 0 _ rfl; have k1 := HW1.out.rd.cell 1 _ rfl; have k2 := HW1.out.wr.cell 0 _ rfl; have k3 := HW1.out.wr.cell 1 _ rfl; have d1 := (HW1.out.below.cell (p := ⟨b, o + 1, none⟩) hb0).trans HC.out.2)
      | (go_at_call 37; refine (HAC.out _ HW1.out.below).mono ?_; rintro e w2 ⟨rfl, hb2⟩; have HW2 := Lib.hid (HW1.out.next hb2); have m0 := HW2.out.lay.cell 0 _ rfl; have m1 := HW2.out.lay.cell 1 _ rfl; have m2 := HW2.out.lay.cell 2 _ rfl)
      | (go_at_call 38; refine (HMY.out _ HW2.out.below).mono ?_; rintro e w3 ⟨rfl, hb3⟩; have HW3 := Lib.hid (HW2.out.next hb3); have d0 := (HW3.out.below.cell (p := ⟨sb, so, none⟩) hsb).trans HSC.out; clear hb3)
      | (go_at_call 12; refine (HTB.out _).mono ?_; rintro e w4 ⟨kp, kc, rfl, hb4⟩; have HW4 := Lib.hid ((HW3.out.alloc (.cells #[.int .i64 3, .slice none 0 0, .slice none 0 0] 35)).next hb4); have HB4 := Lib.hid ((Box.new w3 [.int .i64 3, .slice none 0 0, .slice none 0 0] 35 rfl).next hb4); clear hb4))
    have HW5 := Lib.hid (HW4.out.alloc (.cells #[.string nm, .slice kp C kc, .int .i64 mo] 43)).drew
    have HB5 := Lib.hid (HB4.out.alloc (.cells #[.string nm, .slice kp C kc, .int .i64 mo] 43)).drew
    have HBT : Hid (w1.heap.size + 1 < w3.heap.size) := HW3.out.size
    have x0' := HB5.out.cell 0 _ rfl
    have x1' := HB5.out.cell 1 _ rfl
    have x2' := HB5.out.cell 2 _ rfl
    go_region_law (refine step_append_words rfl (.tmp 110) (.tmp 115) rfl rfl (some ⟨b, o, none⟩) A C cc (by simp [Act.eval, Act.put]) (by simp [Act.eval, Act.put]) (HA.out.below HW5.out.below) hC ?_; intro p6 cp W6 hb6 ho6; obtain ⟨g6, rfl, hg6, hz6, hf6⟩ := own_form (by rw [HC2.out]; decide) ho6; have HT7' := RdT.first HW5.out HBT.out HB5.out HA.out hC hb6 ho6; rw [HTK.out] at HT7'; have HT7 := Lib.hid HT7'; have HCPP := Lib.hid (own_cp ho6); have HG := Lib.hid (Nat.lt_of_lt_of_le HB5.out.lt hg6); have HGZ : Hid (g6 < (W6.setCell ⟨w3.heap.size, 1, none⟩ (.slice (some ⟨g6, 0, none⟩) C cp)).heap.size) := lt_set hz6 _ _; have HGF : Hid ((W6.setCell ⟨w3.heap.size, 1, none⟩ (.slice (some ⟨g6, 0, none⟩) C cp)).frozen? ⟨g6, 0, none⟩ = false) := (World.frozen?_setCell ..).trans (hf6 0); have y1 := (HB5.out.next hb6).cell 1 _ rfl; have fy := (HB5.out.next hb6).frozen; clear hb6 ho6 HT7' hg6 hz6 hf6)
    all_goals
      go_wp2_with (first
        | (go_at_call 16; refine (HCP.out _ HT7.out.rd.below).mono ?_; rintro e w8 ⟨mp8, mc8, Q8, C8, rfl, hb8, hm8, hn8⟩; have HT8 := Lib.hid (HT7.out.next hb8); have HM8 := Lib.hid hm8; have HN8 : Hid (∀ ad, mp8 = some ad → w3.heap.size < ad.block ∧ g6 < ad.block ∧ w.heap.size + 1 < ad.block) := fun ad e => ⟨Nat.lt_of_lt_of_le (Nat.lt_trans HG.out HGZ.out) (hn8 ad e), Nat.lt_of_lt_of_le HGZ.out (hn8 ad e), Nat.lt_of_lt_of_le HT7.out.rd.lt3 (hn8 ad e)⟩; have s0 := word0 HT8.out.words; have sf := (hb8.frozen (p := ⟨g6, 0, none⟩) HGZ.out).trans HGF.out; have HT9 := Lib.hid (HT8.out.nought HG.out); have HM9 := Lib.hid (HM8.out.set1 s0 (fun x => by simp) (fun ad e => Nat.ne_of_gt (HN8.out ad e).2.1) (.int .u64 0)); have u0 := HT8.out.box.cell 0 (.int .i64 3) rfl; have u1 := HT8.out.box.cell 1 (.slice (some ⟨g6, 0, none⟩) C cp) rfl; have u2 := HT8.out.box.cell 2 (.slice none 0 0) rfl; have a0 := HT9.out.rd.lay.cell 0 _ rfl; have a1 := HT9.out.rd.lay.cell 1 _ rfl; have a2 := HT9.out.rd.lay.cell 2 _ rfl; have a3 := HT9.out.rd.rd.cell 0 _ rfl; have a4 := HT9.out.rd.rd.cell 1 _ rfl; have a5 := HT9.out.rd.wr.cell 0 _ rfl; have a6 := HT9.out.rd.wr.cell 1 _ rfl; clear hb8 hm8 hn8)
        | (go_at_call 21; refine (HBY.out _ HT9.out.rd.below).mono ?_; rintro e w10 ⟨dq, dc, rfl, hb10, hrow, _⟩; have HT10 := Lib.hid (HT9.out.next hb10); have HM10 := Lib.hid (HM9.out.below hb10); have HR10 := Lib.hid hrow; have t0 := HT10.out.box.cell 0 (.int .i64 3) rfl; have t1 := HT10.out.box.cell 1 (.slice (some ⟨g6, 0, none⟩) C cp) rfl; have t2 := HT10.out.box.cell 2 (.slice none 0 0) rfl; have tf := HT10.out.box.frozen; have hb11 : w.heap.size ≤ w3.heap.size := Nat.le_of_lt HW3.out.rd_lt; have hn11 : w3.heap.size ≠ w.heap.size + 1 := Nat.ne_of_gt (Nat.lt_trans HW1.out.le (Nat.lt_trans (Nat.lt_succ_self _) HBT.out)); have hres := HT10.out.rd.res.setOther (a := ⟨w3.heap.size, 2, none⟩) hn11 (.slice dq D.length dc); have HRES := Lib.hid hres; have r0 := HRES.out.cell 0 (.int .i64 0) rfl; have r1 := HRES.out.cell 1 (.slice none 0 0) rfl; have r2 := HRES.out.cell 2 (.slice none 0 0) rfl; have fz := HRES.out.frozen; clear hb10 hrow hres))
      go_region
      all_goals
        go_wp2
        have hm11 := HM10.out.set1 t2 (fun x => by simp) (fun ad e => Nat.ne_of_gt (HN8.out ad e).1) (.slice dq D.length dc)
        have hw11 := HT10.out.words.set1 t2 (fun x => by simp) (.slice dq D.length dc)
        have hr11 := HR10.out.set1 t2 (fun x => by simp) (.slice dq D.length dc)
        have HE := HPOST.out mp8 mc8 Q8 C8 (some ⟨g6, 0, none⟩) cp dq dc _ (below_set3 (HT10.out.rd.below.setCell (p := ⟨w3.heap.size, 2, none⟩) hb11 (.slice dq D.length dc)) (Nat.le_succ _) (.int .i64 3) (.slice (some ⟨g6, 0, none⟩) C cp) (.slice dq D.length dc)).drew ((hm11.set3 HRES.out.cell (fun ad e => (HN8.out ad e).2.2) _ _ _).below (Below.refl _ _).drew) HCPP.out ((hw11.set3 HRES.out.cell _ _ _).drew) ((hr11.set3 HRES.out.cell _ _ _).below (Below.refl _ _).drew)
        refine bodyPost_ret (v := .tuple #[.int .u64 v0, .slice mp8 M.length mc8, .agg #[.int .i64 3, .slice (some ⟨g6, 0, none⟩) C cp, .slice dq D.length dc], .int .i64 0]) (by simp [results, Tryd.results17, go_sem, r0, r1, r2]) rfl HE
end Go.Proofs.YthckkdkijajadaaDoor
