/- Contract of the document's own Do: mix, done. -/
import Derived.Test.YthckkdkijajadaaDoorYW
namespace Go.Proofs.YthckkdkijajadaaDoor
open Go.RowKit M

set_option maxRecDepth 100000 in
set_option maxHeartbeats 16000000 in
theorem rdo_mix (c : Int) (cw : Bool) (p : Option Addr) (len cap : Nat) (mp : Option Addr) (mc : Nat) (M : List (List Int)) (b o : Nat) (A : List Int) (cc : Nat) (sq : Option Addr) (sl sc : Nat) (C : Nat) (nm : ByteArray) (mo v0 : Int) (w : World) (x0 x1 x2 : Int) (hb0 : b < w.heap.size) (c0 : w.cell? ⟨b, o, none⟩ = some (.int .u64 x0)) (c1 : w.cell? ⟨b, o + 1, none⟩ = some (.int .u64 x1)) (c2 : w.cell? ⟨b, o + 2, none⟩ = some (.int .u64 x2)) (hA : WordsAt w (some ⟨b, o, none⟩) A) (hC : C ≤ A.length) (hA3 : 3 ≤ A.length) (hcc : A.length ≤ cc) (hS : sl = 0 ∧ v0 = 0 ∨ 0 < sl ∧ ∃ sb so, sq = some ⟨sb, so, none⟩ ∧ sb < w.heap.size ∧ w.cell? ⟨sb, so, none⟩ = some (.int .u64 v0)) (hsl : sl ≤ 17592186044154)
    (HSP : Hid (∀ W, Below w.heap.size w W → Calls Tryd.prog 14 #[.int .i64 5, .slice (some ⟨b, o, none⟩) A.length cc] W fun e w' => e = .returned (.tuple #[.agg #[.int .u64 0, .int .i64 0], .agg #[.int .u64 0, .int .i64 0], .bool true]) ∧ Below W.heap.size W w'))
    (HMY : Hid (∀ W, Below w.heap.size w W → Calls Tryd.prog 38 #[.agg #[.int .i64 c, .bool cw, .slice p len cap], .slice mp M.length mc] W fun e w' => e = .returned (.bool true) ∧ Below W.heap.size W w'))
    (HTB : Hid (∀ W, Calls Tryd.prog 12 #[.int .i64 5] W fun e w' => ∃ kp kc, e = .returned (.tuple #[.agg #[.string nm, .slice kp C kc, .int .i64 mo], .bool true]) ∧ Below W.heap.size W w'))
    (HCP : Hid (∀ W, Below w.heap.size w W → Calls Tryd.prog 16 #[.slice mp M.length mc] W fun e w' => ∃ mp' mc' Q' C', e = .returned (.slice mp' M.length mc') ∧ Below W.heap.size W w' ∧ MemAt w' mp' Q' C' M ∧ ∀ ad, mp' = some ad → W.heap.size ≤ ad.block)) :
    Calls Tryd.prog 17 #[.agg #[.int .i64 c, .bool cw, .slice p len cap], .slice mp M.length mc, .int .i64 5, .slice (some ⟨b, o, none⟩) A.length cc, .slice sq sl sc] w (DoPost (IntKind.u64.wrap (IntKind.u64.wrap (IntKind.u64.wrap (x0 + IntKind.u64.wrap (x1 * 3)) + IntKind.u64.wrap (x2 * 5)) + v0)) M 5 (A.take C) [] 0 w) := by
  have HA := Lib.hid hA
  have HC := Lib.hid (And.intro c0 (And.intro c1 c2))
  have hAs := hA.small
  have j0 : (0 : Int) < (A.length : Int) := by omega
  have j1 : (1 : Int) < (A.length : Int) := by omega
  have j2 : (2 : Int) < (A.length : Int) := by omega
  have j0' : 0 < A.length := by omega
  have j1' : 1 < A.length := by omega
  have j2' : 2 < A.length := by omega
  have hsl1 := fun W => (slice_head (some ⟨b, o, none⟩) A.length cc C (by omega) W).1
  have hsl2 := fun W => (slice_head (some ⟨b, o, none⟩) A.length cc C (by omega) W).2
  have HPOST : Hid (∀ mp' mc' Q' C' tq tc W, Below w.heap.size w W → MemAt W mp' Q' C' M → C ≤ tc → WordsAt W tq (A.take C) → DoPost (IntKind.u64.wrap (IntKind.u64.wrap (IntKind.u64.wrap (x0 + IntKind.u64.wrap (x1 * 3)) + IntKind.u64.wrap (x2 * 5)) + v0)) M 5 (A.take C) [] 0 w (.returned (.tuple #[.int .u64 (IntKind.u64.wrap (IntKind.u64.wrap (IntKind.u64.wrap (x0 + IntKind.u64.wrap (x1 * 3)) + IntKind.u64.wrap (x2 * 5)) + v0)), .slice mp' M.length mc', .agg #[.int .i64 5, .slice tq C tc, .slice none 0 0], .int .i64 0])) W) :=
    fun mp' mc' Q' C' tq tc W g1 g2 g3 g4 => ⟨mp', mc', Q', C', tq, tc, none, 0, by rw [show ((A.take C)).length = C by simp; omega]; rfl, g1, g2, by rw [show ((A.take C)).length = C by simp; omega]; exact g3, g4, RowAt.nil _ _⟩
  generalize DoPost (IntKind.u64.wrap (IntKind.u64.wrap (IntKind.u64.wrap (x0 + IntKind.u64.wrap (x1 * 3)) + IntKind.u64.wrap (x2 * 5)) + v0)) M 5 (A.take C) [] 0 w = POST at *
  clear hA c0 c1 c2
  rcases hS with ⟨rfl, rfl⟩ | ⟨hs0, sb, so, rfl, hsb, hsc⟩
  · go_enter Tryd.func17, Tryd.ntmps17
    go_wp2_with (first
      | (go_at_call 14; refine (HSP.out _ (below3_two w _ _)).mono ?_; rintro e w1 ⟨rfl, hb⟩; have HW1 := Lib.hid (RdW.first (ls := [.int .i64 c, .bool cw, .slice p len cap]) (s14 := [.int .u64 0, .int .i64 0]) (s15 := [.int .u64 0, .int .i64 0]) (t3 := 47) hb); have l0 := HW1.out.lay.cell 0 _ rfl; have l1 := HW1.out.lay.cell 1 _ rfl; have l2 := HW1.out.lay.cell 2 _ rfl; have k0 := HW1.out.rd.cell 0 _ rfl; have k1 := HW1.out.rd.cell 1 _ rfl; have k2 := HW1.out.wr.cell 0 _ rfl; have k3 := HW1.out.wr.cell 1 _ rfl)
      | (go_at_call 38; refine (HMY.out _ HW1.out.below).mono ?_; rintro e w3 ⟨rfl, hb3⟩; have HW3 := Lib.hid (HW1.out.next hb3); clear hb3)
      | (go_at_call 12; refine (HTB.out _).mono ?_; rintro e w4 ⟨kp, kc, rfl, hb4⟩; have HW4 := Lib.hid ((HW3.out.alloc (.cells #[.int .i64 5, .slice none 0 0, .slice none 0 0] 35)).next hb4); have HB4 := Lib.hid ((Box.new w3 [.int .i64 5, .slice none 0 0, .slice none 0 0] 35 rfl).next hb4); clear hb4))
    have HW5 := Lib.hid (HW4.out.alloc (.cells #[.string nm, .slice kp C kc, .int .i64 mo] 43)).drew
    have HB5 := Lib.hid (HB4.out.alloc (.cells #[.string nm, .slice kp C kc, .int .i64 mo] 43)).drew
    have HBT : Hid (w1.heap.size + 1 < w3.heap.size) := HW3.out.size
    have x0' := HB5.out.cell 0 _ rfl
    have x1' := HB5.out.cell 1 _ rfl
    have x2' := HB5.out.cell 2 _ rfl
    go_region_law (refine step_append_words rfl (.tmp 110) (.tmp 115) rfl rfl (some ⟨b, o, none⟩) A C cc (by simp [Act.eval, Act.put]) (by simp [Act.eval, Act.put]) (HA.out.below HW5.out.below) hC ?_; intro p6 cp W6 hb6 ho6; have HT7 := Lib.hid (RdT.first HW5.out HBT.out HB5.out HA.out hC hb6 ho6); have HCPP := Lib.hid (own_cp ho6); have y1 := (HB5.out.next hb6).cell 1 _ rfl; have fy := (HB5.out.next hb6).frozen; clear hb6 ho6)
    all_goals
      go_wp2_with (go_at_call 16; refine (HCP.out _ HT7.out.rd.below).mono ?_; rintro e w8 ⟨mp8, mc8, Q8, C8, rfl, hb8, hm8, hn8⟩; have HT8 := Lib.hid (HT7.out.next hb8); have HM8 := Lib.hid hm8; have HN8 : Hid (∀ ad, mp8 = some ad → w.heap.size + 1 < ad.block) := fun ad e => Nat.lt_of_lt_of_le HT7.out.rd.lt3 (hn8 ad e); have u0 := HT8.out.box.cell 0 (.int .i64 5) rfl; have u1 := HT8.out.box.cell 1 (.slice p6 C cp) rfl; have u2 := HT8.out.box.cell 2 (.slice none 0 0) rfl; have r0 := HT8.out.rd.res.cell 0 (.int .i64 0) rfl; have r1 := HT8.out.rd.res.cell 1 (.slice none 0 0) rfl; have r2 := HT8.out.rd.res.cell 2 (.slice none 0 0) rfl; have fz := HT8.out.rd.res.frozen; have y0 := (HT8.out.rd.below.cell (p := ⟨b, o, none⟩) hb0).trans HC.out.1; have y1 := (HT8.out.rd.below.cell (p := ⟨b, o + 1, none⟩) hb0).trans HC.out.2.1; have y2 := (HT8.out.rd.below.cell (p := ⟨b, o + 2, none⟩) hb0).trans HC.out.2.2; clear hb8 hm8 hn8)
      go_quiet (fail)
      have HT9 := Lib.hid (HT8.out.next (below_drewN (Below.refl _ _) nq))
      go_wp2
      simp only [Int.add_zero] at HPOST
      go_region
      all_goals
        go_wp2
        have HE := HPOST.out mp8 mc8 Q8 C8 p6 cp _ (below_set3 HT9.out.rd.below (Nat.le_succ _) (.int .i64 5) (.slice p6 C cp) (.slice none 0 0)).drew (((HM8.out.below (below_drewN (Below.refl _ _) nq)).set3 HT9.out.rd.res.cell HN8.out _ _ _).below (Below.refl _ _).drew) HCPP.out ((HT9.out.words.set3 HT9.out.rd.res.cell _ _ _).drew)
        refine bodyPost_ret (v := .tuple #[.int .u64 (IntKind.u64.wrap (IntKind.u64.wrap (IntKind.u64.wrap (x0 + IntKind.u64.wrap (x1 * 3)) + IntKind.u64.wrap (x2 * 5)))), .slice mp8 M.length mc8, .agg #[.int .i64 5, .slice p6 C cp, .slice none 0 0], .int .i64 0]) (by simp [results, Tryd.results17, go_sem, r0, r1, r2]) rfl HE
  · have HSC := Lib.hid hsc
    have hs1 : (0 : Int) < (sl : Int) := by omega
    clear hsc
    go_enter Tryd.func17, Tryd.ntmps17
    go_wp2_with (first
      | (go_at_call 14; refine (HSP.out _ (below3_two w _ _)).mono ?_; rintro e w1 ⟨rfl, hb⟩; have HW1 := Lib.hid (RdW.first (ls := [.int .i64 c, .bool cw, .slice p len cap]) (s14 := [.int .u64 0, .int .i64 0]) (s15 := [.int .u64 0, .int .i64 0]) (t3 := 47) hb); have l0 := HW1.out.lay.cell 0 _ rfl; have l1 := HW1.out.lay.cell 1 _ rfl; have l2 := HW1.out.lay.cell 2 _ rfl; have k0 := HW1.out.rd.cell 0 _ rfl; have k1 := HW1.out.rd.cell 1 _ rfl; have k2 := HW1.out.wr.cell 0 _ rfl; have k3 := HW1.out.wr.cell 1 _ rfl)
      | (go_at_call 38; refine (HMY.out _ HW1.out.below).mono ?_; rintro e w3 ⟨rfl, hb3⟩; have HW3 := Lib.hid (HW1.out.next hb3); have d0 := (HW3.out.below.cell (p := ⟨sb, so, none⟩) hsb).trans HSC.out; clear hb3)
      | (go_at_call 12; refine (HTB.out _).mono ?_; rintro e w4 ⟨kp, kc, rfl, hb4⟩; have HW4 := Lib.hid ((HW3.out.alloc (.cells #[.int .i64 5, .slice none 0 0, .slice none 0 0] 35)).next hb4); have HB4 := Lib.hid ((Box.new w3 [.int .i64 5, .slice none 0 0, .slice none 0 0] 35 rfl).next hb4); clear hb4))
    have HW5 := Lib.hid (HW4.out.alloc (.cells #[.string nm, .slice kp C kc, .int .i64 mo] 43)).drew
    have HB5 := Lib.hid (HB4.out.alloc (.cells #[.string nm, .slice kp C kc, .int .i64 mo] 43)).drew
    have HBT : Hid (w1.heap.size + 1 < w3.heap.size) := HW3.out.size
    have x0' := HB5.out.cell 0 _ rfl
    have x1' := HB5.out.cell 1 _ rfl
    have x2' := HB5.out.cell 2 _ rfl
    go_region_law (refine step_append_words rfl (.tmp 110) (.tmp 115) rfl rfl (some ⟨b, o, none⟩) A C cc (by simp [Act.eval, Act.put]) (by simp [Act.eval, Act.put]) (HA.out.below HW5.out.below) hC ?_; intro p6 cp W6 hb6 ho6; have HT7 := Lib.hid (RdT.first HW5.out HBT.out HB5.out HA.out hC hb6 ho6); have HCPP := Lib.hid (own_cp ho6); have y1 := (HB5.out.next hb6).cell 1 _ rfl; have fy := (HB5.out.next hb6).frozen; clear hb6 ho6)
    all_goals
      go_wp2_with (go_at_call 16; refine (HCP.out _ HT7.out.rd.below).mono ?_; rintro e w8 ⟨mp8, mc8, Q8, C8, rfl, hb8, hm8, hn8⟩; have HT8 := Lib.hid (HT7.out.next hb8); have HM8 := Lib.hid hm8; have HN8 : Hid (∀ ad, mp8 = some ad → w.heap.size + 1 < ad.block) := fun ad e => Nat.lt_of_lt_of_le HT7.out.rd.lt3 (hn8 ad e); have u0 := HT8.out.box.cell 0 (.int .i64 5) rfl; have u1 := HT8.out.box.cell 1 (.slice p6 C cp) rfl; have u2 := HT8.out.box.cell 2 (.slice none 0 0) rfl; have r0 := HT8.out.rd.res.cell 0 (.int .i64 0) rfl; have r1 := HT8.out.rd.res.cell 1 (.slice none 0 0) rfl; have r2 := HT8.out.rd.res.cell 2 (.slice none 0 0) rfl; have fz := HT8.out.rd.res.frozen; have y0 := (HT8.out.rd.below.cell (p := ⟨b, o, none⟩) hb0).trans HC.out.1; have y1 := (HT8.out.rd.below.cell (p := ⟨b, o + 1, none⟩) hb0).trans HC.out.2.1; have y2 := (HT8.out.rd.below.cell (p := ⟨b, o + 2, none⟩) hb0).trans HC.out.2.2; clear hb8 hm8 hn8)
      go_quiet (fail)
      have HT9 := Lib.hid (HT8.out.next (below_drewN (Below.refl _ _) nq))
      go_wp2
      go_region
      all_goals
        go_wp2
        have HE := HPOST.out mp8 mc8 Q8 C8 p6 cp _ (below_set3 HT9.out.rd.below (Nat.le_succ _) (.int .i64 5) (.slice p6 C cp) (.slice none 0 0)).drew (((HM8.out.below (below_drewN (Below.refl _ _) nq)).set3 HT9.out.rd.res.cell HN8.out _ _ _).below (Below.refl _ _).drew) HCPP.out ((HT9.out.words.set3 HT9.out.rd.res.cell _ _ _).drew)
        refine bodyPost_ret (v := .tuple #[.int .u64 (IntKind.u64.wrap (IntKind.u64.wrap (IntKind.u64.wrap (x0 + IntKind.u64.wrap (x1 * 3)) + IntKind.u64.wrap (x2 * 5)) + v0)), .slice mp8 M.length mc8, .agg #[.int .i64 5, .slice p6 C cp, .slice none 0 0], .int .i64 0]) (by simp [results, Tryd.results17, go_sem, r0, r1, r2]) rfl HE
end Go.Proofs.YthckkdkijajadaaDoor
