/- Contract of the document's own Do: calls that are done, of helpers that access no bytes. -/
import Derived.Test.YthckkdkijajadaaDoorYV
import Derived.Deep.RegionLaw
namespace Go.Proofs.YthckkdkijajadaaDoor
open Go.RowKit M

theorem RdW.lt3 {w W : World} {b : Nat} {ls s14 s15 : List Value} (h : RdW w W b ls s14 s15) : w.heap.size + 1 < W.heap.size := by
  have := h.le
  have := h.size
  omega
/-- what the document's Do knows when it has made what is told -/
structure RdT (w W : World) (b bt : Nat) (ls s14 s15 : List Value) (n : Int) (p : Option Addr) (C cp : Nat) (T : List Int) : Prop where
  rd : RdW w W b ls s14 s15
  le : b + 1 < bt
  box : Box W bt [.int .i64 n, .slice p C cp, .slice none 0 0]
  words : WordsAt W p T
theorem RdT.next {w W W' : World} {b bt : Nat} {ls s14 s15 : List Value} {n : Int} {p : Option Addr} {C cp : Nat} {T : List Int} (h : RdT w W b bt ls s14 s15 n p C cp T) (hb : Below W.heap.size W W') : RdT w W' b bt ls s14 s15 n p C cp T :=
  ⟨h.rd.next hb, h.le, h.box.next hb, h.words.below hb⟩
theorem RdT.first {w W5 W6 : World} {b bt : Nat} {ls s14 s15 : List Value} {n : Int} {q : Option Addr} {A : List Int} {p : Option Addr} {C cp : Nat} (h : RdW w W5 b ls s14 s15) (le : b + 1 < bt) (hbox : Box W5 bt [.int .i64 n, .slice none 0 0, .slice none 0 0]) (hA : WordsAt w q A) (hC : C ≤ A.length) (hb6 : Below W5.heap.size W5 W6) (ho : W6.ownsRow W5.heap.size 22 1 (.slice p C cp) C (wordsV (A.take C))) :
    RdT w (W6.setCell ⟨bt, 1, none⟩ (.slice p C cp)) b bt ls s14 s15 n p C cp (A.take C) := by
  have hl : (A.take C).length = C := by simp; omega
  have h6 := h.next hb6
  have hb := hbox.next hb6
  have hw := own_words (xs := A.take C) (c := cp) (q := p) (by rw [hl]; have := hA.small; omega) (fun j hj => by rw [hl] at hj; have := hA.bd j (by omega); simpa [List.getD, (by omega : j < C)] using this) (by rw [hl]; exact ho)
  have z1 := h.le
  refine ⟨⟨(h6.below).setCell (p := ⟨bt, 1, none⟩) (by show w.heap.size ≤ bt; omega) _, h.le, by simpa [World.setCell] using h6.size, h6.lay.setOther (by show bt ≠ _; omega) _, h6.res.setOther (by show bt ≠ _; omega) _, h6.rd.setOther (by show bt ≠ _; omega) _, h6.wr.setOther (by show bt ≠ _; omega) _⟩, le, hb.set (i := 1) (by simp) _, ?_⟩
  exact hw.2.set1 (hb.cell 1 _ rfl) (fun x => by simp) _
theorem own_cp {w : World} {base e size : Nat} {p : Option Addr} {C cp : Nat} {xs : List Value} (h : w.ownsRow base e size (.slice p C cp) C xs) : C ≤ cp := by
  obtain ⟨_, h | ⟨g, cap, cur, hv, _, _, h1, _⟩⟩ := h
  · omega
  · injection hv with _ _ e; omega
/-- the first words of a row, appended to nothing, as a step of a region that draws its order -/
theorem step_append_words {ops : Array Oper} {o : Oper} {a : Act} {W : World} {K : Act → World → Prop} {Q : Exit → Act → World → Prop} {E : Prop} (hg : o.guard = none) (s x : Operand) (ho : o.op = .call { callee := .builtin .append, args := #[s, x], argTypes := #[32, 32] }) (hty : o.type = 32)
    (q : Option Addr) (A : List Int) (C c : Nat) (hs : a.eval s = .slice none 0 0) (hx : a.eval x = .slice q C c) (h : WordsAt W q A) (hC : C ≤ A.length)
    (hK : ∀ p cp W', Below W.heap.size W W' → W'.ownsRow W.heap.size 22 1 (.slice p C cp) C (wordsV (A.take C)) → K (a.put o.dst (.slice p C cp)) W') :
    if Region.wanted o (yielded ops a.tmps) = true then Oper.wp Tryd.prog o a W K Q else E := by
  have hw : Region.wanted o (yielded ops a.tmps) = true := by simp [Region.wanted, hg]
  rw [if_pos hw]
  obtain ⟨p, cp, W', hrun, h1, h2⟩ := app_words h C c hC
  unfold Oper.wp
  simp [execOp, ho, resolve, invoke, builtin, hs, hx, hty, hrun, Result.andThen]
  exact hK p cp W' h1 h2
set_option maxRecDepth 100000 in
set_option maxHeartbeats 16000000 in
theorem rdo_plain (c : Int) (cw : Bool) (p : Option Addr) (len cap : Nat) (mp : Option Addr) (mc : Nat) (M : List (List Int)) (n : Int) (q : Option Addr) (A : List Int) (cc : Nat) (sq : Option Addr) (sl sc : Nat) (C : Nat) (nm : ByteArray) (mo v0 : Int) (w : World) (h3 : n ≠ 3) (h4 : n ≠ 4) (h5 : n ≠ 5) (hA : WordsAt w q A) (hC : C ≤ A.length) (hcc : A.length ≤ cc) (hS : sl = 0 ∧ v0 = 0 ∨ 0 < sl ∧ ∃ sb so, sq = some ⟨sb, so, none⟩ ∧ sb < w.heap.size ∧ w.cell? ⟨sb, so, none⟩ = some (.int .u64 v0)) (hsl : sl ≤ 17592186044154)
    (HSP : Hid (∀ W, Below w.heap.size w W → Calls Tryd.prog 14 #[.int .i64 n, .slice q A.length cc] W fun e w' => e = .returned (.tuple #[.agg #[.int .u64 0, .int .i64 0], .agg #[.int .u64 0, .int .i64 0], .bool true]) ∧ Below W.heap.size W w'))
    (HMY : Hid (∀ W, Below w.heap.size w W → Calls Tryd.prog 38 #[.agg #[.int .i64 c, .bool cw, .slice p len cap], .slice mp M.length mc] W fun e w' => e = .returned (.bool true) ∧ Below W.heap.size W w'))
    (HTB : Hid (∀ W, Calls Tryd.prog 12 #[.int .i64 n] W fun e w' => ∃ kp kc, e = .returned (.tuple #[.agg #[.string nm, .slice kp C kc, .int .i64 mo], .bool true]) ∧ Below W.heap.size W w'))
    (HCP : Hid (∀ W, Below w.heap.size w W → Calls Tryd.prog 16 #[.slice mp M.length mc] W fun e w' => ∃ mp' mc' Q' C', e = .returned (.slice mp' M.length mc') ∧ Below W.heap.size W w' ∧ MemAt w' mp' Q' C' M ∧ ∀ ad, mp' = some ad → W.heap.size ≤ ad.block)) :
    Calls Tryd.prog 17 #[.agg #[.int .i64 c, .bool cw, .slice p len cap], .slice mp M.length mc, .int .i64 n, .slice q A.length cc, .slice sq sl sc] w (DoPost v0 M n (A.take C) [] 0 w) := by
  have HA := Lib.hid hA
  have e3 : (n == 3) = false := by simp [h3]
  have e4 : (n == 4) = false := by simp [h4]
  have e5 : (n == 5) = false := by simp [h5]
  have hsl1 := fun W => (slice_head q A.length cc C (by omega) W).1
  have hsl2 := fun W => (slice_head q A.length cc C (by omega) W).2
  have HPOST : Hid (∀ mp' mc' Q' C' tq tc W, Below w.heap.size w W → MemAt W mp' Q' C' M → C ≤ tc → WordsAt W tq (A.take C) → DoPost v0 M n (A.take C) [] 0 w (.returned (.tuple #[.int .u64 v0, .slice mp' M.length mc', .agg #[.int .i64 n, .slice tq C tc, .slice none 0 0], .int .i64 0])) W) :=
    fun mp' mc' Q' C' tq tc W g1 g2 g3 g4 => ⟨mp', mc', Q', C', tq, tc, none, 0, by rw [show ((A.take C)).length = C by simp; omega]; rfl, g1, g2, by rw [show ((A.take C)).length = C by simp; omega]; exact g3, g4, RowAt.nil _ _⟩
  generalize DoPost v0 M n (A.take C) [] 0 w = POST at *
  clear hA
  rcases hS with ⟨rfl, rfl⟩ | ⟨hs0, sb, so, rfl, hsb, hsc⟩
  · go_enter Tryd.func17, Tryd.ntmps17
    go_wp2_with (first
      | (go_at_call 14; refine (HSP.out _ (below3_two w _ _)).mono ?_; rintro e w1 ⟨rfl, hb⟩; have HW1 := Lib.hid (RdW.first (ls := [.int .i64 c, .bool cw, .slice p len cap]) (s14 := [.int .u64 0, .int .i64 0]) (s15 := [.int .u64 0, .int .i64 0]) (t3 := 47) hb); have l0 := HW1.out.lay.cell 0 _ rfl; have l1 := HW1.out.lay.cell 1 _ rfl; have l2 := HW1.out.lay.cell 2 _ rfl; have k0 := HW1.out.rd.cell 0 _ rfl; have k1 := HW1.out.rd.cell 1 _ rfl; have k2 := HW1.out.wr.cell 0 _ rfl; have k3 := HW1.out.wr.cell 1 _ rfl)
      | (go_at_call 38; refine (HMY.out _ HW1.out.below).mono ?_; rintro e w3 ⟨rfl, hb3⟩; have HW3 := Lib.hid (HW1.out.next hb3); clear hb3)
      | (go_at_call 12; refine (HTB.out _).mono ?_; rintro e w4 ⟨kp, kc, rfl, hb4⟩; have HW4 := Lib.hid ((HW3.out.alloc (.cells #[.int .i64 n, .slice none 0 0, .slice none 0 0] 35)).next hb4); have HB4 := Lib.hid ((Box.new w3 [.int .i64 n, .slice none 0 0, .slice none 0 0] 35 rfl).next hb4); clear hb4))
    have HW5 := Lib.hid (HW4.out.alloc (.cells #[.string nm, .slice kp C kc, .int .i64 mo] 43)).drew
    have HB5 := Lib.hid (HB4.out.alloc (.cells #[.string nm, .slice kp C kc, .int .i64 mo] 43)).drew
    have HBT : Hid (w1.heap.size + 1 < w3.heap.size) := HW3.out.size
    have x0' := HB5.out.cell 0 _ rfl
    have x1' := HB5.out.cell 1 _ rfl
    have x2' := HB5.out.cell 2 _ rfl
    go_region_law (refine step_append_words rfl (.tmp 110) (.tmp 115) rfl rfl q A C cc (by simp [Act.eval, Act.put]) (by simp [Act.eval, Act.put]) (HA.out.below HW5.out.below) hC ?_; intro p6 cp W6 hb6 ho6; have HT7 := Lib.hid (RdT.first HW5.out HBT.out HB5.out HA.out hC hb6 ho6); have HCPP := Lib.hid (own_cp ho6); have y1 := (HB5.out.next hb6).cell 1 _ rfl; have fy := (HB5.out.next hb6).frozen; clear hb6 ho6)
    all_goals
      go_wp2_with (go_at_call 16; refine (HCP.out _ HT7.out.rd.below).mono ?_; rintro e w8 ⟨mp8, mc8, Q8, C8, rfl, hb8, hm8, hn8⟩; have HT8 := Lib.hid (HT7.out.next hb8); have HM8 := Lib.hid hm8; have HN8 : Hid (∀ ad, mp8 = some ad → w.heap.size + 1 < ad.block) := fun ad e => Nat.lt_of_lt_of_le HT7.out.rd.lt3 (hn8 ad e); have u0 := HT8.out.box.cell 0 (.int .i64 n) rfl; have u1 := HT8.out.box.cell 1 (.slice p6 C cp) rfl; have u2 := HT8.out.box.cell 2 (.slice none 0 0) rfl; have r0 := HT8.out.rd.res.cell 0 (.int .i64 0) rfl; have r1 := HT8.out.rd.res.cell 1 (.slice none 0 0) rfl; have r2 := HT8.out.rd.res.cell 2 (.slice none 0 0) rfl; have fz := HT8.out.rd.res.frozen; clear hb8 hm8 hn8)
      go_region
      all_goals
        go_wp2
        have HE := HPOST.out mp8 mc8 Q8 C8 p6 cp _ (below_set3 HT8.out.rd.below (Nat.le_succ _) (.int .i64 n) (.slice p6 C cp) (.slice none 0 0)).drew ((HM8.out.set3 HT8.out.rd.res.cell HN8.out _ _ _).below (Below.refl _ _).drew) HCPP.out ((HT8.out.words.set3 HT8.out.rd.res.cell _ _ _).drew)
        refine bodyPost_ret (v := .tuple #[.int .u64 0, .slice mp8 M.length mc8, .agg #[.int .i64 n, .slice p6 C cp, .slice none 0 0], .int .i64 0]) (by simp [results, Tryd.results17, go_sem, r0, r1, r2]) rfl HE
  · have HSC := Lib.hid hsc
    have hs1 : (0 : Int) < (sl : Int) := by omega
    clear hsc
    go_enter Tryd.func17, Tryd.ntmps17
    go_wp2_with (first
      | (go_at_call 14; refine (HSP.out _ (below3_two w _ _)).mono ?_; rintro e w1 ⟨rfl, hb⟩; have HW1 := Lib.hid (RdW.first (ls := [.int .i64 c, .bool cw, .slice p len cap]) (s14 := [.int .u64 0, .int .i64 0]) (s15 := [.int .u64 0, .int .i64 0]) (t3 := 47) hb); have l0 := HW1.out.lay.cell 0 _ rfl; have l1 := HW1.out.lay.cell 1 _ rfl; have l2 := HW1.out.lay.cell 2 _ rfl; have k0 := HW1.out.rd.cell 0 _ rfl; have k1 := HW1.out.rd.cell 1 _ rfl; have k2 := HW1.out.wr.cell 0 _ rfl; have k3 := HW1.out.wr.cell 1 _ rfl)
      | (go_at_call 38; refine (HMY.out _ HW1.out.below).mono ?_; rintro e w3 ⟨rfl, hb3⟩; have HW3 := Lib.hid (HW1.out.next hb3); have d0 := (HW3.out.below.cell (p := ⟨sb, so, none⟩) hsb).trans HSC.out; clear hb3)
      | (go_at_call 12; refine (HTB.out _).mono ?_; rintro e w4 ⟨kp, kc, rfl, hb4⟩; have HW4 := Lib.hid ((HW3.out.alloc (.cells #[.int .i64 n, .slice none 0 0, .slice none 0 0] 35)).next hb4); have HB4 := Lib.hid ((Box.new w3 [.int .i64 n, .slice none 0 0, .slice none 0 0] 35 rfl).next hb4); clear hb4))
    have HW5 := Lib.hid (HW4.out.alloc (.cells #[.string nm, .slice kp C kc, .int .i64 mo] 43)).drew
    have HB5 := Lib.hid (HB4.out.alloc (.cells #[.string nm, .slice kp C kc, .int .i64 mo] 43)).drew
    have HBT : Hid (w1.heap.size + 1 < w3.heap.size) := HW3.out.size
    have x0' := HB5.out.cell 0 _ rfl
    have x1' := HB5.out.cell 1 _ rfl
    have x2' := HB5.out.cell 2 _ rfl
    go_region_law (refine step_append_words rfl (.tmp 110) (.tmp 115) rfl rfl q A C cc (by simp [Act.eval, Act.put]) (by simp [Act.eval, Act.put]) (HA.out.below HW5.out.below) hC ?_; intro p6 cp W6 hb6 ho6; have HT7 := Lib.hid (RdT.first HW5.out HBT.out HB5.out HA.out hC hb6 ho6); have HCPP := Lib.hid (own_cp ho6); have y1 := (HB5.out.next hb6).cell 1 _ rfl; have fy := (HB5.out.next hb6).frozen; clear hb6 ho6)
    all_goals
      go_wp2_with (go_at_call 16; refine (HCP.out _ HT7.out.rd.below).mono ?_; rintro e w8 ⟨mp8, mc8, Q8, C8, rfl, hb8, hm8, hn8⟩; have HT8 := Lib.hid (HT7.out.next hb8); have HM8 := Lib.hid hm8; have HN8 : Hid (∀ ad, mp8 = some ad → w.heap.size + 1 < ad.block) := fun ad e => Nat.lt_of_lt_of_le HT7.out.rd.lt3 (hn8 ad e); have u0 := HT8.out.box.cell 0 (.int .i64 n) rfl; have u1 := HT8.out.box.cell 1 (.slice p6 C cp) rfl; have u2 := HT8.out.box.cell 2 (.slice none 0 0) rfl; have r0 := HT8.out.rd.res.cell 0 (.int .i64 0) rfl; have r1 := HT8.out.rd.res.cell 1 (.slice none 0 0) rfl; have r2 := HT8.out.rd.res.cell 2 (.slice none 0 0) rfl; have fz := HT8.out.rd.res.frozen; clear hb8 hm8 hn8)
      go_region
      all_goals
        go_wp2
        have HE := HPOST.out mp8 mc8 Q8 C8 p6 cp _ (below_set3 HT8.out.rd.below (Nat.le_succ _) (.int .i64 n) (.slice p6 C cp) (.slice none 0 0)).drew ((HM8.out.set3 HT8.out.rd.res.cell HN8.out _ _ _).below (Below.refl _ _).drew) HCPP.out ((HT8.out.words.set3 HT8.out.rd.res.cell _ _ _).drew)
        refine bodyPost_ret (v := .tuple #[.int .u64 v0, .slice mp8 M.length mc8, .agg #[.int .i64 n, .slice p6 C cp, .slice none 0 0], .int .i64 0]) (by simp [results, Tryd.results17, go_sem, r0, r1, r2]) rfl HE
end Go.Proofs.YthckkdkijajadaaDoor
