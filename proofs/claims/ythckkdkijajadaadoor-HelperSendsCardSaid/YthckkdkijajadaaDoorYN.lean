/- Contracts of Do: a helper's call, refused or done. -/
import Derived.Test.YthckkdkijajadaaDoorYM
namespace Go.Proofs.YthckkdkijajadaaDoor
open Go.RowKit M

/-- what a call answers: a number, a memory, what is told, an error's number -/
def DoPost (V : Int) (R : List (List Int)) (H : Int) (T D : List Int) (E : Int) (w : World) (e : Ending) (w' : World) : Prop :=
  ∃ mp mc Q C tq tc dq dc, e = .returned (.tuple #[.int .u64 V, .slice mp R.length mc, .agg #[.int .i64 H, .slice tq T.length tc, .slice dq D.length dc], .int .i64 E]) ∧ Below w.heap.size w w' ∧ MemAt w' mp Q C R ∧ T.length ≤ tc ∧ WordsAt w' tq T ∧ RowAt w' dq D
theorem DoPost.bad {E : Int} {w w' : World} (h : Below w.heap.size w w') : DoPost 0 [] 0 [] [] E w (.returned (.tuple #[.int .u64 0, .slice none 0 0, .agg #[.int .i64 0, .slice none 0 0, .slice none 0 0], .int .i64 E])) w' :=
  ⟨none, 0, fun _ => none, fun _ => 0, none, 0, none, 0, rfl, h, MemAt.nil _, Nat.le_refl _, WordsAt.nil _ _, RowAt.nil _ _⟩
/-- a world behind Do's first operations -/
structure DoW (w W : World) (b : Nat) (ls cs : List Value) : Prop where
  below : Below w.heap.size w W
  le : w.heap.size + 1 < b
  size : b < W.heap.size
  lay : ∀ i u, ls[i]? = some u → W.cell? ⟨w.heap.size, i, none⟩ = some u
  res : ∀ i u, [Value.int .i64 0, .slice none 0 0, .slice none 0 0][i]? = some u → W.cell? ⟨w.heap.size + 1, i, none⟩ = some u
  fres : ∀ i, W.frozen? ⟨w.heap.size + 1, i, none⟩ = false
  call : ∀ i u, cs[i]? = some u → W.cell? ⟨b, i, none⟩ = some u
theorem DoW.next {w W W' : World} {b : Nat} {ls cs : List Value} (h : DoW w W b ls cs) (hb : Below W.heap.size W W') : DoW w W' b ls cs := by
  have h1 := h.le
  have h2 := h.size
  exact ⟨below_next h.below hb, h.le, Nat.lt_of_lt_of_le h.size hb.size, fun i u hi => (hb.cell (p := ⟨w.heap.size, i, none⟩) (by show w.heap.size < _; omega)).trans (h.lay i u hi), fun i u hi => (hb.cell (p := ⟨w.heap.size + 1, i, none⟩) (by show w.heap.size + 1 < _; omega)).trans (h.res i u hi), fun i => (hb.frozen (p := ⟨w.heap.size + 1, i, none⟩) (by show w.heap.size + 1 < _; omega)).trans (h.fres i), fun i u hi => (hb.cell (p := ⟨b, i, none⟩) h2).trans (h.call i u hi)⟩
theorem DoW.first {w w1 : World} {ls cs : List Value} {t1 t2 t3 : TypeId} (hb : Below ((w.alloc (.cells ls.toArray t1)).alloc (.cells #[.int .i64 0, .slice none 0 0, .slice none 0 0] t2)).heap.size ((w.alloc (.cells ls.toArray t1)).alloc (.cells #[.int .i64 0, .slice none 0 0, .slice none 0 0] t2)) w1) :
    DoW w (w1.alloc (.cells cs.toArray t3)) w1.heap.size ls cs := by
  obtain ⟨z1, z2⟩ := two_in hb
  have hb' := hb.alloc hb.size (.cells cs.toArray t3)
  refine ⟨(below2 hb).alloc (Nat.le_of_lt z1) _, z2, by simp, fun i u hi => ?_, fun i u hi => ?_, fun i => ?_, fun i u hi => cell_new w1 (by simpa using hi)⟩
  · exact (hb'.cell (p := ⟨w.heap.size, i, none⟩) (by simp; omega)).trans (cells_two w _ _ _ i u (by simpa using hi))
  · refine (hb'.cell (p := ⟨w.heap.size + 1, i, none⟩) (by simp)).trans ?_
    exact cell_new2 w (.cells ls.toArray t1) trivial (by simpa using hi)
  · rw [hb'.frozen (p := ⟨w.heap.size + 1, i, none⟩) (by simp), frozen?_alloc_cells, frozen?_alloc_cells]
    simp [World.frozen?]

theorem below_set3 {B b : Nat} {a w : World} (h : Below B a w) (hb : B ≤ b) (x y z : Value) : Below B a (((w.setCell ⟨b, 0, none⟩ x).setCell ⟨b, 1, none⟩ y).setCell ⟨b, 2, none⟩ z) :=
  ((h.setCell (p := ⟨b, 0, none⟩) hb x).setCell (p := ⟨b, 1, none⟩) hb y).setCell (p := ⟨b, 2, none⟩) hb z
set_option maxRecDepth 100000 in
set_option maxHeartbeats 2000000 in
theorem do_take_bad (s : Nat → Addr) (k : Nat) (hk : k < 5) (c : Int) (cw : Bool) (p : Option Addr) (len cap : Nat) (mp : Option Addr) (mn mc : Nat) (n : Int) (q : Option Addr) (al cc : Nat) (sq : Option Addr) (sl sc : Nat) (w : World) (hs : HSent w s)
    (HTK : Hid (∀ W, Below w.heap.size w W → Calls Tryd.prog 25 #[.int .i64 n, .slice q al cc] W fun e w' => e = .returned (.tuple #[noCall, rfV s n k]) ∧ Below W.heap.size W w')) :
    Calls Tryd.prog 9 #[.agg #[.int .i64 c, .bool cw, .slice p len cap], .slice mp mn mc, .int .i64 n, .slice q al cc, .slice sq sl sc] w (DoPost 0 [] 0 [] [] (hnum k) w) := by
  have HNM := Lib.hid (fun W hs => hnumber_any s k hk n W hs)
  have HS := Lib.hid hs
  have HPOST : Hid (∀ w', Below w.heap.size w w' → DoPost 0 [] 0 [] [] (hnum k) w (.returned (.tuple #[.int .u64 0, .slice none 0 0, .agg #[.int .i64 0, .slice none 0 0, .slice none 0 0], .int .i64 (hnum k)])) w') := fun w' h => DoPost.bad h
  unfold noCall rfV at HTK
  unfold rfV at HNM
  generalize hnum k = E at *
  clear hs
  go_enter Tryd.func9, Tryd.ntmps9
  go_wp2_with (first
    | (go_at_call 25; refine (HTK.out _ (below3_two w _ _)).mono ?_; rintro e w1 ⟨rfl, hb⟩; have HW1 := Lib.hid (DoW.first (ls := [.int .i64 c, .bool cw, .slice p len cap]) (cs := [.string ⟨#[]⟩, .int .i64 0, .int .i64 0, .int .i64 0, .int .i64 0, .int .i64 0, .slice none 0 0]) (t3 := 74) hb))
    | (go_at_call 27; refine (HNM.out _ (HS.out.below HW1.out.below)).mono ?_; rintro e w2 ⟨rfl, hb2⟩; have HW2 := Lib.hid (HW1.out.next hb2); have r0 := HW2.out.res 0 _ rfl; have r1 := HW2.out.res 1 _ rfl; have r2 := HW2.out.res 2 _ rfl; have fz := HW2.out.fres))
  have HE := HPOST.out _ (below_set3 HW2.out.below (Nat.le_succ _) (.int .i64 0) (.slice none 0 0) (.slice none 0 0))
  refine bodyPost_ret (v := .tuple #[.int .u64 0, .slice none 0 0, .agg #[.int .i64 0, .slice none 0 0, .slice none 0 0], .int .i64 E]) (by simp [results, Tryd.results9, go_sem, r0, r1, r2]) rfl HE
set_option maxRecDepth 100000 in
set_option maxHeartbeats 2000000 in
theorem do_may_bad (s : Nat → Addr) (k : Nat) (hk : k < 5) (c : Int) (cw : Bool) (p : Option Addr) (len cap : Nat) (mp : Option Addr) (mn mc : Nat) (n : Int) (q : Option Addr) (al cc : Nat) (sq : Option Addr) (sl sc : Nat) (nm : ByteArray) (k0 k1 k2 m : Int) (cn : Nat) (w : World) (hs : HSent w s)
    (HTK : Hid (∀ W, Below w.heap.size w W → Calls Tryd.prog 25 #[.int .i64 n, .slice q al cc] W fun e w' => e = .returned (.tuple #[.agg #[.string nm, .int .i64 k0, .int .i64 k1, .int .i64 k2, .int .i64 m, .int .i64 n, .slice q cn cc], .nilIface]) ∧ Below W.heap.size W w'))
    (HMY : Hid (∀ W, Below w.heap.size w W → Calls Tryd.prog 26 #[.agg #[.string nm, .int .i64 k0, .int .i64 k1, .int .i64 k2, .int .i64 m, .int .i64 n, .slice q cn cc], .agg #[.int .i64 c, .bool cw, .slice p len cap], .slice mp mn mc] W fun e w' => e = .returned (rfV s n k) ∧ Below W.heap.size W w')) :
    Calls Tryd.prog 9 #[.agg #[.int .i64 c, .bool cw, .slice p len cap], .slice mp mn mc, .int .i64 n, .slice q al cc, .slice sq sl sc] w (DoPost 0 [] 0 [] [] (hnum k) w) := by
  have HNM := Lib.hid (fun W hs => hnumber_any s k hk n W hs)
  have HS := Lib.hid hs
  have HPOST : Hid (∀ w', Below w.heap.size w w' → DoPost 0 [] 0 [] [] (hnum k) w (.returned (.tuple #[.int .u64 0, .slice none 0 0, .agg #[.int .i64 0, .slice none 0 0, .slice none 0 0], .int .i64 (hnum k)])) w') := fun w' h => DoPost.bad h
  unfold rfV at HNM HMY
  generalize hnum k = E at *
  clear hs
  go_enter Tryd.func9, Tryd.ntmps9
  go_wp2_with (first
    | (go_at_call 25; refine (HTK.out _ (below3_two w _ _)).mono ?_; rintro e w1 ⟨rfl, hb⟩; have HW1 := Lib.hid (DoW.first (ls := [.int .i64 c, .bool cw, .slice p len cap]) (cs := [.string nm, .int .i64 k0, .int .i64 k1, .int .i64 k2, .int .i64 m, .int .i64 n, .slice q cn cc]) (t3 := 74) hb); have l0 := HW1.out.lay 0 _ rfl; have l1 := HW1.out.lay 1 _ rfl; have l2 := HW1.out.lay 2 _ rfl)
    | (go_at_call 26; refine (HMY.out _ HW1.out.below).mono ?_; rintro e w2 ⟨rfl, hb2⟩; have HW2 := Lib.hid (HW1.out.next hb2))
    | (go_at_call 27; refine (HNM.out _ (HS.out.below HW2.out.below)).mono ?_; rintro e w3 ⟨rfl, hb3⟩; have HW3 := Lib.hid (HW2.out.next hb3); have r0 := HW3.out.res 0 _ rfl; have r1 := HW3.out.res 1 _ rfl; have r2 := HW3.out.res 2 _ rfl; have fz := HW3.out.fres))
  have HE := HPOST.out _ (below_set3 HW3.out.below (Nat.le_succ _) (.int .i64 0) (.slice none 0 0) (.slice none 0 0))
  refine bodyPost_ret (v := .tuple #[.int .u64 0, .slice none 0 0, .agg #[.int .i64 0, .slice none 0 0, .slice none 0 0], .int .i64 E]) (by simp [results, Tryd.results9, go_sem, r0, r1, r2]) rfl HE

/-- three cells of a box hold what no word, byte or row is -/
theorem ne3 {W : World} {b : Nat} {a : Addr} {v : Value} (r : ∀ i u, [Value.int .i64 0, .slice none 0 0, .slice none 0 0][i]? = some u → W.cell? ⟨b, i, none⟩ = some u) (h : W.cell? a = some v) (h1 : v ≠ .int .i64 0) (h2 : v ≠ .slice none 0 0) : ∀ i, i < 3 → (⟨b, i, none⟩ : Addr) ≠ a := by
  intro i hi e
  subst e
  match i, hi with
  | 0, _ => exact h1 (Option.some.inj (h.symm.trans (r 0 _ rfl)))
  | 1, _ => exact h2 (Option.some.inj (h.symm.trans (r 1 _ rfl)))
  | 2, _ => exact h2 (Option.some.inj (h.symm.trans (r 2 _ rfl)))
theorem set3_keep {W : World} {b : Nat} {a : Addr} {v : Value} (x y z : Value) (h : W.cell? a = some v) (hn : ∀ i, i < 3 → (⟨b, i, none⟩ : Addr) ≠ a) : (((W.setCell ⟨b, 0, none⟩ x).setCell ⟨b, 1, none⟩ y).setCell ⟨b, 2, none⟩ z).cell? a = some v := by
  rw [World.cell?_setCell_other _ _ _ _ (hn 2 (by omega)), World.cell?_setCell_other _ _ _ _ (hn 1 (by omega)), World.cell?_setCell_other _ _ _ _ (hn 0 (by omega))]
  exact h
theorem set3_other {W : World} {b c i : Nat} {v : Value} (hb : b ≠ c) (h : W.cell? ⟨c, i, none⟩ = some v) (x y z : Value) : (((W.setCell ⟨b, 0, none⟩ x).setCell ⟨b, 1, none⟩ y).setCell ⟨b, 2, none⟩ z).cell? ⟨c, i, none⟩ = some v :=
  set3_keep x y z h (fun _ _ e => hb (congrArg Addr.block e))
theorem set3_size (W : World) (b : Nat) (x y z : Value) : (((W.setCell ⟨b, 0, none⟩ x).setCell ⟨b, 1, none⟩ y).setCell ⟨b, 2, none⟩ z).heap.size = W.heap.size := by simp [World.setCell]
theorem WordsAt.set3 {W : World} {b : Nat} {q : Option Addr} {xs : List Int} (h : WordsAt W q xs) (r : ∀ i u, [Value.int .i64 0, .slice none 0 0, .slice none 0 0][i]? = some u → W.cell? ⟨b, i, none⟩ = some u) (x y z : Value) : WordsAt (((W.setCell ⟨b, 0, none⟩ x).setCell ⟨b, 1, none⟩ y).setCell ⟨b, 2, none⟩ z) q xs :=
  ⟨h.small, fun j hj => by
    obtain ⟨b', off, e, hl, hc⟩ := h.cells j hj
    exact ⟨b', off, e, by rw [set3_size]; exact hl, set3_keep x y z hc (ne3 r hc (by simp) (by simp))⟩, h.bd⟩
theorem RowAt.set3 {W : World} {b : Nat} {q : Option Addr} {xs : List Int} (h : RowAt W q xs) (r : ∀ i u, [Value.int .i64 0, .slice none 0 0, .slice none 0 0][i]? = some u → W.cell? ⟨b, i, none⟩ = some u) (x y z : Value) : RowAt (((W.setCell ⟨b, 0, none⟩ x).setCell ⟨b, 1, none⟩ y).setCell ⟨b, 2, none⟩ z) q xs :=
  ⟨h.small, fun j hj => by
    obtain ⟨b', off, e, hl, hc⟩ := h.cells j hj
    exact ⟨b', off, e, by rw [set3_size]; exact hl, set3_keep x y z hc (ne3 r hc (by simp) (by simp))⟩, h.byte⟩
theorem MemAt.set3 {W : World} {b : Nat} {mp : Option Addr} {Q : Nat → Option Addr} {C : Nat → Nat} {M : List (List Int)} (h : MemAt W mp Q C M) (r : ∀ i u, [Value.int .i64 0, .slice none 0 0, .slice none 0 0][i]? = some u → W.cell? ⟨b, i, none⟩ = some u) (hn : ∀ ad, mp = some ad → b < ad.block) (x y z : Value) : MemAt (((W.setCell ⟨b, 0, none⟩ x).setCell ⟨b, 1, none⟩ y).setCell ⟨b, 2, none⟩ z) mp Q C M :=
  ⟨h.small, h.rsmall, fun i hi => by
    obtain ⟨b', off, e, hl, hc, h2⟩ := h.cells i hi
    exact ⟨b', off, e, by rw [set3_size]; exact hl, set3_keep x y z hc (fun j _ e' => by have := hn _ e; have e2 : b = b' := congrArg Addr.block e'; show False; simp at this; omega), h2⟩,
   fun i j hi hj => by
    obtain ⟨b', off, e, hl, hc⟩ := h.rows i j hi hj
    exact ⟨b', off, e, by rw [set3_size]; exact hl, set3_keep x y z hc (ne3 r hc (by simp) (by simp))⟩, h.byte⟩
set_option maxRecDepth 100000 in
set_option maxHeartbeats 4000000 in
theorem do_fine (c : Int) (cw : Bool) (p : Option Addr) (len cap : Nat) (mp : Option Addr) (mn mc : Nat) (n : Int) (q : Option Addr) (al cc : Nat) (sq : Option Addr) (sl sc : Nat) (nm : ByteArray) (k0 k1 k2 m : Int) (cn : Nat) (x V : Int) (R : List (List Int)) (T D : List Int) (w : World)
    (HTK : Hid (∀ W, Below w.heap.size w W → Calls Tryd.prog 25 #[.int .i64 n, .slice q al cc] W fun e w' => e = .returned (.tuple #[.agg #[.string nm, .int .i64 k0, .int .i64 k1, .int .i64 k2, .int .i64 m, .int .i64 n, .slice q cn cc], .nilIface]) ∧ Below W.heap.size W w'))
    (HMY : Hid (∀ W, Below w.heap.size w W → Calls Tryd.prog 26 #[.agg #[.string nm, .int .i64 k0, .int .i64 k1, .int .i64 k2, .int .i64 m, .int .i64 n, .slice q cn cc], .agg #[.int .i64 c, .bool cw, .slice p len cap], .slice mp mn mc] W fun e w' => e = .returned .nilIface ∧ Below W.heap.size W w'))
    (HFI : Hid (∀ W, Below w.heap.size w W → Calls Tryd.prog 29 #[.slice sq sl sc] W fun e w' => e = .returned (.int .u64 x) ∧ W = w'))
    (HVA : Hid (∀ W, Below w.heap.size w W → Calls Tryd.prog 28 #[.agg #[.string nm, .int .i64 k0, .int .i64 k1, .int .i64 k2, .int .i64 m, .int .i64 n, .slice q cn cc], .int .u64 x] W fun e w' => e = .returned (.int .u64 V) ∧ Below W.heap.size W w'))
    (HAF : Hid (∀ W, Below w.heap.size w W → Calls Tryd.prog 30 #[.agg #[.string nm, .int .i64 k0, .int .i64 k1, .int .i64 k2, .int .i64 m, .int .i64 n, .slice q cn cc], .agg #[.int .i64 c, .bool cw, .slice p len cap], .slice mp mn mc, .int .u64 V] W (MemRet R W)))
    (HTO : Hid (∀ W, Below w.heap.size w W → Calls Tryd.prog 31 #[.agg #[.string nm, .int .i64 k0, .int .i64 k1, .int .i64 k2, .int .i64 m, .int .i64 n, .slice q cn cc], .agg #[.int .i64 c, .bool cw, .slice p len cap], .slice mp mn mc] W (ToldPost n T D W))) :
    Calls Tryd.prog 9 #[.agg #[.int .i64 c, .bool cw, .slice p len cap], .slice mp mn mc, .int .i64 n, .slice q al cc, .slice sq sl sc] w (DoPost V R n T D 0 w) := by
  unfold MemRet at HAF
  unfold ToldPost at HTO
  have HPOST : Hid (∀ mp' mc' Q' C' tq tc dq dc W, Below w.heap.size w W → MemAt W mp' Q' C' R → T.length ≤ tc → WordsAt W tq T → RowAt W dq D → DoPost V R n T D 0 w (.returned (.tuple #[.int .u64 V, .slice mp' R.length mc', .agg #[.int .i64 n, .slice tq T.length tc, .slice dq D.length dc], .int .i64 0])) W) :=
    fun mp' mc' Q' C' tq tc dq dc W h1 h2 h3 h4 h5 => ⟨mp', mc', Q', C', tq, tc, dq, dc, rfl, h1, h2, h3, h4, h5⟩
  generalize DoPost V R n T D 0 w = POST at *
  generalize hRl : R.length = rl at HAF HPOST
  generalize hTl : T.length = tl at HTO HPOST
  generalize hDl : D.length = dl at HTO HPOST
  clear hRl hTl hDl
  go_enter Tryd.func9, Tryd.ntmps9
  go_wp2_with (first
    | (go_at_call 25; refine (HTK.out _ (below3_two w _ _)).mono ?_; rintro e w1 ⟨rfl, hb⟩; have HW1 := Lib.hid (DoW.first (ls := [.int .i64 c, .bool cw, .slice p len cap]) (cs := [.string nm, .int .i64 k0, .int .i64 k1, .int .i64 k2, .int .i64 m, .int .i64 n, .slice q cn cc]) (t3 := 74) hb); have l0 := HW1.out.lay 0 _ rfl; have l1 := HW1.out.lay 1 _ rfl; have l2 := HW1.out.lay 2 _ rfl)
    | (go_at_call 26; refine (HMY.out _ HW1.out.below).mono ?_; rintro e w2 ⟨rfl, hb2⟩; have HW2 := Lib.hid (HW1.out.next hb2); clear l0 l1 l2))
  have f0 := HW2.out.call 0 _ rfl
  have f1 := HW2.out.call 1 _ rfl
  have f2 := HW2.out.call 2 _ rfl
  have f3 := HW2.out.call 3 _ rfl
  have f4 := HW2.out.call 4 _ rfl
  have f5 := HW2.out.call 5 _ rfl
  have f6 := HW2.out.call 6 _ rfl
  go_region_held3 (fun W => W.cell? ⟨w1.heap.size, 0, none⟩ = some (.string nm) ∧ W.cell? ⟨w1.heap.size, 1, none⟩ = some (.int .i64 k0) ∧ W.cell? ⟨w1.heap.size, 2, none⟩ = some (.int .i64 k1) ∧ W.cell? ⟨w1.heap.size, 3, none⟩ = some (.int .i64 k2) ∧ W.cell? ⟨w1.heap.size, 4, none⟩ = some (.int .i64 m) ∧ W.cell? ⟨w1.heap.size, 5, none⟩ = some (.int .i64 n) ∧ W.cell? ⟨w1.heap.size, 6, none⟩ = some (.slice q cn cc)) (go_keep)
    (first
    | (go_at_call 29; refine (HFI.out _ (below_next HW2.out.below (Below.refl _ _).drew)).mono ?_; rintro e w3 ⟨rfl, rfl⟩)
    | (go_at_call 28; refine (HVA.out _ (below_next HW2.out.below (Below.refl _ _).drew)).mono ?_; rintro e w4 ⟨rfl, hb4⟩; have HW4 := Lib.hid (HW2.out.next (of_drew hb4)); have g0 := HW4.out.call 0 _ rfl; have g1 := HW4.out.call 1 _ rfl; have g2 := HW4.out.call 2 _ rfl; have g3 := HW4.out.call 3 _ rfl; have g4 := HW4.out.call 4 _ rfl; have g5 := HW4.out.call 5 _ rfl; have g6 := HW4.out.call 6 _ rfl; clear hb4))
  go_wp2_with fail
  have l0 := HW4.out.lay 0 _ rfl
  have l1 := HW4.out.lay 1 _ rfl
  have l2 := HW4.out.lay 2 _ rfl
  go_region_held3 (fun W => W.cell? ⟨w1.heap.size, 0, none⟩ = some (.string nm) ∧ W.cell? ⟨w1.heap.size, 1, none⟩ = some (.int .i64 k0) ∧ W.cell? ⟨w1.heap.size, 2, none⟩ = some (.int .i64 k1) ∧ W.cell? ⟨w1.heap.size, 3, none⟩ = some (.int .i64 k2) ∧ W.cell? ⟨w1.heap.size, 4, none⟩ = some (.int .i64 m) ∧ W.cell? ⟨w1.heap.size, 5, none⟩ = some (.int .i64 n) ∧ W.cell? ⟨w1.heap.size, 6, none⟩ = some (.slice q cn cc) ∧ W.cell? ⟨w.heap.size, 0, none⟩ = some (.int .i64 c) ∧ W.cell? ⟨w.heap.size, 1, none⟩ = some (.bool cw) ∧ W.cell? ⟨w.heap.size, 2, none⟩ = some (.slice p len cap)) (first | go_keep | with_reducible exact K6)
    (first
    | (go_at_call 30; refine (HAF.out _ (below_next HW4.out.below (Below.refl _ _).drew)).mono ?_; rintro e w5 ⟨mp5, mc5, Q5, C5, rfl, hb5, hm5, hn5⟩; have HW5 := Lib.hid (HW4.out.next (of_drew hb5)); have HM5 := Lib.hid hm5; have HN5 : Hid (∀ ad, mp5 = some ad → w.heap.size + 1 < ad.block) := fun ad e => Nat.lt_of_lt_of_le (Nat.lt_trans HW4.out.le HW4.out.size) (hn5 ad e); have p0 := HW5.out.call 0 _ rfl; have p1 := HW5.out.call 1 _ rfl; have p2 := HW5.out.call 2 _ rfl; have p3 := HW5.out.call 3 _ rfl; have p4 := HW5.out.call 4 _ rfl; have p5 := HW5.out.call 5 _ rfl; have p6 := HW5.out.call 6 _ rfl; have q0 := HW5.out.lay 0 _ rfl; have q1 := HW5.out.lay 1 _ rfl; have q2 := HW5.out.lay 2 _ rfl; clear hb5 hm5 hn5)
    | (go_at_call 31; refine (HTO.out _ HW5.out.below).mono ?_; rintro e w6 ⟨tq, tc, dq, dc, rfl, hb6, ht6, hw6, hd6⟩; have HW6 := Lib.hid (HW5.out.next hb6); have HM6 := Lib.hid (HM5.out.below hb6); have HX6 := Lib.hid (And.intro ht6 (And.intro hw6 hd6)); have s0 := HW6.out.call 0 _ rfl; have s1 := HW6.out.call 1 _ rfl; have s2 := HW6.out.call 2 _ rfl; have s3 := HW6.out.call 3 _ rfl; have s4 := HW6.out.call 4 _ rfl; have s5 := HW6.out.call 5 _ rfl; have s6 := HW6.out.call 6 _ rfl; have t0 := HW6.out.lay 0 _ rfl; have t1 := HW6.out.lay 1 _ rfl; have t2 := HW6.out.lay 2 _ rfl; have r0 := HW6.out.res 0 _ rfl; have r1 := HW6.out.res 1 _ rfl; have r2 := HW6.out.res 2 _ rfl; have fz := HW6.out.fres; have hn1 := Nat.ne_of_lt HW6.out.le; have hn2 : w.heap.size + 1 ≠ w.heap.size := Nat.succ_ne_self _; have K6 := And.intro (set3_other hn1 s0 (.int .i64 n) (.slice tq tl tc) (.slice dq dl dc)) (And.intro (set3_other hn1 s1 (.int .i64 n) (.slice tq tl tc) (.slice dq dl dc)) (And.intro (set3_other hn1 s2 (.int .i64 n) (.slice tq tl tc) (.slice dq dl dc)) (And.intro (set3_other hn1 s3 (.int .i64 n) (.slice tq tl tc) (.slice dq dl dc)) (And.intro (set3_other hn1 s4 (.int .i64 n) (.slice tq tl tc) (.slice dq dl dc)) (And.intro (set3_other hn1 s5 (.int .i64 n) (.slice tq tl tc) (.slice dq dl dc)) (And.intro (set3_other hn1 s6 (.int .i64 n) (.slice tq tl tc) (.slice dq dl dc)) (And.intro (set3_other hn2 t0 (.int .i64 n) (.slice tq tl tc) (.slice dq dl dc)) (And.intro (set3_other hn2 t1 (.int .i64 n) (.slice tq tl tc) (.slice dq dl dc)) (set3_other hn2 t2 (.int .i64 n) (.slice tq tl tc) (.slice dq dl dc)))))))))); clear hb6 ht6 hw6 hd6))
  go_wp2_with fail
  have HE := HPOST.out mp5 mc5 Q5 C5 tq tc dq dc _ (below_set3 HW6.out.below (Nat.le_succ _) (.int .i64 n) (.slice tq tl tc) (.slice dq dl dc)) (HM6.out.set3 HW6.out.res HN5.out _ _ _) HX6.out.1 (HX6.out.2.1.set3 HW6.out.res _ _ _) (HX6.out.2.2.set3 HW6.out.res _ _ _)
  refine bodyPost_ret (v := .tuple #[.int .u64 V, .slice mp5 rl mc5, .agg #[.int .i64 n, .slice tq tl tc, .slice dq dl dc], .int .i64 0]) (by simp [results, Tryd.results9, go_sem, r0, r1, r2]) rfl HE
end Go.Proofs.YthckkdkijajadaaDoor
