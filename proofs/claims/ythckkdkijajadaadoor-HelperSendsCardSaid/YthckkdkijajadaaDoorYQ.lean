/- Contracts of helper.Table and helper.Spans. -/
import Derived.Test.YthckkdkijajadaaDoorMP
namespace Go.Proofs.YthckkdkijajadaaDoor
open Go.RowKit M

/-- a slice of kinds lies in memory -/
structure KindsAt (w : World) (q : Option Addr) (xs : List Int) : Prop where
  small : xs.length ≤ 3
  cells : ∀ j, j < xs.length → ∃ b off, q = some ⟨b, off, none⟩ ∧ b < w.heap.size ∧ w.cell? ⟨b, off + j, none⟩ = some (.int .i64 (xs.getD j 0))
theorem KindsAt.below {w w' : World} {q : Option Addr} {xs : List Int} (h : KindsAt w q xs) (hb : Below w.heap.size w w') : KindsAt w' q xs :=
  ⟨h.small, fun j hj => by
    obtain ⟨b, off, e, hl, hc⟩ := h.cells j hj
    exact ⟨b, off, e, Nat.lt_of_lt_of_le hl hb.size, (hb.cell (p := ⟨b, off + j, none⟩) hl).trans hc⟩⟩
theorem KindsAt.nil (w : World) (q : Option Addr) : KindsAt w q [] := ⟨Nat.zero_le _, fun _ hj => absurd hj (Nat.not_lt_zero _)⟩
theorem kinds_of_owns {w : World} {base c : Nat} {q : Option Addr} {xs : List Int} (hs : xs.length ≤ 3) (h : w.ownsRow base 69 1 (.slice q xs.length c) xs.length (intsV xs)) : KindsAt w q xs := by
  by_cases hn : 0 < xs.length
  · obtain ⟨g, cap, cur, hv, _, hg, _, _, _, hc⟩ := owns_cells h hn
    injection hv with e1 e2 e3
    subst e1
    refine ⟨hs, fun j hj => ⟨g, 0, rfl, hg, ?_⟩⟩
    rw [Nat.zero_add]
    exact hc j _ hj (by simp [intsV, hj])
  · have e : xs = [] := by cases xs; rfl; simp at hn
    subst e
    exact KindsAt.nil w q
theorem kinds_le (n : Int) : (kinds n).length ≤ 3 := by
  rw [kinds_length]; unfold cnt; (repeat' split) <;> omega
/-- a world behind Table's first operations -/
structure TabW (w W : World) (b : Nat) (cs : List Value) : Prop where
  below : Below w.heap.size w W
  le : w.heap.size < b
  size : b < W.heap.size
  res : ∀ i u, [Value.string ⟨#[]⟩, .slice none 0 0, .int .i64 0][i]? = some u → W.cell? ⟨w.heap.size, i, none⟩ = some u
  fres : ∀ i, W.frozen? ⟨w.heap.size, i, none⟩ = false
  sg : ∀ i u, cs[i]? = some u → W.cell? ⟨b, i, none⟩ = some u
theorem TabW.next {w W W' : World} {b : Nat} {cs : List Value} (h : TabW w W b cs) (hb : Below W.heap.size W W') : TabW w W' b cs := by
  have h1 := h.le
  have h2 := h.size
  exact ⟨below_next h.below hb, h.le, Nat.lt_of_lt_of_le h.size hb.size, fun i u hi => (hb.cell (p := ⟨w.heap.size, i, none⟩) (by show w.heap.size < _; omega)).trans (h.res i u hi), fun i => (hb.frozen (p := ⟨w.heap.size, i, none⟩) (by show w.heap.size < _; omega)).trans (h.fres i), fun i u hi => (hb.cell (p := ⟨b, i, none⟩) h2).trans (h.sg i u hi)⟩
theorem TabW.first {w w1 : World} {cs : List Value} {t2 t3 : TypeId} (hb : Below (w.alloc (.cells #[.string ⟨#[]⟩, .slice none 0 0, .int .i64 0] t2)).heap.size (w.alloc (.cells #[.string ⟨#[]⟩, .slice none 0 0, .int .i64 0] t2)) w1) :
    TabW w (w1.alloc (.cells cs.toArray t3)) w1.heap.size cs := by
  have z1 := one_in hb
  have hb' := hb.alloc hb.size (.cells cs.toArray t3)
  refine ⟨(below1 hb).alloc (Nat.le_of_lt z1) _, z1, by simp, fun i u hi => ?_, fun i => ?_, fun i u hi => cell_new w1 (by simpa using hi)⟩
  · exact (hb'.cell (p := ⟨w.heap.size, i, none⟩) (by simp)).trans (cell_new w (by simpa using hi))
  · rw [hb'.frozen (p := ⟨w.heap.size, i, none⟩) (by simp), frozen?_alloc_cells]
    simp [World.frozen?]
/-- what Table answers -/
def TabPost (n : Int) (w : World) (e : Ending) (w' : World) : Prop :=
  ∃ kp kc, e = .returned (.tuple #[.agg #[.string (nmB n), .slice kp (kinds n).length kc, .int .i64 (most n)], .bool (isH n)]) ∧ Below w.heap.size w w' ∧ KindsAt w' kp (kinds n)
set_option maxRecDepth 100000 in
set_option maxHeartbeats 1000000 in
theorem table_no (n : Int) (w : World) (hn : (Lit.int .i64 n).wf = true) (hh : isH n = false) :
    Calls Tryd.prog 11 #[.int .i64 n] w (TabPost n w) := by
  have h15 : ¬ (1 ≤ n ∧ n ≤ 5) := by simpa [isH] using hh
  have e1 : n ≠ 1 := by omega
  have e2 : n ≠ 2 := by omega
  have e3 : n ≠ 3 := by omega
  have e4 : n ≠ 4 := by omega
  have e5 : n ≠ 5 := by omega
  have en : nmB n = ⟨#[]⟩ := by simp [nmB, e1, e2, e3, e4, e5]
  have ek : kinds n = [] := by simp [kinds, cnt, e2, e3, e4, e5]
  have em : most n = 0 := by simp [most, e3, e4]
  have HLK : Hid (∀ {W : World} {b : Nat}, W.ownsMap Tryd.prog 3 selfR b 5 sgMap → _) := fun {W b} h => sg_look (w := W) (b := b) h n hn
  rw [hh] at HLK
  have e0 : sgOf n = sgV (nmB n) (kd n 0) (kd n 1) (kd n 2) (most n) := rfl
  rw [e0] at HLK
  unfold sgV at HLK
  have HPOST : Hid (∀ W, Below w.heap.size w W → TabPost n w (.returned (.tuple #[.agg #[.string ⟨#[]⟩, .slice none 0 0, .int .i64 0], .bool false])) W) := fun W h => ⟨none, 0, by rw [en, ek, em, hh]; rfl, h, by rw [ek]; exact KindsAt.nil _ _⟩
  generalize nmB n = nm at HLK
  generalize kd n 0 = k0 at HLK
  generalize kd n 1 = k1 at HLK
  generalize kd n 2 = k2 at HLK
  generalize most n = m at HLK
  generalize TabPost n w = POST at *
  clear hn hh e0 en ek em e1 e2 e3 e4 e5 h15
  go_enter Tryd.func11, Tryd.ntmps11
  go_wp2_with (go_at_call 33; refine (signatures_any _).mono ?_; rintro e w1 ⟨rfl, hb, hown⟩; have hl := HLK.out hown; rw [World.size_alloc] at hl; obtain ⟨hc, hf⟩ := bcell hb; have z1 := one_in hb; clear hown)
  have HE := HPOST.out _ (below_one (below_set3 (below1 hb) (Nat.le_refl _) (.string ⟨#[]⟩) (.slice none 0 0) (.int .i64 0)) (.cells #[.string nm, .int .i64 k0, .int .i64 k1, .int .i64 k2, .int .i64 m] 72))
  refine bodyPost_ret (v := .tuple #[.agg #[.string ⟨#[]⟩, .slice none 0 0, .int .i64 0], .bool false]) (by simp [results, Tryd.results11, go_sem, hc, z1]) rfl HE
set_option maxRecDepth 100000 in
set_option maxHeartbeats 2000000 in
theorem table_yes (n : Int) (w : World) (hn : (Lit.int .i64 n).wf = true) (hh : isH n = true) :
    Calls Tryd.prog 11 #[.int .i64 n] w (TabPost n w) := by
  have HLK : Hid (∀ {W : World} {b : Nat}, W.ownsMap Tryd.prog 3 selfR b 5 sgMap → _) := fun {W b} h => sg_look (w := W) (b := b) h n hn
  have HAL := Lib.hid (args_any (nmB n) (kd n 0) (kd n 1) (kd n 2) (most n))
  unfold ArgsPost at HAL
  rw [fK_kinds hh] at HAL
  rw [hh] at HLK
  have e0 : sgOf n = sgV (nmB n) (kd n 0) (kd n 1) (kd n 2) (most n) := rfl
  rw [e0] at HLK
  unfold sgV at HLK
  have HPOST : Hid (∀ W kp kc, Below w.heap.size w W → KindsAt W kp (kinds n) → TabPost n w (.returned (.tuple #[.agg #[.string (nmB n), .slice kp (kinds n).length kc, .int .i64 (most n)], .bool true])) W) := fun W kp kc h h2 => ⟨kp, kc, by rw [hh], h, h2⟩
  have hle := kinds_le n
  have HLE := Lib.hid hle
  generalize TabPost n w = POST at *
  generalize kinds n = K at *
  generalize nmB n = nm at *
  generalize kd n 0 = k0 at *
  generalize kd n 1 = k1 at *
  generalize kd n 2 = k2 at *
  generalize most n = m at *
  obtain ⟨kl, hkl⟩ : ∃ kl, K.length = kl := ⟨_, rfl⟩
  have HKL := Lib.hid hkl
  rw [hkl] at HAL HPOST
  clear hn hh e0 hle hkl
  go_enter Tryd.func11, Tryd.ntmps11
  go_wp2_with (go_at_call 33; refine (signatures_any _).mono ?_; rintro e w1 ⟨rfl, hb, hown⟩; have hl := HLK.out hown; rw [World.size_alloc] at hl; have HT := Lib.hid (TabW.first (cs := [.string nm, .int .i64 k0, .int .i64 k1, .int .i64 k2, .int .i64 m]) (t3 := 72) hb); clear hown)
  have a0 := HT.out.sg 0 _ rfl
  have a1 := HT.out.sg 1 _ rfl
  have a2 := HT.out.sg 2 _ rfl
  have a3 := HT.out.sg 3 _ rfl
  have a4 := HT.out.sg 4 _ rfl
  go_region_held3 (fun W => W.cell? ⟨w1.heap.size, 0, none⟩ = some (.string nm) ∧ W.cell? ⟨w1.heap.size, 1, none⟩ = some (.int .i64 k0) ∧ W.cell? ⟨w1.heap.size, 2, none⟩ = some (.int .i64 k1) ∧ W.cell? ⟨w1.heap.size, 3, none⟩ = some (.int .i64 k2) ∧ W.cell? ⟨w1.heap.size, 4, none⟩ = some (.int .i64 m)) (first | go_keep | with_reducible exact K6)
    (first | (go_at_call 34; refine (HAL.out _).mono ?_; rintro e w3 ⟨v3, rfl, hb3, ho3⟩; obtain ⟨kp, kc, rfl⟩ := own_slice ho3; have HT3 := Lib.hid (HT.out.next (of_drew hb3)); have HO3 := Lib.hid ho3; have s0 := HT3.out.sg 0 _ rfl; have s1 := HT3.out.sg 1 _ rfl; have s2 := HT3.out.sg 2 _ rfl; have s3 := HT3.out.sg 3 _ rfl; have s4 := HT3.out.sg 4 _ rfl; have r0 := HT3.out.res 0 _ rfl; have r1 := HT3.out.res 1 _ rfl; have r2 := HT3.out.res 2 _ rfl; have fz := HT3.out.fres; have hn1 := Nat.ne_of_lt HT3.out.le; have K6 := And.intro (set3_other hn1 s0 (.string nm) (.slice kp kl kc) (.int .i64 m)) (And.intro (set3_other hn1 s1 (.string nm) (.slice kp kl kc) (.int .i64 m)) (And.intro (set3_other hn1 s2 (.string nm) (.slice kp kl kc) (.int .i64 m)) (And.intro (set3_other hn1 s3 (.string nm) (.slice kp kl kc) (.int .i64 m)) (set3_other hn1 s4 (.string nm) (.slice kp kl kc) (.int .i64 m))))); clear hb3 ho3))
  go_wp2_with fail
  have hlt := Nat.lt_trans HT.out.le HT.out.size
  have ho := own_setCell (own_setCell (own_setCell HO3.out (a := ⟨w.heap.size, 0, none⟩) hlt (.string nm)) (a := ⟨w.heap.size, 1, none⟩) hlt (.slice kp kl kc)) (a := ⟨w.heap.size, 2, none⟩) hlt (.int .i64 m)
  have hk := kinds_of_owns (xs := K) (c := kc) (q := kp) HLE.out (by rw [HKL.out]; exact ho)
  refine bodyPost_ret (v := .tuple #[.agg #[.string nm, .slice kp kl kc, .int .i64 m], .bool true]) (by simp [results, Tryd.results11, go_sem, r0, r1, r2]) rfl (HPOST.out _ kp kc (below_set3 HT3.out.below (Nat.le_refl _) _ _ _) hk)
theorem table_any (n : Int) (w : World) (hn : (Lit.int .i64 n).wf = true) : Calls Tryd.prog 11 #[.int .i64 n] w (TabPost n w) := by
  cases hh : isH n
  · exact table_no n w hn hh
  · exact table_yes n w hn hh

/-- what Spans answers -/
def spOk (n : Int) (A : List Int) : Bool := isH n && decide (cnt n ≤ A.length)
def spAt (n : Int) (A : List Int) (k : Int) : Int := if spOk n A = true ∧ n = k then A.getD 0 0 else 0
def spN (n : Int) (A : List Int) (k : Int) : Int := if spOk n A = true ∧ n = k then szC (A.getD 1 0) else 0
def SpPost (n : Int) (A : List Int) (w : World) (e : Ending) (w' : World) : Prop :=
  e = .returned (.tuple #[.agg #[.int .u64 (spAt n A 3), .int .i64 (spN n A 3)], .agg #[.int .u64 (spAt n A 4), .int .i64 (spN n A 4)], .bool (spOk n A)]) ∧ Below w.heap.size w w'
/-- a world behind Spans' first operations -/
structure SpW (w W : World) (b : Nat) (cs : List Value) : Prop where
  below : Below w.heap.size w W
  le : w.heap.size + 1 < b
  size : b < W.heap.size
  r0 : ∀ i u, [Value.int .u64 0, .int .i64 0][i]? = some u → W.cell? ⟨w.heap.size, i, none⟩ = some u
  r1 : ∀ i u, [Value.int .u64 0, .int .i64 0][i]? = some u → W.cell? ⟨w.heap.size + 1, i, none⟩ = some u
  f0 : ∀ i, W.frozen? ⟨w.heap.size, i, none⟩ = false
  f1 : ∀ i, W.frozen? ⟨w.heap.size + 1, i, none⟩ = false
  call : ∀ i u, cs[i]? = some u → W.cell? ⟨b, i, none⟩ = some u
theorem SpW.next {w W W' : World} {b : Nat} {cs : List Value} (h : SpW w W b cs) (hb : Below W.heap.size W W') : SpW w W' b cs := by
  have h1 := h.le
  have h2 := h.size
  exact ⟨below_next h.below hb, h.le, Nat.lt_of_lt_of_le h.size hb.size, fun i u hi => (hb.cell (p := ⟨w.heap.size, i, none⟩) (by show w.heap.size < _; omega)).trans (h.r0 i u hi), fun i u hi => (hb.cell (p := ⟨w.heap.size + 1, i, none⟩) (by show w.heap.size + 1 < _; omega)).trans (h.r1 i u hi), fun i => (hb.frozen (p := ⟨w.heap.size, i, none⟩) (by show w.heap.size < _; omega)).trans (h.f0 i), fun i => (hb.frozen (p := ⟨w.heap.size + 1, i, none⟩) (by show w.heap.size + 1 < _; omega)).trans (h.f1 i), fun i u hi => (hb.cell (p := ⟨b, i, none⟩) h2).trans (h.call i u hi)⟩
theorem SpW.first {w w1 : World} {cs : List Value} {t1 t3 : TypeId} (hb : Below ((w.alloc (.cells #[.int .u64 0, .int .i64 0] t1)).alloc (.cells #[.int .u64 0, .int .i64 0] t1)).heap.size ((w.alloc (.cells #[.int .u64 0, .int .i64 0] t1)).alloc (.cells #[.int .u64 0, .int .i64 0] t1)) w1) :
    SpW w (w1.alloc (.cells cs.toArray t3)) w1.heap.size cs := by
  obtain ⟨z1, z2⟩ := two_in hb
  have hb' := hb.alloc hb.size (.cells cs.toArray t3)
  refine ⟨(below2 hb).alloc (Nat.le_of_lt z1) _, z2, by simp, fun i u hi => ?_, fun i u hi => ?_, fun i => ?_, fun i => ?_, fun i u hi => cell_new w1 (by simpa using hi)⟩
  · exact (hb'.cell (p := ⟨w.heap.size, i, none⟩) (by simp; omega)).trans (cells_two w _ _ _ i u (by simpa using hi))
  · refine (hb'.cell (p := ⟨w.heap.size + 1, i, none⟩) (by simp)).trans ?_
    exact cell_new2 w (.cells #[.int .u64 0, .int .i64 0] t1) trivial (by simpa using hi)
  · rw [hb'.frozen (p := ⟨w.heap.size, i, none⟩) (by simp; omega), frozen?_alloc_cells, frozen?_alloc_cells]
    simp [World.frozen?]
  · rw [hb'.frozen (p := ⟨w.heap.size + 1, i, none⟩) (by simp), frozen?_alloc_cells, frozen?_alloc_cells]
    simp [World.frozen?]
theorem sp_cells {w w1 : World} {t1 : TypeId} (hb : Below ((w.alloc (.cells #[.int .u64 0, .int .i64 0] t1)).alloc (.cells #[.int .u64 0, .int .i64 0] t1)).heap.size ((w.alloc (.cells #[.int .u64 0, .int .i64 0] t1)).alloc (.cells #[.int .u64 0, .int .i64 0] t1)) w1) :
    w1.cell? ⟨w.heap.size, 0, none⟩ = some (.int .u64 0) ∧ w1.cell? ⟨w.heap.size, 1, none⟩ = some (.int .i64 0) ∧ w1.cell? ⟨w.heap.size + 1, 0, none⟩ = some (.int .u64 0) ∧ w1.cell? ⟨w.heap.size + 1, 1, none⟩ = some (.int .i64 0) :=
  ⟨(hb.cell (p := ⟨w.heap.size, 0, none⟩) (by simp; omega)).trans (cells_two w _ _ _ 0 _ rfl), (hb.cell (p := ⟨w.heap.size, 1, none⟩) (by simp; omega)).trans (cells_two w _ _ _ 1 _ rfl), (hb.cell (p := ⟨w.heap.size + 1, 0, none⟩) (by simp)).trans (cell_new2 _ _ trivial rfl), (hb.cell (p := ⟨w.heap.size + 1, 1, none⟩) (by simp)).trans (cell_new2 _ _ trivial rfl)⟩
theorem below_set2 {B b : Nat} {a w : World} (h : Below B a w) (hb : B ≤ b) (x y : Value) : Below B a ((w.setCell ⟨b, 0, none⟩ x).setCell ⟨b, 1, none⟩ y) :=
  (h.setCell (p := ⟨b, 0, none⟩) hb x).setCell (p := ⟨b, 1, none⟩) hb y
theorem set2_other {W : World} {b c i : Nat} {v : Value} (hb : b ≠ c) (h : W.cell? ⟨c, i, none⟩ = some v) (x y : Value) : ((W.setCell ⟨b, 0, none⟩ x).setCell ⟨b, 1, none⟩ y).cell? ⟨c, i, none⟩ = some v := by
  rw [World.cell?_setCell_other _ _ _ _ (fun e => hb (congrArg Addr.block e)), World.cell?_setCell_other _ _ _ _ (fun e => hb (congrArg Addr.block e))]
  exact h
set_option maxRecDepth 100000 in
set_option maxHeartbeats 1000000 in
theorem spans_bad (s : Nat → Addr) (k : Nat) (n : Int) (q : Option Addr) (al cc : Nat) (w : World)
    (HTK : Hid (∀ W, Below w.heap.size w W → Calls Tryd.prog 25 #[.int .i64 n, .slice q al cc] W fun e w' => e = .returned (.tuple #[noCall, rfV s n k]) ∧ Below W.heap.size W w')) :
    Calls Tryd.prog 13 #[.int .i64 n, .slice q al cc] w fun e w' => e = .returned (.tuple #[.agg #[.int .u64 0, .int .i64 0], .agg #[.int .u64 0, .int .i64 0], .bool false]) ∧ Below w.heap.size w w' := by
  unfold noCall rfV at HTK
  go_enter Tryd.func13, Tryd.ntmps13
  go_wp2_with (go_at_call 25; refine (HTK.out _ (below3_two w _ _)).mono ?_; rintro e w1 ⟨rfl, hb⟩; obtain ⟨hc, hf⟩ := bcell hb; obtain ⟨z1, z2⟩ := two_in hb)
  obtain ⟨y0, y1, y2, y3⟩ := sp_cells hb
  refine bodyPost_ret (v := .tuple #[.agg #[.int .u64 0, .int .i64 0], .agg #[.int .u64 0, .int .i64 0], .bool false]) (by simp [results, Tryd.results13, go_sem, y0, y1, y2, y3, z1, z2]) rfl ⟨rfl, ?_⟩
  exact below_one (below_set2 (below_set2 (below2 hb) (Nat.le_refl _) _ _) (Nat.le_succ _) _ _) _
set_option maxRecDepth 100000 in
set_option maxHeartbeats 2000000 in
theorem spans_fine (n : Int) (q : Option Addr) (al cc : Nat) (nm : ByteArray) (k0 k1 k2 m : Int) (cn : Nat) (x0 x1 y0 y1 : Int) (w : World)
    (HTK : Hid (∀ W, Below w.heap.size w W → Calls Tryd.prog 25 #[.int .i64 n, .slice q al cc] W fun e w' => e = .returned (.tuple #[.agg #[.string nm, .int .i64 k0, .int .i64 k1, .int .i64 k2, .int .i64 m, .int .i64 n, .slice q cn cc], .nilIface]) ∧ Below W.heap.size W w'))
    (HR : Hid (∀ W, Below w.heap.size w W → Calls Tryd.prog 35 #[.agg #[.string nm, .int .i64 k0, .int .i64 k1, .int .i64 k2, .int .i64 m, .int .i64 n, .slice q cn cc], .int .i64 2] W fun e w' => e = .returned (.agg #[.int .u64 x0, .int .i64 x1]) ∧ Below W.heap.size W w'))
    (HW : Hid (∀ W, Below w.heap.size w W → Calls Tryd.prog 35 #[.agg #[.string nm, .int .i64 k0, .int .i64 k1, .int .i64 k2, .int .i64 m, .int .i64 n, .slice q cn cc], .int .i64 3] W fun e w' => e = .returned (.agg #[.int .u64 y0, .int .i64 y1]) ∧ Below W.heap.size W w')) :
    Calls Tryd.prog 13 #[.int .i64 n, .slice q al cc] w fun e w' => e = .returned (.tuple #[.agg #[.int .u64 x0, .int .i64 x1], .agg #[.int .u64 y0, .int .i64 y1], .bool true]) ∧ Below w.heap.size w w' := by
  go_enter Tryd.func13, Tryd.ntmps13
  go_wp2_with (go_at_call 25; refine (HTK.out _ (below3_two w _ _)).mono ?_; rintro e w1 ⟨rfl, hb⟩; have HW1 := Lib.hid (SpW.first (cs := [.string nm, .int .i64 k0, .int .i64 k1, .int .i64 k2, .int .i64 m, .int .i64 n, .slice q cn cc]) (t3 := 74) hb))
  have f0 := HW1.out.call 0 _ rfl
  have f1 := HW1.out.call 1 _ rfl
  have f2 := HW1.out.call 2 _ rfl
  have f3 := HW1.out.call 3 _ rfl
  have f4 := HW1.out.call 4 _ rfl
  have f5 := HW1.out.call 5 _ rfl
  have f6 := HW1.out.call 6 _ rfl
  have tok1 : True := trivial
  go_region_held3 (fun W => W.cell? ⟨w1.heap.size, 0, none⟩ = some (.string nm) ∧ W.cell? ⟨w1.heap.size, 1, none⟩ = some (.int .i64 k0) ∧ W.cell? ⟨w1.heap.size, 2, none⟩ = some (.int .i64 k1) ∧ W.cell? ⟨w1.heap.size, 3, none⟩ = some (.int .i64 k2) ∧ W.cell? ⟨w1.heap.size, 4, none⟩ = some (.int .i64 m) ∧ W.cell? ⟨w1.heap.size, 5, none⟩ = some (.int .i64 n) ∧ W.cell? ⟨w1.heap.size, 6, none⟩ = some (.slice q cn cc)) (first | go_keep | with_reducible exact K6 | with_reducible exact K7)
    (first
    | (go_at_call 35; have _t := tok1; refine (HR.out _ (below_next HW1.out.below (Below.refl _ _).drew)).mono ?_; rintro e w3 ⟨rfl, hb3⟩; have HW3 := Lib.hid (HW1.out.next (of_drew hb3)); have g0 := HW3.out.call 0 _ rfl; have g1 := HW3.out.call 1 _ rfl; have g2 := HW3.out.call 2 _ rfl; have g3 := HW3.out.call 3 _ rfl; have g4 := HW3.out.call 4 _ rfl; have g5 := HW3.out.call 5 _ rfl; have g6 := HW3.out.call 6 _ rfl; clear hb3 _t tok1)
    | (go_at_call 35; refine (HW.out _ HW3.out.below).mono ?_; rintro e w4 ⟨rfl, hb4⟩; have HW4 := Lib.hid (HW3.out.next hb4); have s0 := HW4.out.call 0 _ rfl; have s1 := HW4.out.call 1 _ rfl; have s2 := HW4.out.call 2 _ rfl; have s3 := HW4.out.call 3 _ rfl; have s4 := HW4.out.call 4 _ rfl; have s5 := HW4.out.call 5 _ rfl; have s6 := HW4.out.call 6 _ rfl; have r0 := HW4.out.r0 0 _ rfl; have r1 := HW4.out.r0 1 _ rfl; have t0 := HW4.out.r1 0 _ rfl; have t1 := HW4.out.r1 1 _ rfl; have fz0 := HW4.out.f0; have fz1 := HW4.out.f1; have hn1 := Nat.ne_of_lt HW4.out.le; have hn0 := Nat.ne_of_lt (Nat.lt_trans (Nat.lt_succ_self _) HW4.out.le); have e0 := set2_other hn0 s0 (.int .u64 x0) (.int .i64 x1); have e1 := set2_other hn0 s1 (.int .u64 x0) (.int .i64 x1); have e2 := set2_other hn0 s2 (.int .u64 x0) (.int .i64 x1); have e3 := set2_other hn0 s3 (.int .u64 x0) (.int .i64 x1); have e4 := set2_other hn0 s4 (.int .u64 x0) (.int .i64 x1); have e5 := set2_other hn0 s5 (.int .u64 x0) (.int .i64 x1); have e6 := set2_other hn0 s6 (.int .u64 x0) (.int .i64 x1); have K6 := And.intro e0 (And.intro e1 (And.intro e2 (And.intro e3 (And.intro e4 (And.intro e5 e6))))); have K7 := And.intro (set2_other hn1 e0 (.int .u64 y0) (.int .i64 y1)) (And.intro (set2_other hn1 e1 (.int .u64 y0) (.int .i64 y1)) (And.intro (set2_other hn1 e2 (.int .u64 y0) (.int .i64 y1)) (And.intro (set2_other hn1 e3 (.int .u64 y0) (.int .i64 y1)) (And.intro (set2_other hn1 e4 (.int .u64 y0) (.int .i64 y1)) (And.intro (set2_other hn1 e5 (.int .u64 y0) (.int .i64 y1)) (set2_other hn1 e6 (.int .u64 y0) (.int .i64 y1))))))); clear hb4 e0 e1 e2 e3 e4 e5 e6))
  go_wp2_with fail
  refine bodyPost_ret (v := .tuple #[.agg #[.int .u64 x0, .int .i64 x1], .agg #[.int .u64 y0, .int .i64 y1], .bool true]) (by simp [results, Tryd.results13, go_sem, r0, r1, t0, t1]) rfl ⟨rfl, ?_⟩
  exact below_set2 (below_set2 HW4.out.below (Nat.le_refl _) _ _) (Nat.le_succ _) _ _
theorem kd_two {n : Int} (h3 : n ≠ 3) : idx3 (kd n 0) (kd n 1) (kd n 2) 2 = -1 := by
  by_cases h2 : n = 2
  · subst h2; decide
  by_cases h4 : n = 4
  · subst h4; decide
  by_cases h5 : n = 5
  · subst h5; decide
  simp only [kd, if_neg h2, if_neg h3, if_neg h4, if_neg h5]
  decide
theorem kd_three {n : Int} (h4 : n ≠ 4) : idx3 (kd n 0) (kd n 1) (kd n 2) 3 = -1 := by
  by_cases h2 : n = 2
  · subst h2; decide
  by_cases h3 : n = 3
  · subst h3; decide
  by_cases h5 : n = 5
  · subst h5; decide
  simp only [kd, if_neg h2, if_neg h3, if_neg h4, if_neg h5]
  decide
theorem spans_any (s : Nat → Addr) (n : Int) (q : Option Addr) (A : List Int) (cc : Nat) (w : World) (hs : HSent w s) (hA : WordsAt w q A) (hcc : A.length ≤ cc) (hn : (Lit.int .i64 n).wf = true) :
    Calls Tryd.prog 13 #[.int .i64 n, .slice q A.length cc] w (SpPost n A w) := by
  unfold SpPost
  cases hh : isH n
  · have e : spOk n A = false := by simp [spOk, hh]
    simp only [spAt, spN, e, Bool.false_eq_true, false_and, if_false]
    exact spans_bad s 0 n q A.length cc w (fun W hb => take_none s n q A.length cc W (hs.below hb) hn hh)
  · by_cases hl : cnt n ≤ A.length
    · have e : spOk n A = true := by simp [spOk, hh, hl]
      simp only [spAt, spN, e, true_and]
      refine spans_fine n q A.length cc (nmB n) (kd n 0) (kd n 1) (kd n 2) (most n) (cnt n) _ _ _ _ w (fun W hb => take_ok n q A.length cc W hn hh hl hcc) (fun W hb => ?_) (fun W hb => ?_)
      · by_cases h3 : n = 3
        · subst h3
          have hl2 : (A.take 2).length = 2 := by have : 2 ≤ A.length := hl; simp; omega
          obtain ⟨b, o, rfl⟩ := words_some hA (by have : 2 ≤ A.length := hl; omega)
          have h := span_pair (nmB 3) 2 4 0 64 3 b o (A.take 2) cc _ _ W ((hA.below hb).take 2) (take2 hl)
          rw [hl2] at h
          exact h
        · rw [if_neg h3, if_neg h3]
          exact span_none _ _ _ _ _ n 2 q (cnt n) cc W (kd_two h3)
      · by_cases h4 : n = 4
        · subst h4
          have hl2 : (A.take 2).length = 2 := by have : 2 ≤ A.length := hl; simp; omega
          obtain ⟨b, o, rfl⟩ := words_some hA (by have : 2 ≤ A.length := hl; omega)
          have h := span_pair (nmB 4) 3 4 0 64 4 b o (A.take 2) cc _ _ W ((hA.below hb).take 2) (take2 hl)
          rw [hl2] at h
          exact h
        · rw [if_neg h4, if_neg h4]
          exact span_none _ _ _ _ _ n 3 q (cnt n) cc W (kd_three h4)
    · have e : spOk n A = false := by simp [spOk, hl]
      simp only [spAt, spN, e, Bool.false_eq_true, false_and, if_false]
      exact spans_bad s 1 n q A.length cc w (fun W hb => take_few s n q A.length cc W (hs.below hb) hn hh (by omega))
end Go.Proofs.YthckkdkijajadaaDoor
