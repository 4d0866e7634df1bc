/- Contracts of bytes.Clone, and of after: the memory as a call leaves it, another one. -/
import Derived.Test.YthckkdkijajadaaDoorMN
import Derived.Test.YthckkdkijajadaaDoorYJ
import Derived.Lib.SliceRun
import Derived.Deep.RegionHeld3

/- Contracts of bytes.Clone, and of after: the memory as a call leaves it, another one. -/
namespace Go.Proofs.YthckkdkijajadaaDoor
open Go.RowKit M

/-- a copy of bytes, in a place of its own -/
def ClonePost (R : List Int) (w : World) (e : Ending) (w' : World) : Prop :=
  ∃ q c, e = .returned (.slice q R.length c) ∧ Below w.heap.size w w' ∧ RowAt w' q R ∧ (R.length ≤ c ∧ c ≤ 9223372036854775807) ∧ ∀ ad, q = some ad → w.heap.size ≤ ad.block
set_option maxRecDepth 100000 in
set_option maxHeartbeats 400000 in
theorem clone_any (q : Option Addr) (R : List Int) (c : Nat) (w : World) (h : RowAt w q R) :
    Calls Tryd.prog 50 #[.slice q R.length c] w (ClonePost R w) := by
  cases q with
  | none =>
    have e : R = [] := by
      cases R with
      | nil => rfl
      | cons y ys => obtain ⟨b, off, e, _⟩ := h.cells 0 (by simp); cases e
    subst e
    have he := fun W => Lib.run_eql_slice_nil (P := Tryd.prog) W 33 5 none 0 c 0 0 Tryd.underlying33
    go_enter Tryd.func50, Tryd.ntmps50
    go_wp2
    go_ret
    exact ⟨none, 0, rfl, Below.refl _ _, RowAt.nil _ _, ⟨Nat.le_refl _, by omega⟩, fun ad e => by cases e⟩
  | some ad =>
    have HP : Hid (∀ g cap w1, w.heap.size ≤ g → RowBlk w1 g R → R.length ≤ cap → cap ≤ 9223372036854775807 → (w.alloc (.cells #[] 5)).grownBy w1 (some w.heap.size) → ClonePost R w (.returned (.slice (some ⟨g, 0, none⟩) R.length cap)) w1) :=
      fun g cap w1 hg hb h1 h2 hgr => ⟨_, cap, rfl, ((Below.refl w.heap.size w).alloc (Nat.le_refl _) (.cells #[] 5)).grown hgr (by simp) (fun k hk => by injection hk with hk; omega), hb.row h.small h.byte, ⟨h1, h2⟩, fun ad e => by injection e with e; subst e; exact hg⟩
    have HROW := Lib.hid h
    obtain ⟨L, hL⟩ : ∃ L, R.length = L := ⟨_, rfl⟩
    have HL := Lib.hid hL
    rw [hL] at HP ⊢
    generalize ClonePost R w = POST at *
    have he := fun W => Lib.run_eql_slice_nil (P := Tryd.prog) W 33 5 (some ad) L c 0 0 Tryd.underlying33
    clear h hL
    go_enter Tryd.func50, Tryd.ntmps50
    go_wp2_with (at_builtin; refine append_row rfl (.tmp 5) (.tmp 6) rfl rfl _ (some ad) R L HL.out c (HROW.out.alloc _) w.heap.size rfl rfl (heap_new w _) ?_)
    intro g1 cap1 w1 hge1 hblk1 hlc1 hc1 hgr1
    have H := HP.out g1 cap1 w1 hge1 hblk1 hlc1 hc1 hgr1
    go_wp2
    exact H

theorem RowAt.setCell {w : World} {q : Option Addr} {xs : List Int} (h : RowAt w q xs) {a : Addr} (ha : ∀ ad, q = some ad → ad.block ≠ a.block) (v : Value) : RowAt (w.setCell a v) q xs :=
  ⟨h.small, fun j hj => by
    obtain ⟨b', off, e, hl, hc'⟩ := h.cells j hj
    exact ⟨b', off, e, by simpa [World.setCell] using hl, (World.cell?_setCell_other _ _ _ _ (fun e' => ha _ e (congrArg Addr.block e').symm) : _ = w.cell? ⟨b', off + j, none⟩).trans hc'⟩, h.byte⟩
/-- the first k rows are copied -/
structure CloneSt (w0 wr : World) (g K k : Nat) (M : List (List Int)) (Q : Nat → Option Addr) (C : Nat → Nat) : Prop where
  below : Below g w0 wr
  row : wr.rowIs g 33 K (fun i => if i < k then .slice (Q i) (M.getD i []).length (C i) else .slice none 0 0)
  rows : ∀ i, i < k → RowAt wr (Q i) (M.getD i []) ∧ ((M.getD i []).length ≤ C i ∧ C i ≤ 9223372036854775807) ∧ ∀ ad, Q i = some ad → g < ad.block
theorem CloneSt.step {w0 wr w1 : World} {g K k : Nat} {M : List (List Int)} {Q : Nat → Option Addr} {C : Nat → Nat} {q : Option Addr} {c : Nat} (h : CloneSt w0 wr g K k M Q C) (hb : Below wr.heap.size wr w1) (hr : RowAt w1 q (M.getD k [])) (hc : (M.getD k []).length ≤ c ∧ c ≤ 9223372036854775807) (hn : ∀ ad, q = some ad → wr.heap.size ≤ ad.block) :
    CloneSt w0 (w1.setCell ⟨g, k, none⟩ (.slice q (M.getD k []).length c)) g K (k + 1) M (fun i => if i = k then q else Q i) (fun i => if i = k then c else C i) := by
  have hlt := h.row.lt
  refine ⟨(h.below.trans (hb.mono (by omega))).setCell (p := ⟨g, k, none⟩) (Nat.le_refl _) _, ((rowIs_below h.row hb hlt).set k _).congr fun i hi => ?_, fun i hi => ?_⟩
  · by_cases h1 : i = k
    · subst h1; simp
    · by_cases h2 : i < k
      · rw [if_neg h1, if_pos h2, if_pos (by omega)]; simp [h1]
      · rw [if_neg h1, if_neg h2, if_neg (by omega)]
  · by_cases h1 : i = k
    · subst h1
      simp only [if_true]
      exact ⟨hr.setCell (fun ad e => by have := hn ad e; show ad.block ≠ g; omega) _, hc, fun ad e => by have := hn ad e; omega⟩
    · obtain ⟨r1, r2, r3⟩ := h.rows i (by omega)
      simp only [if_neg h1]
      exact ⟨(r1.below hb).setCell (fun ad e => by have := r3 ad e; show ad.block ≠ g; omega) _, r2, r3⟩
theorem CloneSt.mem {w0 wr : World} {g : Nat} {M : List (List Int)} {Q : Nat → Option Addr} {C : Nat → Nat} (h : CloneSt w0 wr g M.length M.length M Q C) (hs : M.length ≤ 140737488351232) (hr : ∀ i, (M.getD i []).length ≤ 140737488351232) (hb : ∀ i j, i < M.length → j < (M.getD i []).length → 0 ≤ (M.getD i []).getD j 0 ∧ (M.getD i []).getD j 0 < 256) :
    MemAt wr (some ⟨g, 0, none⟩) Q C M :=
  ⟨hs, hr, fun i hi => ⟨g, 0, rfl, h.row.lt, by rw [Nat.zero_add, h.row.cell hi, if_pos hi], (h.rows i hi).2.1⟩, fun i j hi hj => (h.rows i hi).1.cells j hj, hb⟩
/-- a memory is answered, a new one -/
def MemRet (R : List (List Int)) (w : World) (e : Ending) (w' : World) : Prop :=
  ∃ mp mc Q C, e = .returned (.slice mp R.length mc) ∧ Below w.heap.size w w' ∧ MemAt w' mp Q C R ∧ ∀ ad, mp = some ad → w.heap.size ≤ ad.block
set_option maxRecDepth 100000 in
set_option maxHeartbeats 1000000 in
theorem after_plain (nm : ByteArray) (k0 k1 k2 m n : Int) (q : Option Addr) (cn cc : Nat) (c : Int) (cw : Bool) (p : Option Addr) (len cap : Nat) (mp : Option Addr) (mc : Nat) (Q : Nat → Option Addr) (C : Nat → Nat) (M : List (List Int)) (x : Int) (w : World) (hM : MemAt w mp Q C M) (hK : M.length ≤ 10) (hi : idx3 k0 k1 k2 3 = -1) :
    Calls Tryd.prog 30 #[.agg #[.string nm, .int .i64 k0, .int .i64 k1, .int .i64 k2, .int .i64 m, .int .i64 n, .slice q cn cc], .agg #[.int .i64 c, .bool cw, .slice p len cap], .slice mp M.length mc, .int .u64 x] w (MemRet M w) := by
  have HMM := Lib.hid hM
  have HSP := Lib.hid (fun W => span_none nm k0 k1 k2 m n 3 q cn cc W hi)
  have HPOST : Hid (∀ w0 wr g Q' C', Below w.heap.size w w0 → w.heap.size ≤ g → CloneSt w0 wr g M.length M.length M Q' C' → MemRet M w (.returned (.slice (some ⟨g, 0, none⟩) M.length M.length)) wr) :=
    fun w0 wr g Q' C' hb hg hc => ⟨_, _, Q', C', rfl, hb.trans (hc.below.mono hg), hc.mem hM.small hM.rsmall hM.byte, fun ad e => by injection e with e; subst e; exact hg⟩
  obtain ⟨K, hKK⟩ : ∃ K, M.length = K := ⟨_, rfl⟩
  have HKK := Lib.hid hKK
  rw [hKK] at HPOST hK ⊢
  have hmk := run_make_row' (P := Tryd.prog) 29 33 (.slice none 0 0) 24 Tryd.underlying29 info36 rfl .i64 .i64 K (by omega) (by omega)
  generalize MemRet M w = POST at *
  clear hM hKK hi
  go_enter Tryd.func30, Tryd.ntmps30
  go_wp2_with (go_at_call 35; refine (HSP.out _).mono ?_; rintro e w1 ⟨rfl, hb⟩; have HB1 := Lib.hid (below2 hb))
  clear hmk
  go_loopw [38] (fun i wx => ∃ (k : Nat) (Q' : Nat → Option Addr) (C' : Nat → Nat), k ≤ K ∧ i = .int .i64 k ∧ Hid (CloneSt (w1.alloc (.cells #[.int .u64 0, .int .i64 0] 47)) wx (w1.heap.size + 1) K k M Q' C')) (fun i _ => K - (intOf i).toNat)
  case atStart =>
    exact ⟨0, fun _ => none, fun _ => 0, Nat.zero_le _, rfl, (Below.refl _ _).alloc (by simp) _, (rowIs_made1 w1 _ _ _ _).congr (fun i _ => by simp), fun i hi => absurd hi (Nat.not_lt_zero _)⟩
  case round =>
    obtain ⟨k, Q', C', hk, rfl, HT⟩ := hrel
    have hbw : Below w.heap.size w wr := (HB1.out.alloc HB1.out.size _).trans (HT.out.below.mono (by have := HB1.out.size; omega))
    by_cases hlt : k < K
    · obtain ⟨b', off', rfl, _, c1, _, _⟩ := (HMM.out.below hbw).cells k (by rw [HKK.out]; exact hlt)
      have hrow := (HMM.out.below hbw).row (i := k) (by rw [HKK.out]; exact hlt)
      have hstep := fun w5 q5 c5 h1 h2 h3 h4 => HT.out.step (w1 := w5) (q := q5) (c := c5) h1 h2 h3 h4
      obtain ⟨R, hR⟩ : ∃ R, M.getD k [] = R := ⟨_, rfl⟩
      rw [hR] at c1 hrow hstep
      have HSTEP := Lib.hid hstep
      generalize Q k = q0 at c1 hrow
      generalize C k = qc at c1
      have HCL := Lib.hid (fun W h => clone_any q0 R qc W h)
      unfold ClonePost at HCL
      generalize R.length = L at c1 HCL HSTEP
      have HROW := Lib.hid hrow
      clear hR hrow hstep
      go_wp2_with fail
      refine (HCL.out _ HROW.out).mono ?_
      rintro e w5 ⟨q5, c5, rfl, hb5, hrow5, hc5, hn5⟩
      have HE := Lib.hid (HSTEP.out w5 q5 c5 hb5 hrow5 hc5 hn5)
      have hrw := rowIs_below HT.out.row hb5 HT.out.row.lt
      have d1 := hrw.cell hlt
      have d2 := hrw.frozen k
      rw [if_neg (Nat.lt_irrefl k)] at d1
      clear hb5 hrow5 hrw c1
      go_wp2
      go_roundw
      case rel => exact ⟨k + 1, _, _, by omega, by go_num, HE.out⟩
      case measure => simp [intOf]; omega
    · have hkK : k = K := by omega
      subst hkK
      have H := HPOST.out _ _ _ Q' C' (HB1.out.alloc HB1.out.size _) (by have := HB1.out.size; omega) HT.out
      go_wp2
      exact H
end Go.Proofs.YthckkdkijajadaaDoor

/- Contract of after, of a helper that writes bytes. -/
namespace Go.Proofs.YthckkdkijajadaaDoor
open Go.RowKit M

/-- span where the two words are an argument row's first -/
theorem span_pair (nm : ByteArray) (k0 k1 k2 m n : Int) (b0 o0 : Nat) (A : List Int) (cc : Nat) (a0 a1 : Int) (W : World) (hA : WordsAt W (some ⟨b0, o0, none⟩) A) (hA2 : A = [a0, a1]) :
    Calls Tryd.prog 35 #[.agg #[.string nm, .int .i64 k0, .int .i64 k1, .int .i64 k2, .int .i64 m, .int .i64 n, .slice (some ⟨b0, o0, none⟩) A.length cc], .int .i64 k0] W fun e w' => e = .returned (.agg #[.int .u64 a0, .int .i64 (szC a1)]) ∧ Below W.heap.size W w' := by
  have hd1 := hA.bd 1 (by rw [hA2]; simp)
  rw [show A.getD 1 0 = a1 by rw [hA2]; rfl] at hd1
  obtain ⟨b, off, e, hl, c0⟩ := hA.cells 0 (by rw [hA2]; simp)
  injection e with e
  injection e with e1 e2
  subst e1 e2
  obtain ⟨b, off, e, _, c1⟩ := hA.cells 1 (by rw [hA2]; simp)
  injection e with e
  injection e with e1 e2
  subst e1 e2
  rw [show A.getD 0 0 = a0 by rw [hA2]; rfl, Nat.add_zero] at c0
  rw [show A.getD 1 0 = a1 by rw [hA2]; rfl] at c1
  exact span_at nm k0 k1 k2 m n b0 o0 A.length cc a0 a1 W hl (by rw [hA2]; simp) (by have := hA.small; omega) c0 c1 hd1.1
theorem below3_two (w : World) (o1 o2 : Obj) : Below w.heap.size w ((w.alloc o1).alloc o2) := ((Below.refl _ _).alloc (Nat.le_refl _) _).alloc (by simp) _
theorem lay_in {w w1 : World} {o1 : Obj} {x y z : Value} {t : TypeId} (hb : Below ((w.alloc o1).alloc (.cells #[x, y, z] t)).heap.size ((w.alloc o1).alloc (.cells #[x, y, z] t)) w1) :
    (w.heap.size + 1 < w1.heap.size) ∧ w1.cell? ⟨w.heap.size + 1, 0, none⟩ = some x ∧ w1.cell? ⟨w.heap.size + 1, 1, none⟩ = some y ∧ w1.cell? ⟨w.heap.size + 1, 2, none⟩ = some z :=
  ⟨(two_in hb).2, (hb.cell (p := ⟨w.heap.size + 1, 0, none⟩) (by simp)).trans (cell_new2 _ _ trivial rfl), (hb.cell (p := ⟨w.heap.size + 1, 1, none⟩) (by simp)).trans (cell_new2 _ _ trivial rfl), (hb.cell (p := ⟨w.heap.size + 1, 2, none⟩) (by simp)).trans (cell_new2 _ _ trivial rfl)⟩
/-- five cells that two boxes hold -/
def Five (W : World) (S T : Nat) (x y z u v : Value) : Prop :=
  W.cell? ⟨S, 0, none⟩ = some x ∧ W.cell? ⟨S, 1, none⟩ = some y ∧ W.cell? ⟨S, 2, none⟩ = some z ∧ W.cell? ⟨T, 0, none⟩ = some u ∧ W.cell? ⟨T, 1, none⟩ = some v
theorem Five.next {W W' : World} {S T : Nat} {x y z u v : Value} (h : Five W S T x y z u v) (hb : Below W.heap.size W W') (hS : S < W.heap.size) (hT : T < W.heap.size) : Five W' S T x y z u v :=
  ⟨(hb.cell (p := ⟨S, 0, none⟩) hS).trans h.1, (hb.cell (p := ⟨S, 1, none⟩) hS).trans h.2.1, (hb.cell (p := ⟨S, 2, none⟩) hS).trans h.2.2.1, (hb.cell (p := ⟨T, 0, none⟩) hT).trans h.2.2.2.1, (hb.cell (p := ⟨T, 1, none⟩) hT).trans h.2.2.2.2⟩
theorem Five.start {w1 : World} {S : Nat} {x y z u v : Value} {t : TypeId} (hS : S < w1.heap.size) (h0 : w1.cell? ⟨S, 0, none⟩ = some x) (h1 : w1.cell? ⟨S, 1, none⟩ = some y) (h2 : w1.cell? ⟨S, 2, none⟩ = some z) : Five (w1.alloc (.cells #[u, v] t)) S w1.heap.size x y z u v :=
  have hb := (Below.refl w1.heap.size w1).alloc (Nat.le_refl _) (.cells #[u, v] t)
  ⟨(hb.cell (p := ⟨S, 0, none⟩) hS).trans h0, (hb.cell (p := ⟨S, 1, none⟩) hS).trans h1, (hb.cell (p := ⟨S, 2, none⟩) hS).trans h2, cell_new w1 rfl, cell_new w1 rfl⟩
theorem of_drew {B : Nat} {a b : World} (h : Below B a.drew b) : Below B a b := ⟨h.os, h.tape, h.output, h.size, h.block⟩
theorem below_one {w w1 : World} (h : Below w.heap.size w w1) (o : Obj) : Below w.heap.size w (w1.alloc o) := h.alloc h.size o
set_option maxRecDepth 100000 in
set_option maxHeartbeats 4000000 in
theorem after_write (s : Nat → Addr) (nm : ByteArray) (k1 k2 m n : Int) (b0 o0 : Nat) (A : List Int) (cc : Nat) (c : Int) (cw : Bool) (p : Option Addr) (len cap : Nat) (ms : List Ar) (mp : Option Addr) (mc : Nat) (Q : Nat → Option Addr) (C : Nat → Nat) (M : List (List Int)) (x a0 a1 : Int) (nz : Nat) (w : World) (hs : Sent w s) (hm : MapsAt w p len ms) (hM : MemAt w mp Q C M) (hA : WordsAt w (some ⟨b0, o0, none⟩) A) (hA2 : A = [a0, a1]) (hz : szC a1 = nz) (hz0 : 0 < nz) (hz1 : nz ≤ 64) :
    Calls Tryd.prog 30 #[.agg #[.string nm, .int .i64 3, .int .i64 k1, .int .i64 k2, .int .i64 m, .int .i64 n, .slice (some ⟨b0, o0, none⟩) A.length cc], .agg #[.int .i64 c, .bool cw, .slice p len cap], .slice mp M.length mc, .int .u64 x] w (MemRet (flM c cw ms len M a0 (repL x nz)) w) := by
  have hd0 := hA.bd 0 (by rw [hA2]; simp)
  rw [show A.getD 0 0 = a0 by rw [hA2]; rfl] at hd0
  have HSP := Lib.hid (fun W (hb : Below w.heap.size w W) => span_pair nm 3 k1 k2 m n b0 o0 A cc a0 a1 W (hA.below hb) hA2)
  rw [hz] at HSP
  have HRP := Lib.hid (fun W => repeated_any x nz W (by omega))
  have HFL := Lib.hid (fun W bq (hb : Below w.heap.size w W) hr => fill_new s c cw p len cap ms mp mc Q C M a0 bq (repL x nz) (repL x nz).length W (hs.below hb) (hm.below hb) (hM.below hb) hr hd0)
  have HPOST : Hid (∀ mp' mc' Q' C' w', Below w.heap.size w w' → MemAt w' mp' Q' C' (flM c cw ms len M a0 (repL x nz)) → (∀ ad, mp' = some ad → w.heap.size ≤ ad.block) → MemRet (flM c cw ms len M a0 (repL x nz)) w (.returned (.slice mp' (flM c cw ms len M a0 (repL x nz)).length mc')) w') := fun mp' mc' Q' C' w' hb hm' hn => ⟨mp', mc', Q', C', rfl, hb, hm', hn⟩
  unfold RowOwn at HRP
  unfold MemPostN at HFL
  generalize flM c cw ms len M a0 (repL x nz) = R at *
  generalize accN (rdK c cw ms len M a0 (repL x nz).length true) = E at *
  generalize repL x nz = B at *
  generalize B.length = bl at *
  generalize M.length = mn at *
  generalize A.length = al at *
  generalize MemRet R w = POST at *
  clear hs hm hM hA hA2 hd0 hz
  have hzz : (0 : Int) < (nz : Int) := by omega
  go_enter Tryd.func30, Tryd.ntmps30
  go_wp2_with (go_at_call 35; refine (HSP.out _ (below3_two w _ _)).mono ?_; rintro e w1 ⟨rfl, hb⟩; have HB1 := Lib.hid (below2 hb); obtain ⟨zs, l0, l1, l2⟩ := lay_in hb)
  have hF : Five (w1.alloc (.cells #[.int .u64 a0, .int .i64 nz] 47)) (w.heap.size + 1) w1.heap.size (.int .i64 c) (.bool cw) (.slice p len cap) (.int .u64 a0) (.int .i64 nz) := Five.start zs l0 l1 l2
  have HF := Lib.hid hF
  obtain ⟨k0, k1', k2', k3', k4'⟩ := hF
  have HB2 := Lib.hid (below_one HB1.out (.cells #[.int .u64 a0, .int .i64 nz] 47))
  have zs2 : w.heap.size + 1 < (w1.alloc (.cells #[.int .u64 a0, .int .i64 nz] 47)).heap.size := by simp; omega
  have zs3 : w1.heap.size < (w1.alloc (.cells #[.int .u64 a0, .int .i64 nz] 47)).heap.size := by simp
  clear l0 l1 l2
  generalize w1.alloc (.cells #[.int .u64 a0, .int .i64 nz] 47) = W2 at *
  go_region_held3 (fun W => W.cell? ⟨w.heap.size + 1, 0, none⟩ = some (.int .i64 c) ∧ W.cell? ⟨w.heap.size + 1, 1, none⟩ = some (.bool cw) ∧ W.cell? ⟨w.heap.size + 1, 2, none⟩ = some (.slice p len cap) ∧ W.cell? ⟨w1.heap.size, 0, none⟩ = some (.int .u64 a0) ∧ W.cell? ⟨w1.heap.size, 1, none⟩ = some (.int .i64 nz)) (go_keep)
    (first
    | (go_at_call 49; refine (HRP.out _).mono ?_; rintro e w3 ⟨g, rfl, hb3, hrow⟩; have HB3 := Lib.hid hb3; have HROW := Lib.hid hrow; have HF3 := Lib.hid (HF.out.next (of_drew HB3.out) zs2 zs3); obtain ⟨j0, j1, j2, j3, j4⟩ := HF3.out; clear hb3 hrow)
    | (go_at_call 48; refine (HFL.out _ _ (below_next HB2.out (of_drew HB3.out)) HROW.out).mono ?_; rintro e w4 ⟨mp4, mc4, Q4, C4, rfl, hb4, hm4, hn4, _⟩; have HN4 := Lib.hid (fun ad e => Nat.le_trans (below_next HB2.out (of_drew HB3.out)).size (hn4 ad e)); have HB4 := Lib.hid (below_next (below_next HB2.out (of_drew HB3.out)) hb4); have HM4 := Lib.hid hm4; have zs4 : w.heap.size + 1 < w3.heap.size := Nat.lt_of_lt_of_le zs2 (of_drew HB3.out).size; have zs5 : w1.heap.size < w3.heap.size := Nat.lt_of_lt_of_le zs3 (of_drew HB3.out).size; have HF4 := Lib.hid (HF3.out.next hb4 zs4 zs5); obtain ⟨i0, i1, i2, i3, i4⟩ := HF4.out; clear hb4 hm4 hn4))
  go_wp2_with fail
  exact HPOST.out _ _ _ _ _ HB4.out HM4.out HN4.out
end Go.Proofs.YthckkdkijajadaaDoor
