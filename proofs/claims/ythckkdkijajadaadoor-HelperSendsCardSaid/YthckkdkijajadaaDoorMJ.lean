/- Facts on a copied memory: as a memory of its own, and one of whose bytes is then set. -/
import Derived.Test.YthckkdkijajadaaDoorMI

/- Facts on a copied memory: as a memory of its own, and one of whose bytes is then set. -/
namespace Go.Proofs.YthckkdkijajadaaDoor
open Go.RowKit M

theorem RowBlk.row {w : World} {g : Nat} {xs : List Int} (h : RowBlk w g xs) (hs : xs.length ≤ 140737488351232) (hb : ∀ j, j < xs.length → 0 ≤ xs.getD j 0 ∧ xs.getD j 0 < 256) : RowAt w (some ⟨g, 0, none⟩) xs := by
  obtain ⟨cur, hh, ht⟩ := h
  refine ⟨hs, fun j hj => ⟨g, 0, rfl, (Array.getElem?_eq_some_iff.1 hh).1, ?_⟩, hb⟩
  have e : (cur.toList.take xs.length)[j]? = some (.int .u8 (xs.getD j 0)) := by rw [ht]; simp [bytesV, hj]
  rw [List.getElem?_take_of_lt hj] at e
  simp only [World.cell?, hh, Nat.zero_add]
  simpa using e
theorem RowBlk.setAt {w : World} {g j : Nat} {xs : List Int} {v : Int} (h : RowBlk w g xs) : RowBlk (w.setCell ⟨g, j, none⟩ (.int .u8 v)) g (xs.set j v) := by
  obtain ⟨cur, hh, ht⟩ := h
  refine ⟨_, heap_setCell_same w g j cur 5 _ hh, ?_⟩
  simp only [Array.toList_setIfInBounds, List.length_set, List.take_set, ht, bytesV, List.map_set]
theorem RowBlk.other {w : World} {g : Nat} {a : Addr} {xs : List Int} {v : Value} (h : RowBlk w g xs) (hne : g ≠ a.block) : RowBlk (w.setCell a v) g xs :=
  h.of_block (heap_setCell_other w a g v hne)
theorem RowBlk.frozen {w : World} {g j : Nat} {xs : List Int} (h : RowBlk w g xs) : w.frozen? ⟨g, j, none⟩ = false := by
  obtain ⟨cur, hh, _⟩ := h
  exact frozen_of_row w g j cur 5 hh
theorem RowBlk.cell {w : World} {g j : Nat} {xs : List Int} (h : RowBlk w g xs) (hj : j < xs.length) : w.cell? ⟨g, j, none⟩ = some (.int .u8 (xs.getD j 0)) := by
  obtain ⟨cur, hh, ht⟩ := h
  have e : (cur.toList.take xs.length)[j]? = some (.int .u8 (xs.getD j 0)) := by rw [ht]; simp [bytesV, hj]
  rw [List.getElem?_take_of_lt hj] at e
  simp only [World.cell?, hh]
  simpa using e
theorem Copies.setAt {base : Nat} {w : World} {B C : Nat → Nat} {M : List (List Int)} {K r j : Nat} {v : Int} (h : Copies base w B C M K) (hK : M.length = K) (hr : r < K) :
    Copies base (w.setCell ⟨B r, j, none⟩ (.int .u8 v)) B C (M.set r ((M.getD r []).set j v)) K := by
  subst hK
  refine ⟨fun i hi => ?_, fun i hi => ?_, h.ge, h.inj⟩
  · rw [getD_set hr]
    by_cases e : i = r
    · subst e; rw [if_pos rfl]; exact (h.blk i hi).setAt
    · rw [if_neg e]; exact (h.blk i hi).other (h.inj i r hi hr e)
  · rw [getD_set hr]
    by_cases e : i = r
    · subst e; rw [if_pos rfl, List.length_set]; exact h.cap i hi
    · rw [if_neg e]; exact h.cap i hi
/-- a copy is a memory -/
theorem copies_mem {w : World} {base base2 : Nat} {v : Value} {B C : Nat → Nat} {M M2 : List (List Int)} (hs : M.length ≤ 140737488351232) (hr : ∀ i, (M.getD i []).length ≤ 140737488351232)
    (hb : ∀ i j, i < M.length → j < (M.getD i []).length → 0 ≤ (M.getD i []).getD j 0 ∧ (M.getD i []).getD j 0 < 256) (he : M2.length = M.length ∧ ∀ i, (M2.getD i []).length = (M.getD i []).length)
    (ho : w.ownsRow base 33 1 v M.length ((List.range M.length).map (rowC B C M2))) (hc : Copies base2 w B C M M.length) :
    ∃ mp mc, v = .slice mp M.length mc ∧ MemAt w mp (fun i => some ⟨B i, 0, none⟩) C M := by
  by_cases h0 : M.length = 0
  · obtain rfl : M = [] := List.length_eq_zero_iff.1 h0
    obtain ⟨_, ⟨rfl, _⟩ | ⟨g, cap, cur, rfl, _⟩⟩ := ho
    · exact ⟨_, _, rfl, mem_nil _ _ _ _⟩
    · exact ⟨_, _, rfl, mem_nil _ _ _ _⟩
  · obtain ⟨g, cap, cur, hv, _, hg, _, _, hh, hcells⟩ := owns_cells ho (by omega)
    refine ⟨some ⟨g, 0, none⟩, cap, hv, ⟨hs, hr, fun i hi => ⟨g, 0, rfl, hg, ?_, (hc.cap i hi).1, (hc.cap i hi).2⟩, fun i j hi hj => ?_, hb⟩⟩
    · rw [Nat.zero_add, hcells i (rowC B C M2 i) hi (by simp [hi]), rowC, he.2 i]
    · exact ⟨B i, 0, rfl, (hc.blk i hi).lt, by rw [Nat.zero_add]; exact (hc.blk i hi).cell hj⟩

theorem splice_snoc {xs : List Int} {o k : Nat} {bs : List Int} (hfit : o + bs.length ≤ xs.length) (hk : k < bs.length) :
    splice xs o (bs.take (k + 1)) = (splice xs o (bs.take k)).set (o + k) (bs.getD k 0) := by
  have l1 : (bs.take k).length = k := by simp; omega
  have l2 : (bs.take (k + 1)).length = k + 1 := by simp; omega
  apply List.ext_getElem?
  intro j
  by_cases hj : j < xs.length
  · have s1 : j < (splice xs o (bs.take (k + 1))).length := by simp [splice]; omega
    have s2 : j < ((splice xs o (bs.take k)).set (o + k) (bs.getD k 0)).length := by simp [splice]; omega
    have g1 := splice_getD (xs := xs) (o := o) (bs := bs.take (k + 1)) (j := j) (by omega) hj
    have g2 := splice_getD (xs := xs) (o := o) (bs := bs.take k) (j := j) (by omega) hj
    rw [l2] at g1
    rw [l1] at g2
    have e1 : (splice xs o (bs.take (k + 1)))[j]? = some ((splice xs o (bs.take (k + 1))).getD j 0) := by simp [s1]
    have s3 : j < (splice xs o (bs.take k)).length := by simpa using s2
    have e2 : (splice xs o (bs.take k))[j]? = some ((splice xs o (bs.take k)).getD j 0) := by simp [s3]
    rw [e1, List.getElem?_set, e2, g1, g2]
    by_cases h1 : o + k = j
    · subst h1
      rw [if_pos ⟨by omega, by omega⟩, if_pos rfl, if_pos s3]
      have : o + k - o = k := by omega
      rw [this]
      simp [hk]
    · rw [if_neg h1]
      by_cases h2 : o ≤ j ∧ j < o + k
      · rw [if_pos ⟨h2.1, by omega⟩, if_pos h2]
        simp only [List.getD_eq_getElem?_getD]
        rw [List.getElem?_take_of_lt (by omega), List.getElem?_take_of_lt (by omega)]
      · rw [if_neg (by omega), if_neg h2]
  · rw [List.getElem?_eq_none (by simp [splice]; omega), List.getElem?_eq_none (by simp [splice]; omega)]
theorem fillM_zero (M : List (List Int)) (r o : Nat) : fillM M r o [] = M := by
  unfold fillM
  have : splice (M.getD r []) o [] = M.getD r [] := by simp [splice]
  rw [this]
  apply List.ext_getElem?
  intro i
  rw [List.getElem?_set]
  by_cases h : r = i
  · subst h
    by_cases h2 : r < M.length
    · simp [h2]
    · simp [h2]
  · rw [if_neg h]
theorem fillM_getD {M : List (List Int)} {r o : Nat} {bs : List Int} (hr : r < M.length) (i : Nat) : (fillM M r o bs).getD i [] = if i = r then splice (M.getD r []) o bs else M.getD i [] := getD_set hr
theorem fillM_snoc {M : List (List Int)} {r o k : Nat} {bs : List Int} (hr : r < M.length) (hfit : o + bs.length ≤ (M.getD r []).length) (hk : k < bs.length) :
    fillM M r o (bs.take (k + 1)) = (fillM M r o (bs.take k)).set r (((fillM M r o (bs.take k)).getD r []).set (o + k) (bs.getD k 0)) := by
  rw [fillM_getD hr, if_pos rfl, ← splice_snoc hfit hk]
  simp [fillM, List.set_set]
theorem splice_len {xs : List Int} {o : Nat} {bs : List Int} (hfit : o + bs.length ≤ xs.length) : (splice xs o bs).length = xs.length := by simp [splice]; omega
theorem fillM_len {M : List (List Int)} {r o : Nat} {bs : List Int} (hr : r < M.length) (hfit : o + bs.length ≤ (M.getD r []).length) (i : Nat) : ((fillM M r o bs).getD i []).length = (M.getD i []).length := by
  rw [fillM_getD hr]
  by_cases h : i = r
  · subst h; rw [if_pos rfl]; exact splice_len hfit
  · rw [if_neg h]
theorem fillM_byte {M : List (List Int)} {r o : Nat} {bs : List Int} (hr : r < M.length) (hfit : o + bs.length ≤ (M.getD r []).length)
    (hb : ∀ i j, i < M.length → j < (M.getD i []).length → 0 ≤ (M.getD i []).getD j 0 ∧ (M.getD i []).getD j 0 < 256) (hbs : ∀ j, j < bs.length → 0 ≤ bs.getD j 0 ∧ bs.getD j 0 < 256) :
    ∀ i j, i < (fillM M r o bs).length → j < ((fillM M r o bs).getD i []).length → 0 ≤ ((fillM M r o bs).getD i []).getD j 0 ∧ ((fillM M r o bs).getD i []).getD j 0 < 256 := by
  intro i j hi hj
  rw [fillM_length] at hi
  rw [fillM_len hr hfit] at hj
  rw [fillM_getD hr]
  by_cases h : i = r
  · subst h
    rw [if_pos rfl, splice_getD hfit hj]
    by_cases h2 : o ≤ j ∧ j < o + bs.length
    · rw [if_pos h2]; exact hbs _ (by omega)
    · rw [if_neg h2]; exact hb i j hi hj
  · rw [if_neg h]; exact hb i j hi hj
/-- a row that lies where it lay -/
theorem ownsRow_of_block {base : Nat} {e : TypeId} {size n : Nat} {g c : Nat} {xs : List Value} {w w' : World} (h : w.ownsRow base e size (.slice (some ⟨g, 0, none⟩) n c) n xs) (hg : w'.heap[g]? = w.heap[g]?) : w'.ownsRow base e size (.slice (some ⟨g, 0, none⟩) n c) n xs := by
  obtain ⟨hl, h | ⟨g', cap, cur, hv, hge, hh, r⟩⟩ := h
  · exact ⟨hl, .inl h⟩
  · injection hv with h1 h2 h3
    injection h1 with h1
    injection h1 with h1
    subst h1
    subst h3
    exact ⟨hl, .inr ⟨g, c, cur, rfl, hge, hg.trans hh, r⟩⟩
theorem ownsRow_blk {base : Nat} {e : TypeId} {size n : Nat} {g c : Nat} {xs : List Value} {w : World} (h : w.ownsRow base e size (.slice (some ⟨g, 0, none⟩) n c) n xs) : ∃ cur, w.heap[g]? = some (.cells cur e (0, 0)) := by
  obtain ⟨hl, h | ⟨g', cap, cur, hv, hge, hh, r⟩⟩ := h
  · cases h.1
  · injection hv with h1 h2 h3
    injection h1 with h1
    injection h1 with h1
    subst h1
    exact ⟨cur, hh⟩
theorem blk_ne {w : World} {g b : Nat} {xs : List Int} {cur : Array Value} (hg : w.heap[g]? = some (.cells cur 33 (0, 0))) (h : RowBlk w b xs) : g ≠ b := by
  rintro rfl
  obtain ⟨cur', hh, _⟩ := h
  rw [hg] at hh
  injection hh with hh
  injection hh with _ hh _
  exact absurd hh (by decide)
end Go.Proofs.YthckkdkijajadaaDoor

/- Contracts of the document's own answer: what a memory is behind a fill and a store. -/
namespace Go.Proofs.YthckkdkijajadaaDoor
open Go.RowKit M

/-- a copy into which the first k bytes are laid -/
structure FillSt (w w2 wr : World) (B C : Nat → Nat) (M : List (List Int)) (K r o : Nat) (bs : List Int) (g k : Nat) : Prop where
  below : Below w.heap.size w wr
  blk : wr.heap[g]? = w2.heap[g]?
  cop : Copies w.heap.size wr B C (fillM M r o (bs.take k)) K
theorem Copies.mono {base base2 : Nat} {w : World} {B C : Nat → Nat} {M : List (List Int)} {k : Nat} (h : Copies base w B C M k) (hb : base2 ≤ base) : Copies base2 w B C M k :=
  ⟨h.blk, h.cap, fun i hi => Nat.le_trans hb (h.ge i hi), h.inj⟩
theorem FillSt.next {w w2 wr : World} {B C : Nat → Nat} {M : List (List Int)} {K r o : Nat} {bs : List Int} {g k : Nat} {y : Int} (h : FillSt w w2 wr B C M K r o bs g k) (hK : M.length = K) (hr : r < K) (hfit : o + bs.length ≤ (M.getD r []).length) (hk : k < bs.length) (hy : bs.getD k 0 = y) (hg : g ≠ B r) :
    FillSt w w2 (wr.setCell ⟨B r, o + k, none⟩ (.int .u8 y)) B C M K r o bs g (k + 1) := by
  subst hy
  refine ⟨h.below.setCell (p := ⟨B r, o + k, none⟩) (h.cop.ge r hr) _, (heap_setCell_other _ _ _ _ hg).trans h.blk, ?_⟩
  rw [fillM_snoc (by omega) hfit hk]
  exact h.cop.setAt (by rw [fillM_length]; exact hK) hr
theorem FillSt.drew {w w2 wr : World} {B C : Nat → Nat} {M : List (List Int)} {K r o : Nat} {bs : List Int} {g k : Nat} (h : FillSt w w2 wr B C M K r o bs g k) : FillSt w w2 wr.drew B C M K r o bs g k :=
  ⟨h.below.drew, h.blk, h.cop.to (fun _ _ => rfl)⟩

set_option maxRecDepth 100000 in
set_option maxHeartbeats 1000000 in
theorem rfill_bad (s : Nat → Addr) (c : Int) (cw : Bool) (q : Option Addr) (len cap : Nat) (ms : List Ar) (mp : Option Addr) (mc : Nat) (Q : Nat → Option Addr) (C : Nat → Nat) (M : List (List Int)) (a : Int) (bq : Option Addr) (bn bc : Nat) (w : World) (hs : Sent w s) (hm : MapsAt w q len ms) (hM : MemAt w mp Q C M) (_ : bn ≤ 140737488351232) (ha : 0 ≤ a ∧ a < 18446744073709551616) (k : Nat) (hk : rdK c cw ms len M a bn true = k) (hk4 : k < 4) :
    Calls Tryd.prog 39 #[.agg #[.int .i64 c, .bool cw, .slice q len cap], .slice mp M.length mc, .int .u64 a, .slice bq bn bc] w (MemPost [] (numOf k) w) := by
  have H0 := Lib.hid (LawW.first (c := c) (cw := cw) (cap := cap) hs hm)
  have HM0 := Lib.hid (hM.alloc (.cells #[.int .i64 c, .bool cw, .slice q len cap] 27))
  have HASK := Lib.hid (fun W hs hm hM => asked_any s c cw q len cap ms mp mc Q C M a bn true W hs hm hM ha)
  rw [hk, accN_lt hk4] at HASK
  have hne : (numOf k != 0) = true := by
    have : numOf k ≠ 0 := by unfold numOf; (repeat' split) <;> omega
    simpa using this
  obtain ⟨K, hK⟩ : ∃ K, M.length = K := ⟨_, rfl⟩
  rw [hK] at HASK ⊢
  generalize numOf k = E at *
  clear hs hm hM hK hk ha
  go_enter Tryd.func39, Tryd.ntmps39
  go_wp2_with (go_at_call 42; refine (HASK.out _ H0.out.sent H0.out.maps HM0.out).mono ?_; rintro e w1 ⟨rfl, hb⟩; have H1 := Lib.hid (H0.out.next hb); clear hb)
  go_ret2
  exact MemPost.none H1.out.below
set_option maxRecDepth 100000 in
set_option maxHeartbeats 1000000 in
theorem rfill_badN (s : Nat → Addr) (c : Int) (cw : Bool) (q : Option Addr) (len cap : Nat) (ms : List Ar) (mp : Option Addr) (mc : Nat) (Q : Nat → Option Addr) (C : Nat → Nat) (M : List (List Int)) (a : Int) (bq : Option Addr) (bn bc : Nat) (w : World) (hs : Sent w s) (hm : MapsAt w q len ms) (hM : MemAt w mp Q C M) (_ : bn ≤ 140737488351232) (ha : 0 ≤ a ∧ a < 18446744073709551616) (k : Nat) (hk : rdK c cw ms len M a bn true = k) (hk4 : k < 4) :
    Calls Tryd.prog 39 #[.agg #[.int .i64 c, .bool cw, .slice q len cap], .slice mp M.length mc, .int .u64 a, .slice bq bn bc] w (MemPostN [] (numOf k) w) := by
  have H0 := Lib.hid (LawW.first (c := c) (cw := cw) (cap := cap) hs hm)
  have HM0 := Lib.hid (hM.alloc (.cells #[.int .i64 c, .bool cw, .slice q len cap] 27))
  have HASK := Lib.hid (fun W hs hm hM => asked_any s c cw q len cap ms mp mc Q C M a bn true W hs hm hM ha)
  rw [hk, accN_lt hk4] at HASK
  have hne : (numOf k != 0) = true := by
    have : numOf k ≠ 0 := by unfold numOf; (repeat' split) <;> omega
    simpa using this
  obtain ⟨K, hK⟩ : ∃ K, M.length = K := ⟨_, rfl⟩
  rw [hK] at HASK ⊢
  generalize numOf k = E at *
  clear hs hm hM hK hk ha
  go_enter Tryd.func39, Tryd.ntmps39
  go_wp2_with (go_at_call 42; refine (HASK.out _ H0.out.sent H0.out.maps HM0.out).mono ?_; rintro e w1 ⟨rfl, hb⟩; have H1 := Lib.hid (H0.out.next hb); clear hb)
  go_ret2
  exact MemPostN.none H1.out.below
set_option maxRecDepth 100000 in
set_option maxHeartbeats 2000000 in
theorem rfill_okN (s : Nat → Addr) (c : Int) (cw : Bool) (q : Option Addr) (len cap : Nat) (ms : List Ar) (mp : Option Addr) (mc : Nat) (Q : Nat → Option Addr) (C : Nat → Nat) (M : List (List Int)) (a : Int) (bq : Option Addr) (bs : List Int) (bc : Nat) (w : World) (hs : Sent w s) (hm : MapsAt w q len ms) (hM : MemAt w mp Q C M) (hbs : RowAt w bq bs) (ha : 0 ≤ a ∧ a < 18446744073709551616) (hk : rdK c cw ms len M a bs.length true = 4) :
    Calls Tryd.prog 39 #[.agg #[.int .i64 c, .bool cw, .slice q len cap], .slice mp M.length mc, .int .u64 a, .slice bq bs.length bc] w (MemPostN (fillM M (regOf a - 1).toNat (offOf a).toNat bs) 0 w) := by
  obtain ⟨r, o, nn, hr, ho, hn, hn1, hn2, hrM, hfit, hL⟩ := granted hm.hlen (rdK_ok hk).1 (rdK_ok hk).2
  have hnn : bs.length = nn := by omega
  have hM10 : M.length ≤ 10 := by have := mayB_true (rdK_ok hk).1; have h8 := (okL_parts this.1).2.1; have := hm.hlen; omega
  have HR : regOf a = (r : Int) + 1 := by omega
  have H0 := Lib.hid (LawW.first (c := c) (cw := cw) (cap := cap) hs hm)
  have HM0 := Lib.hid (hM.alloc (.cells #[.int .i64 c, .bool cw, .slice q len cap] 27))
  have HBW := Lib.hid hbs
  have HB0 := Lib.hid (hbs.alloc (.cells #[.int .i64 c, .bool cw, .slice q len cap] 27))
  have HASK := Lib.hid (fun W hs hm hM => asked_any s c cw q len cap ms mp mc Q C M a bs.length true W hs hm hM ha)
  rw [hk, accN_4] at HASK
  have HSP := Lib.hid (fun W => rsplit_any a W ha.1 ha.2)
  rw [HR, ho] at HSP
  have HCP := Lib.hid (fun W hM => copy_any mp mc Q C M W hM (by omega))
  unfold CopyPost at HCP
  have e1 : (regOf a - 1).toNat = r := by omega
  have e2 : (offOf a).toNat = o := by omega
  rw [e1, e2]
  have HEND : Hid (∀ (W W2 : World) (B C2 : Nat → Nat) (g gc : Nat), W2.ownsRow w.heap.size 33 1 (.slice (some ⟨g, 0, none⟩) M.length gc) M.length ((List.range M.length).map (rowC B C2 M)) → FillSt w W2 W B C2 M M.length r o bs g nn → MemPostN (fillM M r o bs) 0 w (.returned (.tuple #[.slice (some ⟨g, 0, none⟩) M.length gc, .int .i64 0])) W) := by
    intro W W2 B C2 g gc ho2 hst
    have hc := hst.cop
    rw [show bs.take nn = bs by rw [← hnn]; simp] at hc
    have ho3 := ownsRow_of_block ho2 hst.blk
    have hl : (fillM M r o bs).length = M.length := fillM_length _ _ _ _
    obtain ⟨mp', mc', hv, hmem⟩ := copies_mem (M2 := M) (by rw [hl]; exact hM.small) (fun i => by rw [fillM_len hrM (by rw [hnn]; exact hfit)]; exact hM.rsmall i) (fillM_byte hrM (by rw [hnn]; exact hfit) hM.byte hbs.byte) ⟨hl.symm, fun i => (fillM_len hrM (by rw [hnn]; exact hfit) i).symm⟩ (by rw [hl]; exact ho3) (by rw [hl]; exact hc)
    refine ⟨mp', mc', _, C2, by rw [hv], hst.below, hmem, fun ad e => ?_, fun i ad hi e => by injection e with e; subst e; rw [hl] at hi; exact hst.cop.ge i hi⟩
    subst e
    injection hv with hv1
    injection hv1 with hv1
    subst hv1
    exact own_ge ho2 g rfl
  obtain ⟨K, hK⟩ : ∃ K, M.length = K := ⟨_, rfl⟩
  have HKK := Lib.hid hK
  rw [hK] at HASK HCP HEND hrM hM10 ⊢
  rw [hnn] at HASK ⊢
  have HFITB : Hid (o + bs.length ≤ (M.getD r []).length) := by show _ ≤ _; rw [hnn]; exact hfit
  have HNN := Lib.hid hnn
  obtain ⟨L, hLL⟩ : ∃ L, (M.getD r []).length = L := ⟨_, rfl⟩
  rw [hLL] at hfit hL
  have HLL := Lib.hid hLL
  clear hs hm hM hbs ha hk hr ho hn hnn HR e1 e2 hK hLL
  go_enter Tryd.func39, Tryd.ntmps39
  go_wp2_with (first
    | (go_at_call 42; refine (HASK.out _ H0.out.sent H0.out.maps HM0.out).mono ?_; rintro e w1 ⟨rfl, hb⟩; have H1 := Lib.hid (H0.out.next hb); have HM1 := Lib.hid (HM0.out.below hb); have HB1 := Lib.hid (HB0.out.below hb); clear hb)
    | (go_at_call 43; refine (HSP.out _).mono ?_; rintro e w' ⟨rfl, rfl⟩)
    | (go_at_call 16; refine (HCP.out _ HM1.out).mono ?_; rintro e w2 ⟨v, B, C2, rfl, hb, hown, hcop⟩; obtain ⟨g, gc, cur, rfl, hge, hgl, hgc, hgc2, hgh, hcells⟩ := owns_cells hown (by omega); have H2 := Lib.hid (H1.out.next hb); have HB2 := Lib.hid (HB1.out.below hb); have HOWN := Lib.hid hown; have HCOP := Lib.hid (hcop.mono H1.out.below.size); have HCUR := Lib.hid hgh; have HCELL := Lib.hid (hcells r _ hrM (by simp [hrM]; rfl)); clear hb hown hcop hge hgh hcells))
  have HOW2 := Lib.hid (show w2.ownsRow w.heap.size 33 1 (.slice (some ⟨g, 0, none⟩) K gc) K ((List.range K).map (rowC B C2 M)) from by
    obtain ⟨x1, x2 | ⟨g', cap', cur', y1, y2, y3⟩⟩ := HOWN.out
    · exact ⟨x1, .inl x2⟩
    · exact ⟨x1, .inr ⟨g', cap', cur', y1, Nat.le_trans H1.out.below.size y2, y3⟩⟩)
  go_loopw [14] (fun i wr => ∃ k : Nat, k ≤ nn ∧ i = .int .i64 k ∧ Hid (FillSt w w2 wr B C2 M K r o bs g k)) (fun i _ => nn - (intOf i).toNat)
  case atStart => exact ⟨0, Nat.zero_le _, rfl, H2.out.below, rfl, by rw [List.take_zero, fillM_zero]; exact HCOP.out⟩
  case round =>
    obtain ⟨k, hk, rfl, HST⟩ := hrel
    by_cases hlt : k < nn
    · obtain ⟨bb, boff, rfl, hbl, gb⟩ := (HBW.out.below HST.out.below).cells k (by rw [HNN.out]; exact hlt)
      have hby := HBW.out.byte k (by rw [HNN.out]; exact hlt)
      obtain ⟨y, hy⟩ : ∃ y, bs.getD k 0 = y := ⟨_, rfl⟩
      rw [hy] at gb hby
      have gg : wr.cell? ⟨g, r, none⟩ = some (.slice (some ⟨B r, 0, none⟩) L (C2 r)) := by
        have := HCELL.out
        simp only [World.cell?] at this ⊢
        rw [HST.out.blk, this, rowC, HLL.out]
      have HNE := Lib.hid (blk_ne (HST.out.blk.trans HCUR.out) (HST.out.cop.blk r hrM))
      have hlen2 : ((fillM M r o (bs.take k)).getD r []).length = L := by
        rw [fillM_len (by rw [HKK.out]; exact hrM) (Nat.le_trans (Nat.add_le_add_left (List.length_take_le' _ _) _) HFITB.out), HLL.out]
      have gt := (HST.out.cop.blk r hrM).cell (j := o + k) (by rw [hlen2]; omega)
      have gf := (HST.out.cop.blk r hrM).frozen (j := o + k)
      obtain ⟨z, hz⟩ : ∃ z, ((fillM M r o (bs.take k)).getD r []).getD (o + k) 0 = z := ⟨_, rfl⟩
      rw [hz] at gt
      have HNX := Lib.hid (fun W (h : FillSt w w2 W B C2 M K r o bs g k) => FillSt.next (y := y) h HKK.out hrM HFITB.out (by rw [HNN.out]; exact hlt) hy HNE.out)
      generalize C2 r = Cr at gg
      obtain ⟨Br, hBr⟩ : ∃ Br, B r = Br := ⟨_, rfl⟩
      rw [hBr] at gg gt gf HNX
      clear hy hz hBr hlen2
      have wsum : IntKind.i64.wrap ((o : Int) + k) = (o : Int) + k := IntWalk.i64_in _ (by omega)
      have wsum0 : 0 ≤ (o : Int) + k := by omega
      have wsum2 : ((o : Int) + k).toNat = o + k := by omega
      have wr1 : IntKind.i64.wrap ((r : Int) + 1 - 1) = r := by rw [show (r : Int) + 1 - 1 = r by omega]; exact IntWalk.i64_in _ (by omega)
      have wr2 : IntKind.i64.wrap (r : Int) = r := IntWalk.i64_in _ (by omega)
      go_wp2_with fail
      go_region
      all_goals
        go_wp2
        go_roundw
        case rel => exact ⟨k + 1, by omega, by go_num, HNX.out _ HST.out.drew⟩
        case measure => simp [intOf]; omega
    · have hkn : k = nn := by omega
      subst hkn
      go_wp2
      go_ret2
      exact HEND.out _ _ _ _ _ _ HOW2.out HST.out
theorem rfill_ok (s : Nat → Addr) (c : Int) (cw : Bool) (q : Option Addr) (len cap : Nat) (ms : List Ar) (mp : Option Addr) (mc : Nat) (Q : Nat → Option Addr) (C : Nat → Nat) (M : List (List Int)) (a : Int) (bq : Option Addr) (bs : List Int) (bc : Nat) (w : World) (hs : Sent w s) (hm : MapsAt w q len ms) (hM : MemAt w mp Q C M) (hbs : RowAt w bq bs) (ha : 0 ≤ a ∧ a < 18446744073709551616) (hk : rdK c cw ms len M a bs.length true = 4) :
    Calls Tryd.prog 39 #[.agg #[.int .i64 c, .bool cw, .slice q len cap], .slice mp M.length mc, .int .u64 a, .slice bq bs.length bc] w (MemPost (fillM M (regOf a - 1).toNat (offOf a).toNat bs) 0 w) :=
  (rfill_okN s c cw q len cap ms mp mc Q C M a bq bs bc w hs hm hM hbs ha hk).mono fun _ _ h => h.old
end Go.Proofs.YthckkdkijajadaaDoor

/- Contracts of the document's own answer: what a memory is behind a fill and a store, all ways under one head. -/
namespace Go.Proofs.YthckkdkijajadaaDoor
open Go.RowKit M

theorem rfill_any (s : Nat → Addr) (c : Int) (cw : Bool) (q : Option Addr) (len cap : Nat) (ms : List Ar) (mp : Option Addr) (mc : Nat) (Q : Nat → Option Addr) (C : Nat → Nat) (M : List (List Int)) (a : Int) (bq : Option Addr) (bs : List Int) (bc : Nat) (w : World) (hs : Sent w s) (hm : MapsAt w q len ms) (hM : MemAt w mp Q C M) (hbs : RowAt w bq bs) (ha : 0 ≤ a ∧ a < 18446744073709551616) :
    Calls Tryd.prog 39 #[.agg #[.int .i64 c, .bool cw, .slice q len cap], .slice mp M.length mc, .int .u64 a, .slice bq bs.length bc] w
      (MemPost (flM c cw ms len M a bs) (accN (rdK c cw ms len M a bs.length true)) w) := by
  have hle := rdK_le c cw ms len M a bs.length true
  by_cases h4 : rdK c cw ms len M a bs.length true = 4
  · have e1 : flM c cw ms len M a bs = fillM M (regOf a - 1).toNat (offOf a).toNat bs := by simp [flM, h4]
    rw [h4, accN_4, e1]
    exact rfill_ok s c cw q len cap ms mp mc Q C M a bq bs bc w hs hm hM hbs ha h4
  · have e1 : flM c cw ms len M a bs = [] := by simp [flM, h4]
    rw [e1, accN_lt (by omega)]
    exact rfill_bad s c cw q len cap ms mp mc Q C M a bq bs.length bc w hs hm hM hbs.small ha _ rfl (by omega)

theorem rfill_new (s : Nat → Addr) (c : Int) (cw : Bool) (q : Option Addr) (len cap : Nat) (ms : List Ar) (mp : Option Addr) (mc : Nat) (Q : Nat → Option Addr) (C : Nat → Nat) (M : List (List Int)) (a : Int) (bq : Option Addr) (bs : List Int) (bc : Nat) (w : World) (hs : Sent w s) (hm : MapsAt w q len ms) (hM : MemAt w mp Q C M) (hbs : RowAt w bq bs) (ha : 0 ≤ a ∧ a < 18446744073709551616) :
    Calls Tryd.prog 39 #[.agg #[.int .i64 c, .bool cw, .slice q len cap], .slice mp M.length mc, .int .u64 a, .slice bq bs.length bc] w
      (MemPostN (flM c cw ms len M a bs) (accN (rdK c cw ms len M a bs.length true)) w) := by
  have hle := rdK_le c cw ms len M a bs.length true
  by_cases h4 : rdK c cw ms len M a bs.length true = 4
  · have e1 : flM c cw ms len M a bs = fillM M (regOf a - 1).toNat (offOf a).toNat bs := by simp [flM, h4]
    rw [h4, accN_4, e1]
    exact rfill_okN s c cw q len cap ms mp mc Q C M a bq bs bc w hs hm hM hbs ha h4
  · have e1 : flM c cw ms len M a bs = [] := by simp [flM, h4]
    rw [e1, accN_lt (by omega)]
    exact rfill_badN s c cw q len cap ms mp mc Q C M a bq bs.length bc w hs hm hM hbs.small ha _ rfl (by omega)

end Go.Proofs.YthckkdkijajadaaDoor
