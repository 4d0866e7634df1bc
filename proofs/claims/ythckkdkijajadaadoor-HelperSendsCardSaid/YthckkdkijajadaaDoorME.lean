/- Contracts of Put, on both sides: the bytes of a number. -/
import Derived.Test.YthckkdkijajadaaDoorMD
import Derived.Deep.RegionLaw

/- Contracts of Put, on both sides: the bytes of a number. -/
namespace Go.Proofs.YthckkdkijajadaaDoor
open Go.RowKit M

def putB (x : Int) (j : Nat) : Int := x / 2 ^ (8 * j) % 256
def putL (x : Int) (n : Nat) : List Int := (List.range n).map (putB x)
theorem putL_length (x : Int) (n : Nat) : (putL x n).length = n := by simp [putL]
theorem putL_getD (x : Int) {n j : Nat} (h : j < n) : (putL x n).getD j 0 = putB x j := by simp [putL, h]
theorem putB_bd (x : Int) (j : Nat) : 0 ≤ putB x j ∧ putB x j < 256 := by unfold putB; omega
def putRow (x : Int) (k j : Nat) : Value := .int .u8 (if j < k then putB x j else 0)
set_option maxHeartbeats 400000 in
theorem put_no (x n : Int) (w : World) (hz : isSize n = false) :
    Calls Tryd.prog 60 #[.int .u64 x, .int .i64 n] w fun e w' => e = .returned (.slice none 0 0) ∧ w = w' := by
  have HZ := Lib.hid hz
  clear hz
  go_enter Tryd.func60, Tryd.ntmps60
  go_wp2_with (go_at_call 67; refine (size_is _ _ HZ.out).mono ?_; rintro e w1 ⟨rfl, rfl⟩)
  go_ret
  exact ⟨rfl, rfl⟩
theorem slice94_1 (b : Nat) (w : World) : (Instr.sliceAt 143 (.pointer (some ⟨b, 0, none⟩)) none (some (.int .i64 1)) (some (.int .i64 1))).run Tryd.prog w = .ok (.slice (some ⟨b, 0, none⟩) 1 1) w := by kernel_rfl
theorem slice94_2 (b : Nat) (w : World) : (Instr.sliceAt 143 (.pointer (some ⟨b, 0, none⟩)) none (some (.int .i64 2)) (some (.int .i64 2))).run Tryd.prog w = .ok (.slice (some ⟨b, 0, none⟩) 2 2) w := by kernel_rfl
theorem slice94_4 (b : Nat) (w : World) : (Instr.sliceAt 143 (.pointer (some ⟨b, 0, none⟩)) none (some (.int .i64 4)) (some (.int .i64 4))).run Tryd.prog w = .ok (.slice (some ⟨b, 0, none⟩) 4 4) w := by kernel_rfl
theorem slice94_8 (b : Nat) (w : World) : (Instr.sliceAt 143 (.pointer (some ⟨b, 0, none⟩)) none (some (.int .i64 8)) (some (.int .i64 8))).run Tryd.prog w = .ok (.slice (some ⟨b, 0, none⟩) 8 8) w := by kernel_rfl
theorem isSize_of {n : Nat} (h : isSize (n : Int) = true) : n = 1 ∨ n = 2 ∨ n = 4 ∨ n = 8 := by
  simp [isSize] at h; omega
theorem slice94 (n : Nat) (hz : isSize (n : Int) = true) (b : Nat) (w : World) : (Instr.sliceAt 143 (.pointer (some ⟨b, 0, none⟩)) none (some (.int .i64 n)) (some (.int .i64 n))).run Tryd.prog w = .ok (.slice (some ⟨b, 0, none⟩) n n) w := by
  rcases isSize_of hz with rfl | rfl | rfl | rfl
  · exact slice94_1 b w
  · exact slice94_2 b w
  · exact slice94_4 b w
  · exact slice94_8 b w
def PutPost (x : Int) (n : Nat) (w : World) (e : Ending) (w' : World) : Prop :=
  ∃ g cap, e = .returned (.slice (some ⟨g, 0, none⟩) (putL x n).length cap) ∧ Below w.heap.size w w' ∧ RowAt w' (some ⟨g, 0, none⟩) (putL x n)
theorem put_row {w wr : World} {x : Int} {n : Nat} {t : TypeId} (hn : n ≤ 8) (h : wr.rowIs w.heap.size t 8 (putRow x 8)) : RowAt wr (some ⟨w.heap.size, 0, none⟩) (putL x n) :=
  ⟨by rw [putL_length]; omega, fun j hj => by
    rw [putL_length] at hj
    refine ⟨_, _, rfl, h.lt, ?_⟩
    rw [putL_getD x hj, Nat.zero_add, h.cell (i := j) (by omega)]
    simp only [putRow]
    rw [if_pos (by omega)],
   fun j hj => by
    rw [putL_length] at hj
    rw [putL_getD x hj]
    exact putB_bd x j⟩
set_option maxRecDepth 100000 in
set_option maxHeartbeats 400000 in
theorem put_yes (x : Int) (n : Nat) (w : World) (hz : isSize n = true) (hn : n ≤ 8) :
    Calls Tryd.prog 60 #[.int .u64 x, .int .i64 n] w (PutPost x n w) := by
  have HP : Hid (∀ wr, Below w.heap.size w wr → wr.rowIs w.heap.size 143 8 (putRow x 8) → ∀ cap, PutPost x n w (.returned (.slice (some ⟨w.heap.size, 0, none⟩) n cap)) wr) :=
    fun wr hb hr cap => ⟨_, cap, by rw [putL_length], hb, put_row hn hr⟩
  have HZ := Lib.hid hz
  clear hz
  go_enter Tryd.func60, Tryd.ntmps60
  go_wp2_with (go_at_call 67; refine (size_is _ _ HZ.out).mono ?_; rintro e w1 ⟨rfl, rfl⟩)
  go_loopw [10] (fun i wr => ∃ k : Nat, k ≤ 8 ∧ i = .int .i64 k ∧ Below w.heap.size w wr ∧ wr.rowIs w.heap.size 143 8 (putRow x k)) (fun i _ => 8 - (intOf i).toNat)
  case atStart =>
    refine ⟨0, Nat.zero_le _, rfl, (Below.refl _ _).alloc (Nat.le_refl _) _, World.rowIs_alloc w #[.int .u8 0, .int .u8 0, .int .u8 0, .int .u8 0, .int .u8 0, .int .u8 0, .int .u8 0, .int .u8 0] 143 (putRow x 0) ?_⟩
    intro i hi
    have : i < 8 := hi
    match i, this with
    | 0, _ => rfl
    | 1, _ => rfl
    | 2, _ => rfl
    | 3, _ => rfl
    | 4, _ => rfl
    | 5, _ => rfl
    | 6, _ => rfl
    | 7, _ => rfl
  case round =>
    obtain ⟨k, hk, rfl, hb, hrow⟩ := hrel
    by_cases hlt : k < 8
    · have d1 := hrow.cell hlt
      have d2 := hrow.frozen k
      have HR := Lib.hid hrow
      clear hrow
      obtain ⟨Y, hY⟩ : ∃ Y, putRow x k k = Y := ⟨_, rfl⟩
      rw [hY] at d1
      clear hY
      go_wp2
      go_roundw
      case rel =>
        refine ⟨k + 1, by omega, by go_num, hb.setCell (p := ⟨w.heap.size, k, none⟩) (Nat.le_refl _) _, (HR.out.set k _).congr fun i hi => ?_⟩
        simp only [putRow]
        by_cases h1 : i = k
        · subst h1; simp [putB]
        · by_cases h2 : i < k
          · rw [if_neg h1, if_pos h2, if_pos (by omega)]
          · rw [if_neg h1, if_neg h2, if_neg (by omega)]
      case measure => simp [intOf]; omega
    · have hk8 : k = 8 := by omega
      subst hk8
      have HR := Lib.hid hrow
      have hsl := slice94 n HZ.out
      clear hrow
      go_wp2
      go_ret
      exact HP.out _ hb HR.out _

theorem putL_snoc (x : Int) (k : Nat) : bytesV (putL x (k + 1)) = bytesV (putL x k) ++ [.int .u8 (x / 2 ^ (8 * k) % 256)] := by
  simp [bytesV, putL, List.range_succ, putB]
theorem row_of_owns {w : World} {base : Nat} {v : Value} {xs : List Int} (hn : 0 < xs.length) (hs : xs.length ≤ 140737488351232) (hb : ∀ j, j < xs.length → 0 ≤ xs.getD j 0 ∧ xs.getD j 0 < 256) (h : w.ownsRow base 5 1 v xs.length (bytesV xs)) :
    ∃ g cap, v = .slice (some ⟨g, 0, none⟩) xs.length cap ∧ RowAt w (some ⟨g, 0, none⟩) xs := by
  obtain ⟨g, cap, cur, hv, _, hg, _, _, _, hc⟩ := owns_cells h hn
  refine ⟨g, cap, hv, hs, fun j hj => ⟨g, 0, rfl, hg, ?_⟩, hb⟩
  rw [Nat.zero_add]
  exact hc j _ hj (by simp [bytesV, hj])
end Go.Proofs.YthckkdkijajadaaDoor

/- Facts on a memory that a call copies row by row, and one of whose rows it then writes. -/
namespace Go.Proofs.YthckkdkijajadaaDoor
open Go.RowKit M

/-- one block holds something else; all else is as it was -/
structure OneRow (w w' : World) (g : Nat) (o : Obj) : Prop where
  os : w'.os = w.os
  tape : w'.tape = w.tape
  output : w'.output = w.output
  size : w'.heap.size = w.heap.size
  other : ∀ k, k ≠ g → w'.heap[k]? = w.heap[k]?
  row : w'.heap[g]? = some o
theorem OneRow.below {w0 w w' : World} {B g : Nat} {o : Obj} (h : OneRow w w' g o) (hb : Below B w0 w) (hg : B ≤ g) : Below B w0 w' :=
  hb.trans ⟨h.os, h.tape, h.output, Nat.le_of_eq h.size.symm, fun k hk => h.other k (by omega)⟩
theorem oneRow_set {w : World} {g : Nat} {cur : Array Value} {t : TypeId} (cs : Array Value) (h : w.heap[g]? = some (.cells cur t (0, 0))) : OneRow w (w.setRow g cs) g (.cells cs t (0, 0)) :=
  ⟨rfl, rfl, rfl, by simp [World.setRow], fun k hk => setRow_other w g k cs hk, setRow_heap w g _ _ t _ h⟩

/-- copy into a row of the call's own, said whole. -/
theorem step_copy_one {P : Program} {ops : Array Oper} {o : Oper} {a : Act} {w : World} {K : Act → World → Prop} {Q : Exit → Act → World → Prop} {E : Prop} (hgd : o.guard = none) (d s : Operand) (dT sT : TypeId)
    (ho : o.op = .call { callee := .builtin .copy, args := #[d, s], argTypes := #[dT, sT] }) (elem : TypeId) (hu : P.underlying dT = some (.slice elem)) (hsz : (P.info? elem).map (·.size) = some 1)
    (g off dLen dCap : Nat) (ad : Addr) (sLen sCap : Nat) (hd : a.eval d = .slice (some ⟨g, off, none⟩) dLen dCap) (hs : a.eval s = .slice (some ad) sLen sCap)
    (cur : List Value) (t : TypeId) (hg : w.heap[g]? = some (.cells cur.toArray t (0, 0))) (cs : List Value) (hn : cs.length = Nat.min sLen dLen)
    (hsrc : ∀ j v, cs[j]? = some v → w.cell? (ad.add j) = some v)
    (hfit : off + cs.length ≤ cur.length) (h1 : ∀ v ∈ cs, v.oneCell' = true)
    (h : ∀ w', OneRow w w' g (.cells (splice cur off cs).toArray t (0, 0)) → K (a.put o.dst (goInt cs.length)) w') :
    if Region.wanted o (yielded ops a.tmps) = true then Oper.wp P o a w K Q else E := by
  have hw : Region.wanted o (yielded ops a.tmps) = true := by simp [Region.wanted, hgd]
  rw [if_pos hw]
  have hrun := run_copy_row (P := P) w dT sT o.type elem g off dLen dCap ad sLen sCap cur.toArray t cs hu hsz hg hn hsrc (by simpa using hfit) h1
  unfold Oper.wp
  simp [execOp, ho, resolve, invoke, builtin, hd, hs, hrun, Result.andThen]
  exact h _ (by simpa [splice] using oneRow_set _ hg)

theorem bytesV_splice (xs : List Int) (o : Nat) (bs : List Int) : splice (bytesV xs) o (bytesV bs) = bytesV (splice xs o bs) := by
  simp [splice, bytesV]
/-- the memory with bytes at an offset of a row -/
def fillM (M : List (List Int)) (r o : Nat) (bs : List Int) : List (List Int) := M.set r (splice (M.getD r []) o bs)

/-- the first k rows are copied, each into a block of its own -/
structure Twins (w0 wr : World) (g K k : Nat) (M : List (List Int)) (B : Nat → Nat) : Prop where
  below : Below g w0 wr
  row : wr.rowIs g 33 K (fun j => if j < k then .slice (some ⟨B j, 0, none⟩) (M.getD j []).length (M.getD j []).length else .slice none 0 0)
  blk : ∀ j, j < k → wr.heap[B j]? = some (.cells (bytesV (M.getD j [])).toArray 5 (0, 0))
  gt : ∀ j, j < k → g < B j
  inj : ∀ i j, i < k → j < k → i ≠ j → B i ≠ B j
theorem Twins.snoc {w0 wr w5 : World} {g K k : Nat} {M : List (List Int)} {B : Nat → Nat} (h : Twins w0 wr g K k M B) (hb : Below wr.heap.size wr w5) (hn : w5.heap[wr.heap.size]? = some (.cells (bytesV (M.getD k [])).toArray 5 (0, 0))) :
    Twins w0 (w5.setCell ⟨g, k, none⟩ (.slice (some ⟨wr.heap.size, 0, none⟩) (M.getD k []).length (M.getD k []).length)) g K (k + 1) M (upd B k wr.heap.size) := by
  have hg : g < wr.heap.size := h.row.lt
  have hB : ∀ j, j < k → B j < wr.heap.size := fun j hj => (Array.getElem?_eq_some_iff.1 (h.blk j hj)).1
  refine ⟨(h.below.trans (hb.mono (Nat.le_of_lt hg))).setCell (p := ⟨g, k, none⟩) (Nat.le_refl _) _, ((rowIs_below h.row hb hg).set k _).congr fun j _ => ?_, fun j hj => ?_, fun j hj => ?_, fun i j hi hj hne => ?_⟩
  · by_cases e : j = k
    · subst e; simp [upd]
    · by_cases e2 : j < k
      · rw [if_neg e, if_pos e2, if_pos (by omega)]; simp [upd, e]
      · rw [if_neg e, if_neg e2, if_neg (by omega)]
  · by_cases e : j = k
    · subst e
      have : upd B j wr.heap.size j = wr.heap.size := by simp [upd]
      rw [this, Below.heap_setCell _ _ _ _ (by show wr.heap.size ≠ g; omega)]
      exact hn
    · have hj' : j < k := by omega
      have : upd B k wr.heap.size j = B j := by simp [upd, e]
      rw [this, Below.heap_setCell _ _ _ _ (by have := h.gt j hj'; show B j ≠ g; omega), hb.block _ (hB j hj')]
      exact h.blk j hj'
  · by_cases e : j = k
    · subst e; simpa [upd] using hg
    · have := h.gt j (by omega)
      simpa [upd, e] using this
  · by_cases e : i = k
    · by_cases e2 : j = k
      · omega
      · have := hB j (by omega)
        simp [upd, e, e2]; omega
    · by_cases e2 : j = k
      · have := hB i (by omega)
        simp [upd, e, e2]; omega
      · have := h.inj i j (by omega) (by omega) hne
        simpa [upd, e, e2] using this
theorem getD_set {M : List (List Int)} {r i : Nat} {x : List Int} (hr : r < M.length) : (M.set r x).getD i [] = if i = r then x else M.getD i [] := by
  by_cases h : i = r
  · subst h; simp [hr]
  · rw [if_neg h]
    simp [List.getElem?_set_ne (Ne.symm h)]
theorem splice_getD {xs : List Int} {o : Nat} {bs : List Int} {j : Nat} (hfit : o + bs.length ≤ xs.length) (hj : j < xs.length) :
    (splice xs o bs).getD j 0 = if o ≤ j ∧ j < o + bs.length then bs.getD (j - o) 0 else xs.getD j 0 := by
  unfold splice
  simp only [List.getD_eq_getElem?_getD]
  by_cases e1 : j < o
  · rw [if_neg (by omega), List.getElem?_append_left (by simp; omega), List.getElem?_take_of_lt e1]
  · by_cases e2 : j < o + bs.length
    · rw [if_pos (by omega), List.getElem?_append_right (by simp; omega), List.getElem?_append_left (by simp; omega)]
      congr 2
      simp; omega
    · rw [if_neg (by omega), List.getElem?_append_right (by simp; omega), List.getElem?_append_right (by simp; omega), List.getElem?_drop]
      congr 2
      simp; omega
/-- all rows copied, one of them written: a memory -/
theorem Twins.mem {w0 wr w' : World} {g : Nat} {M : List (List Int)} {B : Nat → Nat} (h : Twins w0 wr g M.length M.length M B) {r o : Nat} {bs : List Int} (hr : r < M.length) (hfit : o + bs.length ≤ (M.getD r []).length)
    (hbM : ∀ i j, i < M.length → j < (M.getD i []).length → 0 ≤ (M.getD i []).getD j 0 ∧ (M.getD i []).getD j 0 < 256) (hbb : ∀ j, j < bs.length → 0 ≤ bs.getD j 0 ∧ bs.getD j 0 < 256)
    (hs : M.length ≤ 140737488351232) (hrs : ∀ i, (M.getD i []).length ≤ 140737488351232)
    (ho : OneRow wr w' (B r) (.cells (bytesV (splice (M.getD r []) o bs)).toArray 5 (0, 0))) :
    MemAt w' (some ⟨g, 0, none⟩) (fun i => some ⟨B i, 0, none⟩) (fun i => (M.getD i []).length) (fillM M r o bs) := by
  have hl : (fillM M r o bs).length = M.length := by simp [fillM]
  have hsl : (splice (M.getD r []) o bs).length = (M.getD r []).length := length_splice _ _ _ hfit
  have hrow : ∀ i, ((fillM M r o bs).getD i []) = if i = r then splice (M.getD r []) o bs else M.getD i [] := fun i => getD_set hr
  have hrl : ∀ i, ((fillM M r o bs).getD i []).length = (M.getD i []).length := fun i => by
    rw [hrow i]
    by_cases e : i = r
    · subst e; rw [if_pos rfl]; exact hsl
    · rw [if_neg e]
  have hblk : ∀ i, i < M.length → w'.heap[B i]? = some (.cells (bytesV ((fillM M r o bs).getD i [])).toArray 5 (0, 0)) := fun i hi => by
    rw [hrow i]
    by_cases e : i = r
    · subst e; rw [if_pos rfl]; exact ho.row
    · rw [if_neg e, ho.other _ (h.inj i r hi hr e)]; exact h.blk i hi
  have hbyte : ∀ i j, i < M.length → j < (M.getD i []).length → 0 ≤ ((fillM M r o bs).getD i []).getD j 0 ∧ ((fillM M r o bs).getD i []).getD j 0 < 256 := fun i j hi hj => by
    rw [hrow i]
    by_cases e : i = r
    · subst e
      rw [if_pos rfl]
      rw [splice_getD hfit hj]
      by_cases e1 : o ≤ j ∧ j < o + bs.length
      · rw [if_pos e1]; exact hbb _ (by omega)
      · rw [if_neg e1]; exact hbM i j hi hj
    · rw [if_neg e]; exact hbM i j hi hj
  refine ⟨by rw [hl]; exact hs, fun i => by rw [hrl i]; exact hrs i, fun i hi => ?_, fun i j hi hj => ?_, fun i j hi hj => ?_⟩
  · rw [hl] at hi
    have hgt := h.gt r hr
    have hc := (h.row.of_block (w' := w') (ho.other g (by omega))).cell hi
    rw [if_pos hi] at hc
    refine ⟨g, 0, rfl, ?_, ?_, by rw [hrl i]; exact Nat.le_refl _, Nat.le_trans (hrs i) (by omega)⟩
    · rw [ho.size]; exact h.row.lt
    · rw [Nat.zero_add, hrl i]; exact hc
  · rw [hl] at hi
    have hb := hblk i hi
    refine ⟨B i, 0, rfl, (Array.getElem?_eq_some_iff.1 hb).1, ?_⟩
    generalize (fillM M r o bs).getD i [] = R at hb hj ⊢
    simp only [World.cell?, hb, Nat.zero_add]
    simp [bytesV, hj]
  · rw [hl] at hi
    rw [hrl i] at hj
    exact hbyte i j hi hj
end Go.Proofs.YthckkdkijajadaaDoor

/- Contracts of write: another memory with bytes at a span, or why there is none. -/
namespace Go.Proofs.YthckkdkijajadaaDoor
open Go.RowKit M

set_option maxHeartbeats 1000000 in
theorem write_stray (s : Nat → Addr) (c : Int) (cw : Bool) (p : Option Addr) (len cap : Nat) (ms : List Ar) (mp : Option Addr) (mc : Nat) (Q : Nat → Option Addr) (C : Nat → Nat) (M : List (List Int)) (a : Int) (bq : Option Addr) (bn bc : Nat) (w : World) (hs : Sent w s) (hm : MapsAt w p len ms) (hM : MemAt w mp Q C M)
    (hmay : mayB c ms len M = false) :
    Calls Tryd.prog 59 #[.agg #[.int .i64 c, .bool cw, .slice p len cap], .slice mp M.length mc, .int .u64 a, .slice bq bn bc] w fun e w' =>
      e = .returned (.tuple #[.slice none 0 0, flt s a bn 0]) ∧ Below w.heap.size w w' := by
  have HM := Lib.hid hm
  have HMM := Lib.hid hM
  have HS := Lib.hid hs
  have HMAY := Lib.hid hmay
  have HMAYC := Lib.hid (may_is (v := false) c cw p len cap ms mp mc Q C M)
  obtain ⟨K, hKK⟩ : ∃ K, M.length = K := ⟨_, rfl⟩
  rw [hKK] at HMAYC ⊢
  clear hm hM hs hmay hKK
  go_enter Tryd.func59, Tryd.ntmps59
  go_wp2_with (go_at_call 46; refine (HMAYC.out _ ((HM.out.alloc _).alloc _) ((HMM.out.alloc _).alloc _) HMAY.out).mono ?_; rintro e w1 ⟨rfl, hb⟩; obtain ⟨hc, hf⟩ := bcell hb; obtain ⟨z1, z2⟩ := two_in hb; have G := HS.out.glob1 0 (G := 8) rfl (by omega); have G1 : w1.cell? ⟨8, 0, none⟩ = _ := (HS.out.below (below2 hb)).glob 0 (by omega))
  go_region
  all_goals
    go_wp2
    go_ret2
    exact ⟨rfl, (below2 hb).drew⟩

set_option maxHeartbeats 1000000 in
theorem write_err (s : Nat → Addr) (c : Int) (cw : Bool) (p : Option Addr) (len cap : Nat) (ms : List Ar) (mp : Option Addr) (mc : Nat) (Q : Nat → Option Addr) (C : Nat → Nat) (M : List (List Int)) (a : Int) (bq : Option Addr) (bn bc : Nat) (w : World) (hs : Sent w s) (hm : MapsAt w p len ms) (hM : MemAt w mp Q C M)
    (ha : 0 ≤ a ∧ a < 18446744073709551616) (hmay : mayB c ms len M = true) (k : Nat) (hk : findK c cw ms len a bn true = k) (hk4 : k < 4) :
    Calls Tryd.prog 59 #[.agg #[.int .i64 c, .bool cw, .slice p len cap], .slice mp M.length mc, .int .u64 a, .slice bq bn bc] w fun e w' =>
      e = .returned (.tuple #[.slice none 0 0, flt s a bn k]) ∧ Below w.heap.size w w' := by
  have HM := Lib.hid hm
  have HMM := Lib.hid hM
  have HS := Lib.hid hs
  have HMAY := Lib.hid hmay
  have HA := Lib.hid ha
  have HK := Lib.hid hk
  have HMAYC := Lib.hid (may_is (v := true) c cw p len cap ms mp mc Q C M)
  obtain ⟨K, hKK⟩ : ∃ K, M.length = K := ⟨_, rfl⟩
  rw [hKK] at HMAYC ⊢
  clear hm hM hs hmay hKK ha hk
  go_enter Tryd.func59, Tryd.ntmps59
  go_wp2_with (first
    | (go_at_call 46; refine (HMAYC.out _ ((HM.out.alloc _).alloc _) ((HMM.out.alloc _).alloc _) HMAY.out).mono ?_; rintro e w1 ⟨rfl, hb⟩; obtain ⟨hc, hf⟩ := bcell hb; obtain ⟨z1, z2⟩ := two_in hb)
    | (go_at_call 53; refine (find_err s _ _ _ _ _ ms _ _ _ _ (HS.out.below (below2 hb)) (HM.out.below (below2 hb)) HA.out k HK.out hk4).mono ?_; rintro e w2 ⟨rfl, hb2⟩))
  go_ret2
  exact ⟨rfl, (below_next (below2 hb) hb2).alloc (below_next (below2 hb) hb2).size _⟩

theorem oneRow_drew {w w' : World} {g : Nat} {o : Obj} (h : OneRow w.drew w' g o) : OneRow w w' g o := ⟨h.os, h.tape, h.output, h.size, h.other, h.row⟩
def WritePost (M : List (List Int)) (a : Int) (bs : List Int) (w : World) (e : Ending) (w' : World) : Prop :=
  ∃ g Q C, e = .returned (.tuple #[.slice (some ⟨g, 0, none⟩) M.length M.length, .nilIface]) ∧ Below w.heap.size w w' ∧ MemAt w' (some ⟨g, 0, none⟩) Q C (fillM M (regOf a - 1).toNat (offOf a).toNat bs)
/-- the same, and the memory is new -/
def WritePostN (M : List (List Int)) (a : Int) (bs : List Int) (w : World) (e : Ending) (w' : World) : Prop :=
  ∃ g Q C, e = .returned (.tuple #[.slice (some ⟨g, 0, none⟩) M.length M.length, .nilIface]) ∧ Below w.heap.size w w' ∧ MemAt w' (some ⟨g, 0, none⟩) Q C (fillM M (regOf a - 1).toNat (offOf a).toNat bs) ∧ w.heap.size ≤ g ∧ ∀ i ad, i < M.length → Q i = some ad → w.heap.size ≤ ad.block
set_option maxRecDepth 100000 in
set_option maxHeartbeats 2000000 in
theorem write_okN (s : Nat → Addr) (c : Int) (cw : Bool) (p : Option Addr) (len cap : Nat) (ms : List Ar) (mp : Option Addr) (mc : Nat) (Q : Nat → Option Addr) (C : Nat → Nat) (M : List (List Int)) (a : Int) (bq : Option Addr) (bs : List Int) (bc : Nat) (w : World) (hs : Sent w s) (hm : MapsAt w p len ms) (hM : MemAt w mp Q C M)
    (hbs : RowAt w bq bs) (ha : 0 ≤ a ∧ a < 18446744073709551616) (hmay : mayB c ms len M = true) (hk : findK c cw ms len a bs.length true = 4) :
    Calls Tryd.prog 59 #[.agg #[.int .i64 c, .bool cw, .slice p len cap], .slice mp M.length mc, .int .u64 a, .slice bq bs.length bc] w (WritePostN M a bs w) := by
  obtain ⟨r, o, nn, hr, ho, hn, hn1, hn2, hrM, hfit, hL⟩ := granted hm.hlen hmay hk
  have hnn : bs.length = nn := by omega
  obtain ⟨b, off, hmp, hbl, _, _, _⟩ := hM.cells r hrM
  obtain ⟨b3, off3, hbq, _, _⟩ := hbs.cells 0 (by omega)
  obtain ⟨g1, g2, g3⟩ := mayB_true hmay
  have hK10 : M.length ≤ 10 := by have := (okL_parts g1).2.1; have := hm.hlen; omega
  have HM := Lib.hid hm
  have HMM := Lib.hid hM
  have HS := Lib.hid hs
  have HMAY := Lib.hid hmay
  have HA := Lib.hid ha
  have HBS := Lib.hid hbs
  have HF := Lib.hid (find_fine s c cw p len cap ms a bs.length true)
  have HK := Lib.hid hk
  have HMAYC := Lib.hid (may_is (v := true) c cw p len cap ms mp mc Q C M)
  have HPOST : Hid (∀ (g : Nat) (B : Nat → Nat) (w3 wr w' : World), Below w.heap.size w w3 → w.heap.size ≤ g → Twins w3 wr g M.length M.length M B → OneRow wr w' (B r) (.cells (bytesV (splice (M.getD r []) o bs)).toArray 5 (0, 0)) →
      WritePostN M a bs w (.returned (.tuple #[.slice (some ⟨g, 0, none⟩) M.length M.length, .nilIface])) w') := by
    intro g B w3 wr w' h3 hg ht ho'
    refine ⟨g, fun i => some ⟨B i, 0, none⟩, fun i => (M.getD i []).length, rfl, ?_, ?_, hg, fun i ad hi e => by injection e with e; subst e; have := ht.gt i hi; show w.heap.size ≤ B i; omega⟩
    · exact ho'.below (h3.trans (ht.below.mono hg)) (by have := ht.gt r hrM; omega)
    · rw [hr, ho]
      simpa using ht.mem hrM (by rw [hnn]; exact hfit) hM.byte hbs.byte hM.small hM.rsmall ho'
  obtain ⟨K, hKK⟩ : ∃ K, M.length = K := ⟨_, rfl⟩
  have HKK := Lib.hid hKK
  rw [hKK] at HMAYC HPOST hrM hK10 ⊢
  rw [hnn] at HF HK ⊢
  rw [hr, ho] at HF
  subst hmp hbq
  have hmk := run_make_row' (P := Tryd.prog) 29 33 (.slice none 0 0) 24 Tryd.underlying29 info36 rfl .i64 .i64 K (by omega) (by omega)
  have HNN := Lib.hid hnn
  have HFIT := Lib.hid hfit
  have HLL := Lib.hid hL
  clear hm hM hs hmay ha hk hr ho hbs hKK hn hnn g1 g2 g3 hfit hL
  go_enter Tryd.func59, Tryd.ntmps59
  go_wp2_with (first
    | (go_at_call 46; refine (HMAYC.out _ ((HM.out.alloc _).alloc _) ((HMM.out.alloc _).alloc _) HMAY.out).mono ?_; rintro e w1 ⟨rfl, hb⟩; obtain ⟨hc, hf⟩ := bcell hb; obtain ⟨z1, z2⟩ := two_in hb)
    | (go_at_call 53; refine (HF.out _ (HS.out.below (below2 hb)) (HM.out.below (below2 hb)) HA.out HK.out).mono ?_; rintro e w2 ⟨rfl, hb2⟩; obtain ⟨hc2, hf2⟩ := bcell hb2; have hb12 := below_next (below2 hb) hb2))
  have hb3 : Hid (∀ o, Below w.heap.size w (w2.alloc o)) := fun o => hb12.alloc hb12.size o
  have hspan : Hid (∀ o, (w2.alloc o).cell? ⟨w.heap.size + 1, 1, none⟩ = some (.int .i64 nn)) := fun o => by
    rw [((Below.refl w2.heap.size w2).alloc (Nat.le_refl _) o).cell (p := ⟨w.heap.size + 1, 1, none⟩) (by show w.heap.size + 1 < _; exact Nat.lt_of_lt_of_le z2 hb2.size), hc2 _ _ z2, hc _ _ (by simp)]
    exact cell_new2 _ _ trivial rfl
  have hsz2 := hb12.size
  clear hc hf hc2 hf2 hb hb2 z1 z2 hb12 hmk
  go_loopw [41] (fun i wr => ∃ (k : Nat) (B : Nat → Nat), k ≤ K ∧ i = .int .i64 k ∧ Hid (Twins (w2.alloc (.cells #[.int .i64 r, .int .i64 o] 114)) wr (w2.heap.size + 1) K k M B)) (fun i _ => K - (intOf i).toNat)
  case atStart =>
    refine ⟨0, fun _ => 0, Nat.zero_le _, rfl, (Below.refl _ _).alloc (by simp) _, (rowIs_made1 w2 _ _ _ _).congr (fun i _ => by simp), fun j hj => absurd hj (Nat.not_lt_zero _), fun j hj => absurd hj (Nat.not_lt_zero _), fun i j hi => absurd hi (Nat.not_lt_zero _)⟩
  case round =>
    obtain ⟨k, B, hk, rfl, HT⟩ := hrel
    have hbw : Below w.heap.size w wr := (hb3.out _).trans (HT.out.below.mono (by omega))
    by_cases hlt : k < K
    · obtain ⟨b', off', e, _, c1, _, _⟩ := (HMM.out.below hbw).cells k (by rw [HKK.out]; exact hlt)
      injection e with e
      injection e with e1 e2
      subst e1 e2
      have hrow := (HMM.out.below hbw).row (i := k) (by rw [HKK.out]; exact hlt)
      obtain ⟨R, hR⟩ : ∃ R, M.getD k [] = R := ⟨_, rfl⟩
      have hRs := hrow.small
      rw [hR] at c1 hrow hRs
      generalize Q k = q at c1 hrow
      generalize C k = qc at c1
      have HR := Lib.hid hR
      have HROW := Lib.hid hrow
      clear hR hrow
      go_wp2_with fail
      refine (twin_any _ _ _ _ HROW.out).mono ?_
      rintro e w5 ⟨rfl, hb5, hblk⟩
      have HB5 := Lib.hid hb5
      have HBLK := Lib.hid hblk
      have hrow5 := rowIs_below HT.out.row hb5 HT.out.row.lt
      have d1 := hrow5.cell hlt
      have d2 := hrow5.frozen k
      rw [if_neg (Nat.lt_irrefl k)] at d1
      clear hb5 hblk hrow5 c1
      go_wp2
      go_roundw
      case rel =>
        refine ⟨k + 1, upd B k wr.heap.size, by omega, by go_num, ?_⟩
        have := HT.out.snoc HB5.out (by rw [HR.out]; exact HBLK.out)
        rw [HR.out] at this
        exact this
      case measure => simp [intOf]; omega
    · have hkK : k = K := by omega
      subst hkK
      have HTF := HT
      have c0 := (HT.out.below.cell (p := ⟨w2.heap.size, 0, none⟩) (Nat.lt_succ_self _)).trans (cell_new w2 (i := 0) (v := .int .i64 r) rfl)
      have c1 := (HT.out.below.cell (p := ⟨w2.heap.size, 1, none⟩) (Nat.lt_succ_self _)).trans (cell_new w2 (i := 1) (v := .int .i64 o) rfl)
      have c2 := HT.out.row.cell hrM
      rw [if_pos hrM] at c2
      have hblk := HT.out.blk r hrM
      have hfit2 := HFIT.out
      have hL2 := HLL.out
      have HP2 := Lib.hid (fun w' => HPOST.out _ B _ wr w' (hb3.out _) (by omega) HT.out)
      obtain ⟨R, hR⟩ : ∃ R, M.getD r [] = R := ⟨_, rfl⟩
      rw [hR] at c2 hblk hfit2 hL2 HP2
      obtain ⟨L, hLR⟩ : ∃ L, R.length = L := ⟨_, rfl⟩
      rw [hLR] at c2 hfit2 hL2
      generalize B r = Br at c2 hblk HP2
      have s1 := Lib.hid hblk
      have s2 : Hid ((bytesV bs).length = Nat.min nn (L - o)) := by show _ = min nn (L - o); rw [bytesV_length, HNN.out]; omega
      have s3 : Hid (∀ j v, (bytesV bs)[j]? = some v → wr.cell? ((⟨b3, off3, none⟩ : Addr).add j) = some v) := by
        obtain ⟨ad, e, h⟩ := (HBS.out.below hbw).src (by rw [HNN.out]; omega)
        injection e with e
        subst e
        exact h
      have s4 : Hid (o + (bytesV bs).length ≤ (bytesV R).length) := by show _ ≤ _; rw [bytesV_length, bytesV_length, HNN.out, hLR]; exact hfit2
      have hoL1 : o ≤ L := by omega
      have hoL2 : ¬ L = o := by omega
      have HLR := Lib.hid hLR
      clear hblk hR hLR HT HTF
      go_wp2
      go_region_law (refine step_copy_one rfl (.tmp 60) (.tmp 61) 33 33 rfl 5 Tryd.underlying33 size5 Br o (L - o) (L - o) ⟨b3, off3, none⟩ nn bc (by simp [Act.eval, Act.put]) (by simp [Act.eval, Act.put]) (bytesV R) 5 s1.out (bytesV bs) s2.out s3.out s4.out (bytesV_one bs) ?_; intro w9 hone; have HONE := Lib.hid (oneRow_drew hone); clear hone)
      all_goals
        go_wp2
        go_ret2
        exact HP2.out _ (by rw [← bytesV_splice]; exact HONE.out)
theorem write_ok (s : Nat → Addr) (c : Int) (cw : Bool) (p : Option Addr) (len cap : Nat) (ms : List Ar) (mp : Option Addr) (mc : Nat) (Q : Nat → Option Addr) (C : Nat → Nat) (M : List (List Int)) (a : Int) (bq : Option Addr) (bs : List Int) (bc : Nat) (w : World) (hs : Sent w s) (hm : MapsAt w p len ms) (hM : MemAt w mp Q C M)
    (hbs : RowAt w bq bs) (ha : 0 ≤ a ∧ a < 18446744073709551616) (hmay : mayB c ms len M = true) (hk : findK c cw ms len a bs.length true = 4) :
    Calls Tryd.prog 59 #[.agg #[.int .i64 c, .bool cw, .slice p len cap], .slice mp M.length mc, .int .u64 a, .slice bq bs.length bc] w (WritePost M a bs w) :=
  (write_okN s c cw p len cap ms mp mc Q C M a bq bs bc w hs hm hM hbs ha hmay hk).mono fun _ _ ⟨g, Q', C', h1, h2, h3, _⟩ => ⟨g, Q', C', h1, h2, h3⟩
end Go.Proofs.YthckkdkijajadaaDoor
