/- States: package state's copies of rows. -/
import Derived.Test.YtdipmlamjjpcoaaSU
import Derived.Laws.CopyOwn
import Derived.Laws.MakeOwn
namespace Go.Proofs.Ytdipmlamjjpcoaa
open Go.RowKit
attribute [local go_sem] b_and b_or b_xor b_andNot b_low b_top b_most b_signed b_unsigned b_zero b_eq s_eq b_nzero b_neq s_neq b_max b_min s_max s_min
attribute [local go_sem ↓] Go.wp_at_zero Go.wp_at_succ

/-- a row of elements of so many cells each, copied whole -/
theorem run_copy_k {P : Program} (w : World) (dT sT ty elem : TypeId) (g N dCap : Nat) (sp : Option Addr) (sCap sz : Nat) (cur : Array Value) (t : TypeId) (cs : List Value)
    (hu : P.underlying dT = some (.slice elem)) (hs : (P.info? elem).map (·.size) = some sz) (hz : 0 < sz)
    (hg : w.heap[g]? = some (.cells cur t (0, 0))) (hn : cs.length = N * sz)
    (hsrc : 0 < cs.length → ∃ ad, sp = some ad ∧ ∀ j v, cs[j]? = some v → w.cell? (ad.add j) = some v) (hfit : cs.length ≤ cur.size) (h1 : ∀ v ∈ cs, v.oneCell' = true) :
    (Builtin.copy_ #[dT, sT] ty #[.slice (some ⟨g, 0, none⟩) N dCap, .slice sp N sCap]).run P w = .ok (goInt N) (w.setRow g (cs ++ cur.toList.drop cs.length).toArray) := by
  have hst := run_storeCells_at P g 0 t cs 0 cur w hg (by simpa using hfit) h1
  simp only [Nat.zero_add, List.take_zero, List.nil_append] at hst
  cases hq : P.info? elem with
  | none => simp [hq] at hs
  | some i =>
    have hi : i.size = sz := by simpa [hq] using hs
    by_cases h0 : N = 0
    · subst h0
      have hc : cs = [] := List.eq_nil_of_length_eq_zero (by omega)
      subst hc
      have hl : ∀ a : Addr, (loadCells a 0).run P w = .ok #[] w := fun a => run_loadCells_list (P := P) w a [] (fun j v h => by simp at h)
      cases sp with
      | none => simp [Builtin.copy_, run_underlying hu, Builtin.lenOf, Builtin.firstCells, sizeOf, typeInfo, hq, hst]
      | some a => simp [Builtin.copy_, run_underlying hu, Builtin.lenOf, Builtin.firstCells, sizeOf, typeInfo, hq, hst, hl]
    · have hp : 0 < cs.length := by rw [hn]; exact Nat.mul_pos (by omega) hz
      obtain ⟨a, rfl, hsrc'⟩ := hsrc hp
      have hl := run_loadCells_list (P := P) w a cs hsrc'
      rw [hn] at hl
      simp [Builtin.copy_, run_underlying hu, Builtin.lenOf, Builtin.firstCells, sizeOf, typeInfo, hq, hi, hl, hst]
theorem wpList_copy_k {P : Program} {w : World} {ops : Array Oper} {rest : List Oper} {o : Oper} {a : Act} {Q : Exit → Act → World → Prop} (hgd : o.guard = none) (d s : Operand) (dT sT : TypeId)
    (ho : o.op = .call { callee := .builtin .copy, args := #[d, s], argTypes := #[dT, sT] }) (elem : TypeId) (hu : P.underlying dT = some (.slice elem)) (sz : Nat) (hsz : (P.info? elem).map (·.size) = some sz) (hz : 0 < sz)
    (g N dCap : Nat) (sp : Option Addr) (sCap : Nat) (hd : a.eval d = .slice (some ⟨g, 0, none⟩) N dCap) (hs : a.eval s = .slice sp N sCap)
    (cur : List Value) (t : TypeId) (hg : w.heap[g]? = some (.cells cur.toArray t (0, 0))) (cs : List Value) (hn : cs.length = N * sz) (hfit : cur.length = cs.length)
    (hsrc : 0 < cs.length → ∃ ad, sp = some ad ∧ ∀ j v, cs[j]? = some v → w.cell? (ad.add j) = some v) (h1 : ∀ v ∈ cs, v.oneCell' = true) (B : Nat) (w0 : World) (hb : Below B w0 w) (hBg : B ≤ g)
    (h : ∀ w', Hid (w'.heap[g]? = some (.cells cs.toArray t (0, 0))) → Below B w0 w' → wpList P ops Q rest (a.put o.dst (goInt N)) w') :
    wpList P ops Q (o :: rest) a w := by
  refine wpList_plain hgd fun K hK => ?_
  have hrun := run_copy_k (P := P) w dT sT o.type elem g N dCap sp sCap sz cur.toArray t cs hu hsz hz hg hn hsrc (by simp [hfit]) h1
  have e : (cs ++ cur.toArray.toList.drop cs.length) = cs := by simp [← hfit]
  rw [e] at hrun
  unfold Oper.wp
  simp [execOp, ho, resolve, invoke, builtin, hd, hs, hrun, Result.andThen]
  exact hK _ _ (h _ (Lib.hid (setRow_heap w g cur.toArray cs.toArray t _ hg)) (below_setRow hb hBg _))
theorem mk_kn (N : Nat) (hN : N * 64 ≤ 140737488351232) : ∃ M : List Value, M.length = N * 8 ∧ ∀ W : World, (Instr.makeSlice 22 (.int .i64 (N : Int)) (.int .i64 (N : Int))).run Try.prog W = .ok (.slice (some ⟨W.heap.size, 0, none⟩) N N) (W.alloc (.cells M.toArray 33)) := by
  obtain ⟨i, hi, hz, hs, hb⟩ := info_parts infoKn
  refine ⟨(madeCells (Value.agg #[.int .i64 0, .int .u64 0, .int .u64 0, .int .i64 0, .int .i64 0, .int .u64 0, .int .u64 0, .int .i64 0]).cells (N * i.size)).toList, by rw [hs]; simpa using size_madeCells _ _, fun W => ?_⟩
  have h := run_make (P := Try.prog) W 22 33 i _ Try.underlying22 hi hz .i64 .i64 (N : Int) (N : Int) (by omega) (Int.le_refl _) (by rw [hb]; omega) (by omega)
  simpa only [Int.toNat_natCast, Array.toArray_toList] using h
theorem mk_bl (N : Nat) (hN : N ≤ 140737488351232) : ∃ M : List Value, M.length = N * 1 ∧ ∀ W : World, (Instr.makeSlice 23 (.int .i64 (N : Int)) (.int .i64 (N : Int))).run Try.prog W = .ok (.slice (some ⟨W.heap.size, 0, none⟩) N N) (W.alloc (.cells M.toArray 4)) := by
  obtain ⟨i, hi, hz, hs, hb⟩ := info_parts infoBl
  refine ⟨(madeCells (Value.bool false).cells (N * i.size)).toList, by rw [hs]; simpa using size_madeCells _ _, fun W => ?_⟩
  have h := run_make (P := Try.prog) W 23 4 i _ Try.underlying23 hi hz .i64 .i64 (N : Int) (N : Int) (by omega) (Int.le_refl _) (by rw [hb]; omega) (by omega)
  simpa only [Int.toNat_natCast, Array.toArray_toList] using h
theorem sizeKn : (Try.prog.info? 33).map (·.size) = some 8 := by kernel_rfl
theorem sizeBl : (Try.prog.info? 4).map (·.size) = some 1 := by kernel_rfl
theorem knAt_src {w : World} {q : Option Addr} {l : List Kn} (h : KnAt w q l) (hp : 0 < (knV l).length) : ∃ ad, q = some ad ∧ ∀ j v, (knV l)[j]? = some v → w.cell? (ad.add j) = some v := by
  rw [knV_len] at hp
  obtain ⟨b, off, rfl, _⟩ := h.cells 0 (by omega)
  exact ⟨_, rfl, kn_src h⟩
theorem blAt_src {w : World} {q : Option Addr} {l : List Bool} (h : BoolsAt w q l) (hp : 0 < (blV l).length) : ∃ ad, q = some ad ∧ ∀ j v, (blV l)[j]? = some v → w.cell? (ad.add j) = some v := by
  rw [blV_len] at hp
  obtain ⟨b, off, rfl, _⟩ := h.cells 0 (by omega)
  exact ⟨_, rfl, bl_src h⟩
def CopK (l : List Kn) (w : World) (e : Ending) (w' : World) : Prop := e = .returned (.slice (some ⟨w.heap.size, 0, none⟩) l.length l.length) ∧ Below w.heap.size w w' ∧ w'.heap[w.heap.size]? = some (.cells (knV l).toArray 33 (0, 0))
def CopB (l : List Bool) (w : World) (e : Ending) (w' : World) : Prop := e = .returned (.slice (some ⟨w.heap.size, 0, none⟩) l.length l.length) ∧ Below w.heap.size w w' ∧ w'.heap[w.heap.size]? = some (.cells (blV l).toArray 4 (0, 0))
set_option maxHeartbeats 1000000 in
theorem scopK_any (q : Option Addr) (l : List Kn) (qc : Nat) (w : World) (h : KnAt w q l) : Calls Try.prog 56 #[.slice q l.length qc] w (CopK l w) := by
  have H := Lib.hid h
  have hs := h.small
  have HL := Lib.hid (knV_len l)
  unfold CopK
  obtain ⟨N, hN⟩ : ∃ N, l.length = N := ⟨_, rfl⟩
  rw [hN] at hs HL ⊢
  obtain ⟨M, hM, hmk⟩ := mk_kn N (by omega)
  have HM := Lib.hid hM
  have hsm : N ≤ 140737488351232 := by omega
  clear hN h hM hs
  go_enter Try.func56, Try.ntmps56
  go_wp2_with (with_reducible refine wpList_copy_k rfl (.tmp 7) (.tmp 8) 22 22 rfl 33 Try.underlying22 8 sizeKn (by omega) w.heap.size N N q qc rfl rfl M 33 ?c1 (knV l) ?c2 ?c3 ?c4 (knV_one l) w.heap.size w ?c5 (Nat.le_refl _) ?_)
  case c1 => exact heap_new _ _
  case c2 => exact HL.out
  case c3 => rw [HL.out, HM.out]
  case c4 => exact knAt_src (H.out.below b1)
  case c5 => exact b1
  intro w1 hblk hb
  go_wp2
  go_ret
  exact ⟨rfl, hb, hblk.out⟩
set_option maxHeartbeats 1000000 in
theorem scopB_any (q : Option Addr) (l : List Bool) (qc : Nat) (w : World) (h : BoolsAt w q l) : Calls Try.prog 57 #[.slice q l.length qc] w (CopB l w) := by
  have H := Lib.hid h
  have hs := h.small
  have HL := Lib.hid (blV_len l)
  unfold CopB
  obtain ⟨N, hN⟩ : ∃ N, l.length = N := ⟨_, rfl⟩
  rw [hN] at hs HL ⊢
  obtain ⟨M, hM, hmk⟩ := mk_bl N (by omega)
  have HM := Lib.hid hM
  clear hN h hM
  go_enter Try.func57, Try.ntmps57
  go_wp2_with (with_reducible refine wpList_copy_k rfl (.tmp 7) (.tmp 8) 23 23 rfl 4 Try.underlying23 1 sizeBl (by omega) w.heap.size N N q qc rfl rfl M 4 ?c1 (blV l) ?c2 ?c3 ?c4 (blV_one l) w.heap.size w ?c5 (Nat.le_refl _) ?_)
  case c1 => exact heap_new _ _
  case c2 => exact HL.out
  case c3 => rw [HL.out, HM.out]
  case c4 => exact blAt_src (H.out.below b1)
  case c5 => exact b1
  intro w1 hblk hb
  go_wp2
  go_ret
  exact ⟨rfl, hb, hblk.out⟩
end Go.Proofs.Ytdipmlamjjpcoaa
