/- Contracts of sizes: the regions' sizes, in order, in a new slice. -/
import Derived.Test.YthckkdkijajadaaDoorMB
import Derived.Deep.OwnRows

/- Contracts of sizes: the regions' sizes, in order, in a new slice. -/
namespace Go.Proofs.YthckkdkijajadaaDoor
open Go.RowKit M

theorem info3 : (Tryd.prog.info? 3).map (fun i => (i.zero, i.size, i.bytes)) = some (some (.int .i64 0), 1, 8) := by kernel_rfl
theorem rowIs_below {B : Nat} {w w' : World} {b : Nat} {t : TypeId} {n : Nat} {f : Nat → Value} (h : w.rowIs b t n f) (hb : Below B w w') (hlt : b < B) : w'.rowIs b t n f := h.of_block (hb.block b hlt)
/-- the size of region i + 1 -/
def szOf (c : Int) (ms : List Ar) (i : Nat) : Int := (areaOf c true ms (i + 1)).size
theorem szOf_eq (c : Int) (wr : Bool) (ms : List Ar) (i : Nat) : (areaOf c wr ms (i + 1)).size = szOf c ms i := by
  unfold szOf areaOf; (repeat' split) <;> rfl
theorem hasReg_in {len i : Nat} (h : i < len + 2) : hasReg len ((i : Int) + 1) = true := by simp [hasReg]; omega
theorem area_sz {c : Int} {wr : Bool} {ms : List Ar} {i : Nat} (p : Option Addr) (len cap : Nat) (w : World) (hm : MapsAt w p len ms) (hi : i < len + 2) :
    Calls Tryd.prog 66 #[.agg #[.int .i64 c, .bool wr, .slice p len cap], (.int .i64 (1 + (i : Int)))] w fun e w' =>
      (∃ b, e = .returned (.agg #[.int .i64 (szOf c ms i), .bool b])) ∧ Below w.heap.size w w' := by
  rw [← szOf_eq c wr, Int.add_comm 1]
  exact (area_any c wr p len cap ms _ w hm (hasReg_in hi)).mono fun e w' ⟨h1, h2⟩ => ⟨⟨_, h1⟩, h2⟩

theorem field23 (n : Int) (b : Bool) (w : World) : (Instr.field 24 (.agg #[.int .i64 n, .bool b]) 0).run Tryd.prog w = .ok (.int .i64 n) w := by kernel_rfl
def szRow (c : Int) (ms : List Ar) (k : Nat) (j : Nat) : Value := .int .i64 (if j < k then szOf c ms j else 0)
theorem rowIs_made1 (w : World) (o : Obj) (z : Value) (n : Nat) (t : TypeId) : ((w.alloc o).alloc (.cells (madeCells #[z] n) t)).rowIs (w.heap.size + 1) t n (fun _ => z) := by
  have h := World.rowIs_made (w.alloc o) z n t
  rw [World.size_alloc] at h
  exact h
set_option maxRecDepth 100000 in
set_option maxHeartbeats 400000 in
theorem sizes_any (c : Int) (cw : Bool) (p : Option Addr) (len cap : Nat) (ms : List Ar) (w : World) (hm : MapsAt w p len ms) (hl : len ≤ 8) :
    Calls Tryd.prog 56 #[.agg #[.int .i64 c, .bool cw, .slice p len cap]] w fun e w' =>
      e = .returned (.slice (some ⟨w.heap.size + 1, 0, none⟩) (len + 2) (len + 2)) ∧ Below w.heap.size w w' ∧ w'.rowIs (w.heap.size + 1) 3 (len + 2) (fun j => .int .i64 (szOf c ms j)) := by
  have HM := Lib.hid hm
  have HMK := Lib.hid (fun (N : Nat) (hN : N ≤ 10) W => run_make_row' (P := Tryd.prog) 118 3 (.int .i64 0) 8 Tryd.underlying118 info3 rfl .i64 .i64 N (by omega) (by omega) W)
  have e1 : (2 + (len : Int)) = ((len + 2 : Nat) : Int) := by omega
  obtain ⟨N, hN⟩ : ∃ N, N = len + 2 := ⟨_, rfl⟩
  have hNl : N ≤ 10 := by omega
  have hNl2 : len + 2 ≤ N := by omega
  have hNl3 : N ≤ len + 2 := by omega
  have hmk := HMK.out N hNl
  rw [← hN]
  have ec : ((N : Nat) : Int) = 2 + (len : Int) := by omega
  rw [ec] at hmk
  have HN := Lib.hid hN
  have EC := Lib.hid ec
  clear hN ec e1 hm
  go_enter Tryd.func56, Tryd.ntmps56
  go_wp2
  go_loopw [12] (fun i wx => ∃ k : Nat, k ≤ N ∧ i = .int .i64 k ∧ Below (w.heap.size + 1) (w.alloc (.cells #[.int .i64 c, .bool cw, .slice p len cap] 27)) wx ∧ wx.rowIs (w.heap.size + 1) 3 N (szRow c ms k)) (fun i _ => N - (intOf i).toNat)
  case atStart =>
    exact ⟨0, Nat.zero_le _, rfl, (Below.refl _ _).alloc (by simp) _, (rowIs_made1 w _ _ _ _).congr (fun i hi => by simp [szRow])⟩
  case round =>
    obtain ⟨k, hk, rfl, hb, hrow⟩ := hrel
    have hbw : Below w.heap.size w wr := ((Below.refl _ _).alloc (Nat.le_refl _) _).trans (hb.mono (by omega))
    by_cases hlt : k < N
    · have c0 := hb.cell (p := ⟨w.heap.size, 0, none⟩) (by show w.heap.size < _; omega)
      have c1 := hb.cell (p := ⟨w.heap.size, 1, none⟩) (by show w.heap.size < _; omega)
      have c2 := hb.cell (p := ⟨w.heap.size, 2, none⟩) (by show w.heap.size < _; omega)
      have HB := Lib.hid hb
      have HR := Lib.hid hrow
      have hkl : k < len + 2 := by omega
      clear hb hrow hmk
      go_wp2_with fail
      refine (area_sz _ _ _ _ (HM.out.below hbw) hkl).mono ?_
      rintro e w2 ⟨⟨b, rfl⟩, hb2⟩
      have hrow2 := rowIs_below HR.out hb2 HR.out.lt
      have d1 := hrow2.cell hlt
      have d2 := hrow2.frozen k
      have HR2 := Lib.hid hrow2
      clear hrow2
      have hfl := field23
      go_wp2
      go_roundw
      case rel => 
        refine ⟨k + 1, by omega, by go_num, (HB.out.trans (hb2.mono (by have := HB.out.size; simp at this; omega))).setCell (p := ⟨w.heap.size + 1, k, none⟩) (Nat.le_refl _) _, (HR2.out.set k _).congr fun i hi => ?_⟩
        simp only [szRow]
        by_cases h1 : i = k
        · subst h1; simp
        · by_cases h2 : i < k
          · rw [if_neg h1, if_pos h2, if_pos (by omega)]
          · rw [if_neg h1, if_neg h2, if_neg (by omega)]
      case measure => simp [intOf]; omega
    · have hkN : N ≤ k := by omega
      have HB := Lib.hid hb
      have HR := Lib.hid hrow
      clear hb hrow hmk
      go_wp2
      go_ret
      exact ⟨rfl, hbw, HR.out.congr fun i hi => by simp only [szRow]; rw [if_pos (by omega)]⟩
end Go.Proofs.YthckkdkijajadaaDoor

/- Contracts of May, on both sides: is a memory a layout's? -/
namespace Go.Proofs.YthckkdkijajadaaDoor
open Go.RowKit M

/-- a memory lies in memory: its rows, of bytes -/
structure MemAt (w : World) (mp : Option Addr) (Q : Nat → Option Addr) (C : Nat → Nat) (M : List (List Int)) : Prop where
  small : M.length ≤ 140737488351232
  rsmall : ∀ i, (M.getD i []).length ≤ 140737488351232
  cells : ∀ i, i < M.length → ∃ b off, mp = some ⟨b, off, none⟩ ∧ b < w.heap.size ∧ w.cell? ⟨b, off + i, none⟩ = some (.slice (Q i) (M.getD i []).length (C i)) ∧ (M.getD i []).length ≤ C i ∧ C i ≤ 9223372036854775807
  rows : ∀ i j, i < M.length → j < (M.getD i []).length → ∃ b off, Q i = some ⟨b, off, none⟩ ∧ b < w.heap.size ∧ w.cell? ⟨b, off + j, none⟩ = some (.int .u8 ((M.getD i []).getD j 0))
  byte : ∀ i j, i < M.length → j < (M.getD i []).length → 0 ≤ (M.getD i []).getD j 0 ∧ (M.getD i []).getD j 0 < 256
theorem MemAt.below {w w' : World} {mp : Option Addr} {Q : Nat → Option Addr} {C : Nat → Nat} {M : List (List Int)} (h : MemAt w mp Q C M) (hb : Below w.heap.size w w') : MemAt w' mp Q C M :=
  ⟨h.small, h.rsmall, fun i hi => by
    obtain ⟨b, off, e, hl, hc, h2⟩ := h.cells i hi
    exact ⟨b, off, e, Nat.lt_of_lt_of_le hl hb.size, (hb.cell (p := ⟨b, off + i, none⟩) hl).trans hc, h2⟩,
   fun i j hi hj => by
    obtain ⟨b, off, e, hl, hc⟩ := h.rows i j hi hj
    exact ⟨b, off, e, Nat.lt_of_lt_of_le hl hb.size, (hb.cell (p := ⟨b, off + j, none⟩) hl).trans hc⟩, h.byte⟩
theorem MemAt.alloc {w : World} {mp : Option Addr} {Q : Nat → Option Addr} {C : Nat → Nat} {M : List (List Int)} (h : MemAt w mp Q C M) (o : Obj) : MemAt (w.alloc o) mp Q C M :=
  h.below ((Below.refl _ _).alloc (Nat.le_refl _) _)

/-- is this memory that layout's? -/
def mayB (c : Int) (ms : List Ar) (len : Nat) (M : List (List Int)) : Bool :=
  okL c ms && decide (M.length = len + 2 ∧ ∀ i, i < len + 2 → ((M.getD i []).length : Int) = szOf c ms i)
theorem mayB_true {c : Int} {ms : List Ar} {len : Nat} {M : List (List Int)} (h : mayB c ms len M = true) : okL c ms = true ∧ M.length = len + 2 ∧ ∀ i, i < len + 2 → ((M.getD i []).length : Int) = szOf c ms i := by
  simp only [mayB, Bool.and_eq_true, decide_eq_true_eq] at h
  exact ⟨h.1, h.2.1, h.2.2⟩
theorem mayB_no {c : Int} {ms : List Ar} {len : Nat} {M : List (List Int)} (i : Nat) (hi : i < len + 2) (h : ((M.getD i []).length : Int) ≠ szOf c ms i) : mayB c ms len M = false := by
  simp only [mayB, Bool.and_eq_false_iff, decide_eq_false_iff_not]
  exact .inr fun h' => h (h'.2 i hi)
theorem szOf_bd {c : Int} {ms : List Ar} {len i : Nat} (hl : len = ms.length) (ho : okL c ms = true) (hi : i < len + 2) : 0 ≤ szOf c ms i ∧ szOf c ms i ≤ 4096 :=
  areaOf_bd hl ho (hasReg_in hi)

set_option maxRecDepth 100000 in
set_option maxHeartbeats 400000 in
theorem may_any (c : Int) (cw : Bool) (p : Option Addr) (len cap : Nat) (ms : List Ar) (mp : Option Addr) (mc : Nat) (Q : Nat → Option Addr) (C : Nat → Nat) (M : List (List Int)) (w : World) (hm : MapsAt w p len ms) (hM : MemAt w mp Q C M) :
    Calls Tryd.prog 46 #[.agg #[.int .i64 c, .bool cw, .slice p len cap], .slice mp M.length mc] w fun e w' =>
      e = .returned (.bool (mayB c ms len M)) ∧ Below w.heap.size w w' := by
  have HM := Lib.hid hm
  have HMM := Lib.hid hM
  have hlen := hm.hlen
  have hsm := hM.small
  obtain ⟨K, hK⟩ : ∃ K, M.length = K := ⟨_, rfl⟩
  rw [hK] at hsm ⊢
  clear hm hM
  cases ho : okL c ms
  · have HR : mayB c ms len M = false := by simp [mayB, ho]
    rw [HR]
    have HO := Lib.hid ho
    clear HR ho hK hlen
    go_enter Tryd.func46, Tryd.ntmps46
    go_wp2_with (go_at_call 55; refine (check_is _ _ _ _ _ ms _ (HM.out.alloc _) HO.out).mono ?_; rintro e w1 ⟨rfl, hb⟩; rw [chk_false]; obtain ⟨hc, hf⟩ := bcell hb; have hz := one_in hb)
    go_ret
    exact ⟨rfl, below1 hb⟩
  · have hl8 : len ≤ 8 := by have := (okL_parts ho).2.1; omega
    have HO := Lib.hid ho
    by_cases hKL : K = len + 2
    · have HSB := Lib.hid (fun i hi => szOf_bd (i := i) hlen HO.out hi)
      have HLEN := Lib.hid hlen
      have hkl : K ≤ len + 2 := by omega
      have hkl2 : len + 2 ≤ K := by omega
      have hk1 : ((K : Int) != ((len : Int) + 2)) = false := by simp; omega
      have hk2 : ((K : Int) != ((len + 2 : Nat) : Int)) = false := by simp; omega
      have HKL := Lib.hid hKL
      have HKK := Lib.hid hK
      clear hKL hK ho hlen
      go_enter Tryd.func46, Tryd.ntmps46
      go_wp2_with (first
        | (go_at_call 55; refine (check_is _ _ _ _ _ ms _ (HM.out.alloc _) HO.out).mono ?_; rintro e w1 ⟨rfl, hb⟩; rw [chk_true]; obtain ⟨hc, hf⟩ := bcell hb; have hz := one_in hb)
        | (go_at_call 56; refine (sizes_any _ _ _ _ _ ms _ (HM.out.below (below1 hb)) hl8).mono ?_; rintro e w2 ⟨rfl, hb2, hrow⟩; have HROW := Lib.hid hrow; clear hrow))
      have hb12 := below_next (below1 hb) hb2
      clear hk1 hk2 hc hf
      go_loop [20] (fun i => ∃ k : Nat, k ≤ len + 2 ∧ i = .int .i64 k ∧ Hid (∀ i, i < k → ((M.getD i []).length : Int) = szOf c ms i)) (fun i => (len + 2) - (intOf i).toNat)
      case atStart => exact ⟨0, Nat.zero_le _, rfl, fun i hi => absurd hi (Nat.not_lt_zero _)⟩
      case round =>
        obtain ⟨k, hk, rfl, HE⟩ := hrel
        by_cases hlt : k < len + 2
        · have d1 := HROW.out.cell hlt
          obtain ⟨b, off, rfl, hbl, g1, _, _⟩ := (HMM.out.below hb12).cells k (by rw [HKK.out]; omega)
          have hkb := HMM.out.rsmall k
          have HS := Lib.hid (HSB.out k hlt)
          obtain ⟨L, hL⟩ : ∃ L, (M.getD k []).length = L := ⟨_, rfl⟩
          rw [hL] at g1 hkb
          obtain ⟨z, hz'⟩ : ∃ z, szOf c ms k = z := ⟨_, rfl⟩
          rw [hz'] at d1
          have HL := Lib.hid hL
          have HZ := Lib.hid hz'
          clear hL hz'
          by_cases heq : (L : Int) = z
          · have t1 : ((L : Int) != z) = false := by simp [heq]
            have HEQ := Lib.hid heq
            clear heq
            go_wp2
            go_round
            case rel =>
              refine ⟨k + 1, by omega, by go_num, fun i hi => ?_⟩
              by_cases h : i < k
              · exact HE.out i h
              · have : i = k := by omega
                subst this
                rw [HL.out, HZ.out]; exact HEQ.out
            case measure => simp [intOf]; omega
          · have t1 : ((L : Int) != z) = true := by simp [heq]
            have HEQ := Lib.hid heq
            clear heq
            go_wp2
            go_ret
            exact ⟨ret_bool (mayB_no k hlt (by rw [HL.out, HZ.out]; exact HEQ.out)).symm, hb12⟩
        · go_wp2
          go_ret
          refine ⟨ret_bool ?_, hb12⟩
          have : len + 2 ≤ k := by omega
          simp only [mayB, HO.out, Bool.true_and]
          exact (decide_eq_true ⟨by rw [HKK.out]; exact HKL.out, fun i hi => HE.out i (by omega)⟩).symm
    · have HR : mayB c ms len M = false := by
        simp only [mayB, Bool.and_eq_false_iff, decide_eq_false_iff_not]
        exact .inr fun h' => hKL (hK ▸ h'.1)
      rw [HR]
      have t1 : ((K : Int) != ((len : Int) + 2)) = true := by simp; omega
      clear hKL hK ho hlen HR
      go_enter Tryd.func46, Tryd.ntmps46
      go_wp2_with (first
        | (go_at_call 55; refine (check_is _ _ _ _ _ ms _ (HM.out.alloc _) HO.out).mono ?_; rintro e w1 ⟨rfl, hb⟩; rw [chk_true]; obtain ⟨hc, hf⟩ := bcell hb; have hz := one_in hb)
        | (go_at_call 56; refine (sizes_any _ _ _ _ _ ms _ (HM.out.below (below1 hb)) hl8).mono ?_; rintro e w2 ⟨rfl, hb2, hrow⟩; have HROW := Lib.hid hrow; clear hrow))
      go_ret
      exact ⟨rfl, below_next (below1 hb) hb2⟩
theorem may_is {v : Bool} (c : Int) (cw : Bool) (p : Option Addr) (len cap : Nat) (ms : List Ar) (mp : Option Addr) (mc : Nat) (Q : Nat → Option Addr) (C : Nat → Nat) (M : List (List Int)) (w : World) (hm : MapsAt w p len ms) (hM : MemAt w mp Q C M) (h : mayB c ms len M = v) :
    Calls Tryd.prog 46 #[.agg #[.int .i64 c, .bool cw, .slice p len cap], .slice mp M.length mc] w fun e w' =>
      e = .returned (.bool v) ∧ Below w.heap.size w w' := by
  rw [← h]; exact may_any c cw p len cap ms mp mc Q C M w hm hM
end Go.Proofs.YthckkdkijajadaaDoor

/- Contract of Fresh: a memory of noughts. -/
namespace Go.Proofs.YthckkdkijajadaaDoor
open Go.RowKit M

theorem info36 : (Tryd.prog.info? 33).map (fun i => (i.zero, i.size, i.bytes)) = some (some (.slice none 0 0), 1, 24) := by kernel_rfl
theorem info5 : (Tryd.prog.info? 5).map (fun i => (i.zero, i.size, i.bytes)) = some (some (.int .u8 0), 1, 1) := by kernel_rfl

/-- the cells of an owned row of one-cell elements -/
theorem owns_cells {w : World} {base : Nat} {e : TypeId} {v : Value} {n : Nat} {xs : List Value} (h : w.ownsRow base e 1 v n xs) (hn : 0 < n) :
    ∃ g cap cur, v = .slice (some ⟨g, 0, none⟩) n cap ∧ base ≤ g ∧ g < w.heap.size ∧ n ≤ cap ∧ cap ≤ maxLen ∧ w.heap[g]? = some (.cells cur e (0, 0)) ∧ ∀ i x, i < n → xs[i]? = some x → w.cell? ⟨g, i, none⟩ = some x := by
  obtain ⟨hl, h | ⟨g, cap, cur, hv, hg, hh, h1, h2, h3, h4⟩⟩ := h
  · omega
  · refine ⟨g, cap, cur, hv, hg, ?_, h1, h2, hh, fun i x hi hx => ?_⟩
    · exact (Array.getElem?_eq_some_iff.1 hh).1
    · rw [Nat.mul_one] at h4
      rw [← h4, List.getElem?_take_of_lt hi] at hx
      simp only [World.cell?, hh]
      simpa using hx

/-- rows of noughts, as they are made one after the other -/
structure Rows0 (w : World) (Q : Nat → Nat) (Z : Nat → Nat) (k : Nat) : Prop where
  row : ∀ i, i < k → w.rowIs (Q i) 5 (Z i) (fun _ => .int .u8 0)
def rowV (Q : Nat → Nat) (Z : Nat → Nat) (i : Nat) : Value := .slice (some ⟨Q i, 0, none⟩) (Z i) (Z i)
def upd (Q : Nat → Nat) (k b : Nat) : Nat → Nat := fun i => if i = k then b else Q i
theorem rows_upd (Q Z : Nat → Nat) (k b : Nat) : (List.range k).map (rowV (upd Q k b) Z) = (List.range k).map (rowV Q Z) := by
  apply List.map_congr_left
  intro i hi
  have : i ≠ k := by have := List.mem_range.1 hi; omega
  simp [rowV, upd, this]
theorem rows_snoc (Q Z : Nat → Nat) (k b : Nat) : (List.range (k + 1)).map (rowV (upd Q k b) Z) = (List.range k).map (rowV Q Z) ++ [.slice (some ⟨b, 0, none⟩) (Z k) (Z k)] := by
  rw [List.range_succ, List.map_append, rows_upd]
  simp [rowV, upd]
/-- a row of bytes is none of slices -/
theorem row_ne_own {w : World} {base : Nat} {v : Value} {n : Nat} {xs : List Value} {b m : Nat} {f : Nat → Value} (h : w.ownsRow base 33 1 v n xs) (hr : w.rowIs b 5 m f) : some b ≠ v.ownBlock := by
  obtain ⟨_, ⟨rfl, _⟩ | ⟨g, cap, cur, rfl, _, hh, _⟩⟩ := h
  · simp [Value.ownBlock]
  · simp only [Value.ownBlock]
    intro e
    injection e with e
    subst e
    obtain ⟨c, hc, _⟩ := hr
    rw [hh] at hc
    injection hc with hc
    injection hc with _ hc _
    exact absurd hc (by decide)
theorem Rows0.grown {w w' : World} {Q Z : Nat → Nat} {k : Nat} {base : Nat} {v : Value} {n : Nat} {xs : List Value} (h : Rows0 w Q Z k) (ho : w.ownsRow base 33 1 v n xs) (hg : w.grownBy w' v.ownBlock) : Rows0 w' Q Z k :=
  ⟨fun i hi => (h.row i hi).of_block (hg.block _ (h.row i hi).lt (row_ne_own ho (h.row i hi)))⟩
theorem Rows0.alloc {w : World} {Q Z : Nat → Nat} {k : Nat} (h : Rows0 w Q Z k) (o : Obj) : Rows0 (w.alloc o) Q Z k := ⟨fun i hi => (h.row i hi).alloc o⟩
theorem Rows0.snoc {w : World} {Q Z : Nat → Nat} {k b : Nat} (h : Rows0 w Q Z k) (hr : w.rowIs b 5 (Z k) (fun _ => .int .u8 0)) : Rows0 w (upd Q k b) Z (k + 1) :=
  ⟨fun i hi => by
    by_cases e : i = k
    · subst e; simpa [upd] using hr
    · simpa [upd, e] using h.row i (by omega)⟩

def freshM (Z : Nat → Nat) (n : Nat) : List (List Int) := (List.range n).map fun i => List.replicate (Z i) 0
theorem fresh_mem {w : World} {base : Nat} {v : Value} {n : Nat} {Q Z : Nat → Nat} (hn : 0 < n) (hn8 : n ≤ 140737488351232) (hz : ∀ i, i < n → Z i ≤ 140737488351232) (h : w.ownsRow base 33 1 v n ((List.range n).map (rowV Q Z))) (hr : Rows0 w Q Z n) :
    ∃ g cap, v = .slice (some ⟨g, 0, none⟩) n cap ∧ MemAt w (some ⟨g, 0, none⟩) (fun i => some ⟨Q i, 0, none⟩) Z (freshM Z n) := by
  obtain ⟨g, cap, cur, hv, _, hg, _, _, hh, hc⟩ := owns_cells h hn
  have e1 : ∀ i, i < n → (freshM Z n).getD i [] = List.replicate (Z i) 0 := fun i hi => by simp [freshM, hi]
  have e2 : (freshM Z n).length = n := by simp [freshM]
  refine ⟨g, cap, hv, ⟨by rw [e2]; exact hn8, fun i => ?_, fun i hi => ?_, fun i j hi hj => ?_, fun i j hi hj => ?_⟩⟩
  · by_cases hi : i < n
    · rw [e1 i hi]; simpa using hz i hi
    · simp [freshM, hi]
  · rw [e2] at hi
    refine ⟨g, 0, rfl, hg, ?_, ?_, Nat.le_trans (hz i hi) (by omega)⟩
    · rw [e1 i hi, Nat.zero_add]
      have := hc i (rowV Q Z i) hi (by simp [hi])
      simpa [rowV] using this
    · rw [e1 i hi]; simp
  · rw [e2] at hi
    rw [e1 i hi] at hj ⊢
    have hj' : j < Z i := by simpa using hj
    refine ⟨Q i, 0, rfl, (hr.row i hi).lt, ?_⟩
    have := (hr.row i hi).cell hj'
    simpa [hj'] using this
  · rw [e2] at hi
    rw [e1 i hi] at hj ⊢
    have hj' : j < Z i := by simpa using hj
    simp [hj']
end Go.Proofs.YthckkdkijajadaaDoor

/- Contract of Fresh: a memory of noughts, or why there is none. -/
namespace Go.Proofs.YthckkdkijajadaaDoor
open Go.RowKit M

theorem cell_one_new' (w : World) (o : Obj) (x : Value) (t : TypeId) : ∀ j u, [x][j]? = some u → ((w.alloc o).alloc (.cells #[x] t)).cell? ((⟨w.heap.size + 1, 0, none⟩ : Addr).add j) = some u := by
  have h := cell_one_new (w.alloc o) x t
  rw [World.size_alloc] at h
  exact h
theorem own_ge {w : World} {base : Nat} {e : TypeId} {size : Nat} {v : Value} {n : Nat} {xs : List Value} (h : w.ownsRow base e size v n xs) : ∀ k, v.ownBlock = some k → base ≤ k := by
  obtain ⟨_, ⟨rfl, _⟩ | ⟨g, cap, cur, rfl, hb, _⟩⟩ := h
  · simp [Value.ownBlock]
  · intro k hk
    simp [Value.ownBlock] at hk
    omega
theorem two_blocks' (B : Nat) (w : World) (o1 o2 : Obj) (hB : B ≤ w.heap.size) : Below B w ((w.alloc o1).alloc o2) := ((Below.refl _ _).alloc hB _).alloc (by simp; omega) _
def zOf (c : Int) (ms : List Ar) (i : Nat) : Nat := (szOf c ms i).toNat
def FreshPost (c : Int) (ms : List Ar) (n : Nat) (w : World) (e : Ending) (w' : World) : Prop :=
  ∃ g cap Q, e = .returned (.tuple #[.slice (some ⟨g, 0, none⟩) n cap, .int .i64 0]) ∧ MemAt w' (some ⟨g, 0, none⟩) Q (zOf c ms) (freshM (zOf c ms) n) ∧ Below w.heap.size w w'
theorem Rows0.grown_at {w w' : World} {Q Z : Nat → Nat} {k : Nat} {base : Nat} {v : Value} {n : Nat} {xs : List Value} (h : Rows0 w Q Z k) (ho : w.ownsRow base 33 1 v n xs) (hg : w.grownBy w' v.ownBlock) : Rows0 w' Q Z k := h.grown ho hg
end Go.Proofs.YthckkdkijajadaaDoor
