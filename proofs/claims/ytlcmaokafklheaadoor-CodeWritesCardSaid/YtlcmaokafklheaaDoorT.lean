/- Contracts of Text, on both sides: an instruction, written. -/
import Derived.Test.YtlcmaokafklheaaDoorFU
import Derived.Test.YtlcmaokafklheaaDoorE
import Derived.Test.YtlcmaokafklheaaDoorH
namespace Go.Proofs.YtlcmaokafklheaaDoor
open Go.RowKit M

def strV (l : List UInt8) : Value := .string ⟨l.toArray⟩
/-- the numbers' texts -/
def digs (x : In) (k : Nat) : List (List UInt8) := (List.range k).map fun j => Lib.itoa (fOf x j)
def textL (x : In) : List UInt8 := Lib.join (if x.op = 24 then digs x 5 ++ [Lib.decDigits x.wide.toNat] else digs x 5) [32]
theorem digs_snoc (x : In) (k : Nat) : (digs x (k + 1)).map strV = (digs x k).map strV ++ [strV (Lib.itoa (fOf x k))] := by simp [digs, List.range_succ]
theorem info9 : (Tryd.prog.info? 9).map (fun i => (i.zero, i.size, i.bytes)) = some (some (.string ⟨#[]⟩), 1, 16) := by kernel_rfl
theorem index56_0 (x : In) (w : World) : (Instr.index 56 (.agg #[.int .i64 x.op, .int .i64 x.dst, .int .i64 x.src, .int .i64 x.off, .int .i64 x.imm]) (.int .i64 0)).run Tryd.prog w = .ok (.int .i64 x.op) w := by kernel_rfl
theorem index56_1 (x : In) (w : World) : (Instr.index 56 (.agg #[.int .i64 x.op, .int .i64 x.dst, .int .i64 x.src, .int .i64 x.off, .int .i64 x.imm]) (.int .i64 1)).run Tryd.prog w = .ok (.int .i64 x.dst) w := by kernel_rfl
theorem index56_2 (x : In) (w : World) : (Instr.index 56 (.agg #[.int .i64 x.op, .int .i64 x.dst, .int .i64 x.src, .int .i64 x.off, .int .i64 x.imm]) (.int .i64 2)).run Tryd.prog w = .ok (.int .i64 x.src) w := by kernel_rfl
theorem index56_3 (x : In) (w : World) : (Instr.index 56 (.agg #[.int .i64 x.op, .int .i64 x.dst, .int .i64 x.src, .int .i64 x.off, .int .i64 x.imm]) (.int .i64 3)).run Tryd.prog w = .ok (.int .i64 x.off) w := by kernel_rfl
theorem index56_4 (x : In) (w : World) : (Instr.index 56 (.agg #[.int .i64 x.op, .int .i64 x.dst, .int .i64 x.src, .int .i64 x.off, .int .i64 x.imm]) (.int .i64 4)).run Tryd.prog w = .ok (.int .i64 x.imm) w := by kernel_rfl
theorem index56 (x : In) (k : Nat) (hk : k < 5) (w : World) : (Instr.index 56 (.agg #[.int .i64 x.op, .int .i64 x.dst, .int .i64 x.src, .int .i64 x.off, .int .i64 x.imm]) (.int .i64 (k : Int))).run Tryd.prog w = .ok (.int .i64 (fOf x k)) w := by
  match k, hk with
  | 0, _ => exact index56_0 x w
  | 1, _ => exact index56_1 x w
  | 2, _ => exact index56_2 x w
  | 3, _ => exact index56_3 x w
  | 4, _ => exact index56_4 x w
theorem fOf_bd {x : In} (h : BdF x) {k : Nat} (hk : k < 5) : -9223372036854775808 ≤ fOf x k ∧ fOf x k ≤ 9223372036854775807 := by
  match k, hk with
  | 0, _ => exact h.op
  | 1, _ => exact h.dst
  | 2, _ => exact h.src
  | 3, _ => exact h.off
  | 4, _ => exact h.imm
theorem bdF {x : In} (h : Bd x) : BdF x := ⟨h.op, h.dst, h.src, h.off, h.imm⟩
theorem grow_below (w : World) (k : Nat) (os : Array Obj) : Below w.heap.size w (Go.Sort.grow (w.drewN k) os) := Lib.below_grow w.heap.size w (Nat.le_refl _) k os
theorem itoa_any (n : Int) (h : -9223372036854775808 ≤ n ∧ n ≤ 9223372036854775807) (w : World) (hp : Pow w) :
    Calls Tryd.prog 28 #[.int .i64 n] w fun e w' => e = .returned (.string ⟨(Lib.itoa n).toArray⟩) ∧ Below w.heap.size w w' :=
  (Tryd.strconv_Itoa n h.1 h.2 w hp).mono fun e w' ⟨he, k, os, hw⟩ => ⟨he, by rw [hw]; exact grow_below w k os⟩
theorem numbers_v (x : In) (w : World) :
    Calls Tryd.prog 27 #[.agg #[.int .i64 x.op, .int .i64 x.dst, .int .i64 x.src, .int .i64 x.off, .int .i64 x.imm, .int .u64 x.wide]] w fun e w' => e = .returned (.agg #[.int .i64 x.op, .int .i64 x.dst, .int .i64 x.src, .int .i64 x.off, .int .i64 x.imm]) ∧ Below w.heap.size w w' := numbers_any x w
theorem lens_digs {x : In} (h : BdF x) (k : Nat) (hk : k ≤ 5) : Lib.lens (digs x k) ≤ 21 * k := by
  induction k with
  | zero => simp [digs, Lib.lens]
  | succ k ih =>
    have := Lib.itoa_length_le (fOf x k) (fOf_bd h (by omega)).1 (fOf_bd h (by omega)).2
    have := ih (by omega)
    have e : Lib.lens (digs x (k + 1)) = Lib.lens (digs x k) + (Lib.itoa (fOf x k)).length := by simp [digs, List.range_succ, Lib.lens]
    omega
theorem join_le (ls : List (List UInt8)) : (Lib.join ls [32]).length ≤ ls.length + Lib.lens ls := by
  cases ls with
  | nil => simp [Lib.join_nil]
  | cons a r => rw [Lib.join_length]; simp
theorem join5 {x : In} (h : BdF x) : (Lib.join (digs x 5) [32]).length ≤ 140737488355328 := by
  have h1 := join_le (digs x 5)
  have h2 := lens_digs h 5 (by omega)
  have h3 : (digs x 5).length = 5 := by simp [digs]
  omega
theorem dec_len {u : Int} (h0 : 0 ≤ u) (h1 : u < 18446744073709551616) : (Lib.decDigits u.toNat).length ≤ 20 := by
  obtain ⟨n, rfl⟩ := Int.eq_ofNat_of_zero_le h0
  rw [Int.toNat_natCast, Lib.decDigits_length]
  by_cases hn : 1 ≤ n
  · have := Lib.numDigits_eq n hn (by omega)
    split at this <;> omega
  · have : n = 0 := by omega
    subst this
    rw [Lib.nDigits_small (by omega)]
    omega
theorem join6 {x : In} (h : Bd x) : (Lib.join (digs x 5 ++ [Lib.decDigits x.wide.toNat]) [32]).length ≤ 140737488355328 := by
  have h1 := join_le (digs x 5 ++ [Lib.decDigits x.wide.toNat])
  have h2 := lens_digs (bdF h) 5 (by omega)
  have h3 : (digs x 5).length = 5 := by simp [digs]
  have h4 := dec_len h.wide.1 h.wide.2
  have h5 : Lib.lens (digs x 5 ++ [Lib.decDigits x.wide.toNat]) = Lib.lens (digs x 5) + (Lib.decDigits x.wide.toNat).length := by simp [Lib.lens]
  simp only [List.length_append, List.length_singleton] at h1
  omega
/-- strings.Join over a row of its own -/
theorem join_own (v : Value) (n : Nat) (ls : List (List UInt8)) (B : Nat) (w : World) (ho : w.ownsRow B 9 1 v n (ls.map strV)) (hn : 0 < n) (hl : (Lib.join ls [32]).length ≤ 140737488355328) (hn2 : n ≤ 140737488355328) :
    Calls Tryd.prog 30 #[v, .string ⟨#[32]⟩] w fun e w' => e = .returned (.string ⟨(Lib.join ls [32]).toArray⟩) ∧ Below w.heap.size w w' := by
  have hlen : ls.length = n := by have := ho.1; simpa using this
  obtain ⟨g, cap, cur, rfl, _, hg, h1, _, _, hc⟩ := owns_cells ho hn
  have hm : (ls.map fun l => (⟨l.toArray⟩ : ByteArray)).length = n := by simpa using hlen
  have hd : (ls.map fun l => (⟨l.toArray⟩ : ByteArray)).map (·.data.toList) = ls := by simp [List.map_map, Function.comp_def]
  have h := Tryd.strings_Join g 0 cap (ls.map fun l => (⟨l.toArray⟩ : ByteArray)) ⟨#[32]⟩ w (fun j x hx => by
    rw [Nat.zero_add]
    simp only [List.getElem?_map, Option.map_eq_some_iff] at hx
    obtain ⟨a, ha, rfl⟩ := hx
    have hj : j < n := by have := (List.getElem?_eq_some_iff.1 ha).1; omega
    exact hc j _ hj (by simp [ha, strV])) hg (by rw [hm]; exact hn2) (by rw [hm]; exact h1) (by rw [hd]; exact hl)
  rw [hm, hd] at h
  exact h
theorem own_below0 {w w' : World} {B : Nat} {e : TypeId} {size n : Nat} {v : Value} {xs : List Value} (h : w.ownsRow B e size v n xs) (hb : Below w.heap.size w w') : w'.ownsRow B e size v n xs := by
  obtain ⟨hl, h | ⟨g, cap, cur, hv, hg, hh, h1, h2, h3, h4⟩⟩ := h
  · exact ⟨hl, .inl h⟩
  · exact ⟨hl, .inr ⟨g, cap, cur, hv, hg, (hb.block g (Array.getElem?_eq_some_iff.1 hh).1).trans hh, h1, h2, h3, h4⟩⟩
theorem own_cell1 (w : World) (x : Value) (t : TypeId) : ∀ j u, [x][j]? = some u → (w.alloc (.cells #[x] t)).cell? ((⟨w.heap.size, 0, none⟩ : Addr).add j) = some u := cell_one_new w x t
set_option maxRecDepth 100000 in
set_option maxHeartbeats 2000000 in
theorem text_any (x : In) (hx : Bd x) (w : World) (hp : Pow w) :
    Calls Tryd.prog 18 #[.agg #[.int .i64 x.op, .int .i64 x.dst, .int .i64 x.src, .int .i64 x.off, .int .i64 x.imm, .int .u64 x.wide]] w fun e w' => e = .returned (strV (textL x)) ∧ Below w.heap.size w w' := by
  have HX := Lib.hid hx
  have HP := Lib.hid hp
  obtain ⟨i9, h9, g9, s9, b9⟩ := info_parts info9
  have H9 := Lib.hid h9
  have G9 := Lib.hid g9
  have S9 := Lib.hid s9
  have B9 := Lib.hid b9
  have hw0 := hx.wide
  obtain ⟨hw0, hw1⟩ := hw0
  clear hx hp h9 g9 s9 b9
  go_enter Tryd.func18, Tryd.ntmps18
  go_wp2_with (go_at_call 27; refine (numbers_v x _).mono ?_; rintro e w1 ⟨rfl, hb1⟩; have hz1 := one_in hb1; have HB1 := Lib.hid hb1; clear hb1)
  go_loopw [3, 8] (fun v i wr => ∃ k : Nat, k ≤ 5 ∧ i = .int .i64 k ∧ Below w1.heap.size w1 wr ∧ wr.ownsRow w1.heap.size 9 1 v k ((digs x k).map strV)) (fun _ i _ => 5 - (intOf i).toNat)
  case atStart => exact ⟨0, Nat.zero_le _, rfl, Below.refl _ _, ⟨rfl, .inl ⟨rfl, rfl⟩⟩⟩
  case round =>
    obtain ⟨k, hk, rfl, hb, hown⟩ := hrel
    have HB := Lib.hid hb
    have HO := Lib.hid hown
    have PW := Lib.hid (((HP.out.alloc _).below HB1.out).below hb)
    clear hb hown
    by_cases hlt : k < 5
    · have ix := index56 x k hlt wr
      have HBD := Lib.hid (fOf_bd (bdF HX.out) hlt)
      have HS := Lib.hid (digs_snoc x k)
      generalize fOf x k = y at *
      go_wp2_with (first
        | (go_at_call 28; refine (itoa_any y HBD.out _ PW.out).mono ?_; rintro e w3 ⟨rfl, hb3⟩; have HB3 := Lib.hid (HB.out.trans (hb3.mono HB.out.size)); have HO3 := Lib.hid (own_below0 HO.out hb3); clear hb3)
        | (at_builtin; refine wpList_append_own _ rfl (.tmp 11) (.tmp 14) 54 rfl w1.heap.size 9 i9 _ 1 16 Tryd.underlying54 H9.out G9.out S9.out B9.out rfl (by decide) _ _ _ rfl (HO3.out.alloc _) ⟨w3.heap.size, 0, none⟩ 1 1 [.string ⟨(Lib.itoa y).toArray⟩] rfl rfl ?c1 ?c2 ?c3 ?c4 ?c5 ?_))
      case c1 => exact own_cell1 _ _ _
      case c2 => simp [Value.oneCell']
      case c3 => simp only [maxLen]; omega
      case c4 => omega
      case c5 => have := HB3.out.size; simp; omega
      intro v' w4 hown' hg _
      have hb4 := (HB3.out.alloc HB3.out.size (.cells #[.string ⟨(Lib.itoa y).toArray⟩] 9)).grown hg (by have := HB3.out.size; simp; omega) (own_ge HO3.out)
      have HB4 := Lib.hid hb4
      have HO4 := Lib.hid hown'
      clear hown' hg hb4
      go_wp2
      go_roundw
      case rel => exact ⟨k + 1, by omega, by go_num, HB4.out, by rw [HS.out]; exact HO4.out⟩
      case measure => simp [intOf]; omega
    · have hk5 : k = 5 := by omega
      subst hk5
      have e0 := HB1.out.cell (p := ⟨w.heap.size, 0, none⟩) (by simp)
      have e5 := HB1.out.cell (p := ⟨w.heap.size, 5, none⟩) (by simp)
      have e0' : wr.cell? ⟨w.heap.size, 0, none⟩ = some (.int .i64 x.op) := (HB.out.cell (p := ⟨w.heap.size, 0, none⟩) hz1).trans (e0.trans (cell_new _ rfl))
      have e5' : wr.cell? ⟨w.heap.size, 5, none⟩ = some (.int .u64 x.wide) := (HB.out.cell (p := ⟨w.heap.size, 5, none⟩) hz1).trans (e5.trans (cell_new _ rfl))
      clear e0 e5
      by_cases h24 : x.op = 24
      · have HT := Lib.hid (show textL x = Lib.join (digs x 5 ++ [Lib.decDigits x.wide.toNat]) [32] by unfold textL; rw [if_pos h24])
        have HJ := Lib.hid (join6 HX.out)
        rw [h24] at e0'
        have HD := Lib.hid (show (digs x 5 ++ [Lib.decDigits x.wide.toNat]).map strV = (digs x 5).map strV ++ [strV (Lib.decDigits x.wide.toNat)] by simp)
        have HF := Lib.hid (fun W => fmt_any x.wide hw0 hw1 W)
        generalize Lib.decDigits x.wide.toNat = D at *
        generalize digs x 5 = DG at *
        clear h24
        go_wp2_with (first
          | (go_at_call 29; refine (HF.out _ PW.out).mono ?_; rintro e w3 ⟨rfl, hb3⟩; have HB3 := Lib.hid (HB.out.trans (hb3.mono HB.out.size)); have HO3 := Lib.hid (own_below0 HO.out hb3); clear hb3)
          | (at_builtin; refine wpList_append_own _ rfl (.tmp 20) (.tmp 24) 54 rfl w1.heap.size 9 i9 _ 1 16 Tryd.underlying54 H9.out G9.out S9.out B9.out rfl (by decide) _ _ _ rfl (HO3.out.alloc _) ⟨w3.heap.size, 0, none⟩ 1 1 [.string ⟨D.toArray⟩] rfl rfl ?d1 ?d2 ?d3 ?d4 ?d5 ?_))
        case d1 => exact own_cell1 _ _ _
        case d2 => simp [Value.oneCell']
        case d3 => simp only [maxLen]; omega
        case d4 => omega
        case d5 => have := HB3.out.size; simp; omega
        intro v' w4 hown' hg _
        have hb4 := (HB3.out.alloc HB3.out.size (.cells #[.string ⟨D.toArray⟩] 9)).grown hg (by have := HB3.out.size; simp; omega) (own_ge HO3.out)
        have HB4 := Lib.hid hb4
        have HO4 := Lib.hid hown'
        clear hown' hg hb4
        go_wp2_with (go_at_call 30; refine (join_own _ (5 + 1) (DG ++ [D]) _ _ (by rw [HD.out]; exact HO4.out) (by omega) HJ.out (by omega)).mono ?_; rintro e w5 ⟨rfl, hb5⟩; have HB5 := Lib.hid (HB4.out.trans (hb5.mono HB4.out.size)); clear hb5)
        go_ret
        exact ⟨by rw [HT.out]; rfl, (below1 HB1.out).trans (HB5.out.mono (by omega))⟩
      · have hne : (x.op == 24) = false := by simpa using h24
        have HT := Lib.hid (show textL x = Lib.join (digs x 5) [32] by unfold textL; rw [if_neg h24])
        go_wp2_with (go_at_call 30; refine (join_own _ 5 (digs x 5) _ _ HO.out (by omega) (join5 (bdF HX.out)) (by omega)).mono ?_; rintro e w3 ⟨rfl, hb3⟩; have HB3 := Lib.hid (HB.out.trans (hb3.mono HB.out.size)); clear hb3)
        go_ret
        exact ⟨by rw [HT.out]; rfl, (below1 HB1.out).trans (HB3.out.mono (by omega))⟩
end Go.Proofs.YtlcmaokafklheaaDoor
