/- CodeWrites: its walk. -/
import Derived.Test.YtlcmaokafklheaaDoorVE
import Derived.Test.YtlcmaokafklheaaDoorRT
import Derived.Test.YtlcmaokafklheaaDoorV
namespace Go.Proofs.YtlcmaokafklheaaDoor
open Go.RowKit M

theorem text_v (x : In) (hx : Bd x) (w : World) (hp : Pow w) :
    Calls Tryd.prog 18 #[.agg #[.int .i64 x.op, .int .i64 x.dst, .int .i64 x.src, .int .i64 x.off, .int .i64 x.imm, .int .u64 x.wide]] w fun e w' => e = .returned (.string (ByteArray.mk (textL x).toArray)) ∧ Below w.heap.size w w' := text_any x hx w hp
theorem rtext_v (x : In) (hx : Bd x) (w : World) (hp : Pow w) :
    Calls Tryd.prog 19 #[.agg #[.int .i64 x.op, .int .i64 x.dst, .int .i64 x.src, .int .i64 x.off, .int .i64 x.imm, .int .u64 x.wide]] w fun e w' => e = .returned (.string (ByteArray.mk (textL x).toArray)) ∧ Below w.heap.size w w' := rtext_any x hx w hp
def Six (x : In) (b : Nat) (W : World) : Prop := W.cell? ⟨b, 0, none⟩ = some (.int .i64 x.op) ∧ W.cell? ⟨b, 1, none⟩ = some (.int .i64 x.dst) ∧ W.cell? ⟨b, 2, none⟩ = some (.int .i64 x.src) ∧ W.cell? ⟨b, 3, none⟩ = some (.int .i64 x.off) ∧ W.cell? ⟨b, 4, none⟩ = some (.int .i64 x.imm) ∧ W.cell? ⟨b, 5, none⟩ = some (.int .u64 x.wide)
theorem six_below {x : In} {b : Nat} {W W' : World} (h : Six x b W) (hb : b < W.heap.size) (hB : Below W.heap.size W W') : Six x b W' :=
  ⟨(hB.cell (p := ⟨b, 0, none⟩) hb).trans h.1, (hB.cell (p := ⟨b, 1, none⟩) hb).trans h.2.1, (hB.cell (p := ⟨b, 2, none⟩) hb).trans h.2.2.1, (hB.cell (p := ⟨b, 3, none⟩) hb).trans h.2.2.2.1, (hB.cell (p := ⟨b, 4, none⟩) hb).trans h.2.2.2.2.1, (hB.cell (p := ⟨b, 5, none⟩) hb).trans h.2.2.2.2.2⟩
theorem x6 (w : World) (x : In) : (w.alloc (.cells #[.int .i64 x.op, .int .i64 x.dst, .int .i64 x.src, .int .i64 x.off, .int .i64 x.imm, .int .u64 x.wide] 38)).drew.cell? ⟨w.heap.size, 0, none⟩ = some (.int .i64 x.op) ∧ (w.alloc (.cells #[.int .i64 x.op, .int .i64 x.dst, .int .i64 x.src, .int .i64 x.off, .int .i64 x.imm, .int .u64 x.wide] 38)).drew.cell? ⟨w.heap.size, 1, none⟩ = some (.int .i64 x.dst) ∧
    (w.alloc (.cells #[.int .i64 x.op, .int .i64 x.dst, .int .i64 x.src, .int .i64 x.off, .int .i64 x.imm, .int .u64 x.wide] 38)).drew.cell? ⟨w.heap.size, 2, none⟩ = some (.int .i64 x.src) ∧ (w.alloc (.cells #[.int .i64 x.op, .int .i64 x.dst, .int .i64 x.src, .int .i64 x.off, .int .i64 x.imm, .int .u64 x.wide] 38)).drew.cell? ⟨w.heap.size, 3, none⟩ = some (.int .i64 x.off) ∧
    (w.alloc (.cells #[.int .i64 x.op, .int .i64 x.dst, .int .i64 x.src, .int .i64 x.off, .int .i64 x.imm, .int .u64 x.wide] 38)).drew.cell? ⟨w.heap.size, 4, none⟩ = some (.int .i64 x.imm) ∧ (w.alloc (.cells #[.int .i64 x.op, .int .i64 x.dst, .int .i64 x.src, .int .i64 x.off, .int .i64 x.imm, .int .u64 x.wide] 38)).drew.cell? ⟨w.heap.size, 5, none⟩ = some (.int .u64 x.wide) :=
  ⟨cell_new _ rfl, cell_new _ rfl, cell_new _ rfl, cell_new _ rfl, cell_new _ rfl, cell_new _ rfl⟩
theorem x0 (w : World) : (w.alloc (.cells #[.int .i64 0, .int .i64 0, .int .i64 0, .int .i64 0, .int .i64 0, .int .u64 0] 38)).drew.cell? ⟨w.heap.size, 0, none⟩ = some (.int .i64 0) ∧ (w.alloc (.cells #[.int .i64 0, .int .i64 0, .int .i64 0, .int .i64 0, .int .i64 0, .int .u64 0] 38)).drew.cell? ⟨w.heap.size, 1, none⟩ = some (.int .i64 0) ∧
    (w.alloc (.cells #[.int .i64 0, .int .i64 0, .int .i64 0, .int .i64 0, .int .i64 0, .int .u64 0] 38)).drew.cell? ⟨w.heap.size, 2, none⟩ = some (.int .i64 0) ∧ (w.alloc (.cells #[.int .i64 0, .int .i64 0, .int .i64 0, .int .i64 0, .int .i64 0, .int .u64 0] 38)).drew.cell? ⟨w.heap.size, 3, none⟩ = some (.int .i64 0) ∧
    (w.alloc (.cells #[.int .i64 0, .int .i64 0, .int .i64 0, .int .i64 0, .int .i64 0, .int .u64 0] 38)).drew.cell? ⟨w.heap.size, 4, none⟩ = some (.int .i64 0) ∧ (w.alloc (.cells #[.int .i64 0, .int .i64 0, .int .i64 0, .int .i64 0, .int .i64 0, .int .u64 0] 38)).drew.cell? ⟨w.heap.size, 5, none⟩ = some (.int .u64 0) := x6 w z
theorem bd0 {w : World} {o : Obj} : Below w.heap.size w (w.alloc o).drew := ((Below.refl _ _).alloc (Nat.le_refl _) _).drew
set_option maxRecDepth 100000 in
set_option maxHeartbeats 8000000 in
theorem writes_any (q : Option Addr) (qc : Nat) (l : List In) (i : Int) (w : World) (h : InsAt w q l) (hE : Env w) :
    Calls Tryd.prog 4 #[.slice q l.length qc, .int .i64 i] w fun e w' => e = .returned (.bool true) ∧ Below w.heap.size w w' := by
  have H1 := Lib.hid (fun W hW hE => encode_any q qc l W hW hE)
  have H2 := Lib.hid (fun W hW => rencode_any q qc l W hW)
  have HH := Lib.hid (fun W hW => hole_any q qc l i W hW)
  have HR := Lib.hid (fun W hW => rhole_any q qc l i W hW)
  unfold EncR at H1 H2
  generalize encS l = D at *
  obtain ⟨bs, c⟩ := D
  have HS := Lib.hid (fun p q c d W h1 h2 => rsame_rows p q c d bs W h1 h2)
  dsimp only at H1 H2
  have hs := h.small
  have H := Lib.hid h
  have E0 := Lib.hid hE
  generalize holeB l i = v at *
  have hcase : (0 ≤ i ∧ i < (l.length : Int)) ∨ ¬ (0 ≤ i ∧ i < (l.length : Int)) := Classical.em _
  rcases hcase with ⟨i0, i1⟩ | hno
  · obtain ⟨j, rfl⟩ := Int.eq_ofNat_of_zero_le i0
    obtain ⟨b, o, rfl, hbl, _⟩ := h.cells j (by omega)
    have HC := Lib.hid (fun W (hW : InsAt W (some ⟨b, o, none⟩) l) => hW.cells j (by omega))
    have HX := Lib.hid (fun W => text_v (l.getD j z) (h.bd j (by omega)) W)
    have HY := Lib.hid (fun W => rtext_v (l.getD j z) (h.bd j (by omega)) W)
    generalize ByteArray.mk (textL (l.getD j z)).toArray = T at *
    generalize l.getD j z = X at *
    generalize l.length = N at *
    generalize bs.length = M at *
    clear h hE
    go_enter Tryd.func4, Tryd.ntmps4
    go_wp2_with (first
      | (go_at_call 13; refine (H1.out _ H.out E0.out).mono ?_; rintro e w1 ⟨p1, c1, rfl, hr1, hc1, hb1⟩; have B1 := Lib.hid hb1; have R1 := Lib.hid hr1; clear hb1 hr1 hc1)
      | (go_at_call 14; refine (H2.out _ (H.out.below B1.out)).mono ?_; rintro e w2 ⟨p2, c2, rfl, hr2, hc2, hb2⟩; have B2 := Lib.hid (below_next B1.out hb2); have R2 := Lib.hid hr2; have Q1 := Lib.hid (R1.out.below hb2); obtain ⟨b', o', hq, hbl2, d0, d1, d2, d3, d4, d5⟩ := HC.out _ (H.out.below B2.out); obtain ⟨rfl, rfl⟩ : b = b' ∧ o = o' := (by injection hq with hq; injection hq with h1 h2; exact ⟨h1, h2⟩); clear hq hb2 hr2 hc2))
    go_region_held3 (fun W => W.cell? ⟨w2.heap.size, 0, none⟩ = some (.int .i64 X.op) ∧ W.cell? ⟨w2.heap.size, 1, none⟩ = some (.int .i64 X.dst) ∧ W.cell? ⟨w2.heap.size, 2, none⟩ = some (.int .i64 X.src) ∧ W.cell? ⟨w2.heap.size, 3, none⟩ = some (.int .i64 X.off) ∧ W.cell? ⟨w2.heap.size, 4, none⟩ = some (.int .i64 X.imm) ∧ W.cell? ⟨w2.heap.size, 5, none⟩ = some (.int .u64 X.wide))
      (first | with_reducible exact x6 _ _ | with_reducible exact K3 | with_reducible exact K4 | with_reducible exact K5 | go_keep)
      (first
      | (go_at_call 15; refine (HS.out _ _ _ _ _ (Q1.out.below bd0) (R2.out.below bd0)).mono ?_; rintro e w3 ⟨rfl, rfl⟩)
      | (go_at_call 16; refine (HH.out _ ((H.out.below B2.out).below bd0)).mono ?_; rintro e w3 ⟨rfl, rfl⟩)
      | (go_at_call 17; refine (HR.out _ ((H.out.below B2.out).below bd0)).mono ?_; rintro e w3 ⟨rfl, rfl⟩)
      | (go_at_call 18; refine (HX.out _ ((E0.out.below B2.out).below bd0).pow).mono ?_; rintro e w3 ⟨rfl, hb⟩; have B3 := Lib.hid (below_next B2.out (below1d hb)); have hz3 := one_d hb; have K3 : w3.cell? ⟨w2.heap.size, 0, none⟩ = some (.int .i64 X.op) ∧ w3.cell? ⟨w2.heap.size, 1, none⟩ = some (.int .i64 X.dst) ∧ w3.cell? ⟨w2.heap.size, 2, none⟩ = some (.int .i64 X.src) ∧ w3.cell? ⟨w2.heap.size, 3, none⟩ = some (.int .i64 X.off) ∧ w3.cell? ⟨w2.heap.size, 4, none⟩ = some (.int .i64 X.imm) ∧ w3.cell? ⟨w2.heap.size, 5, none⟩ = some (.int .u64 X.wide) := six_below (x := X) (x6 w2 X) (by simp) hb; clear hb)
      | (go_at_call 19; refine (HY.out _ (E0.out.below B3.out).pow).mono ?_; rintro e w4 ⟨rfl, hb⟩; have B4 := Lib.hid (below_next B3.out hb); have hz4 := Nat.lt_of_lt_of_le hz3 hb.size; have K4 : w4.cell? ⟨w2.heap.size, 0, none⟩ = some (.int .i64 X.op) ∧ w4.cell? ⟨w2.heap.size, 1, none⟩ = some (.int .i64 X.dst) ∧ w4.cell? ⟨w2.heap.size, 2, none⟩ = some (.int .i64 X.src) ∧ w4.cell? ⟨w2.heap.size, 3, none⟩ = some (.int .i64 X.off) ∧ w4.cell? ⟨w2.heap.size, 4, none⟩ = some (.int .i64 X.imm) ∧ w4.cell? ⟨w2.heap.size, 5, none⟩ = some (.int .u64 X.wide) := six_below (x := X) K3 hz3 hb; clear hb)
      | (go_at_call 12; refine (heads_any _ (E0.out.below B4.out)).mono ?_; rintro e w5 ⟨rfl, hb⟩; have B5 := Lib.hid (below_next B4.out hb); have K5 : w5.cell? ⟨w2.heap.size, 0, none⟩ = some (.int .i64 X.op) ∧ w5.cell? ⟨w2.heap.size, 1, none⟩ = some (.int .i64 X.dst) ∧ w5.cell? ⟨w2.heap.size, 2, none⟩ = some (.int .i64 X.src) ∧ w5.cell? ⟨w2.heap.size, 3, none⟩ = some (.int .i64 X.off) ∧ w5.cell? ⟨w2.heap.size, 4, none⟩ = some (.int .i64 X.imm) ∧ w5.cell? ⟨w2.heap.size, 5, none⟩ = some (.int .u64 X.wide) := six_below (x := X) K4 hz4 hb; clear hb))
    all_goals
      go_wp2
      go_ret
      exact ⟨rfl, B5.out⟩
  · have HX := Lib.hid (fun W => text_v z Bd.z W)
    have HY := Lib.hid (fun W => rtext_v z Bd.z W)
    generalize ByteArray.mk (textL z).toArray = T at *
    generalize l.length = N at *
    generalize bs.length = M at *
    have hcmp : (0 ≤ i ∧ (N : Int) ≤ i) ∨ i < 0 := by omega
    clear h hE hno
    rcases hcmp with ⟨i0, i1⟩ | i0
    all_goals
      go_enter Tryd.func4, Tryd.ntmps4
      go_wp2_with (first
        | (go_at_call 13; refine (H1.out _ H.out E0.out).mono ?_; rintro e w1 ⟨p1, c1, rfl, hr1, hc1, hb1⟩; have B1 := Lib.hid hb1; have R1 := Lib.hid hr1; clear hb1 hr1 hc1)
        | (go_at_call 14; refine (H2.out _ (H.out.below B1.out)).mono ?_; rintro e w2 ⟨p2, c2, rfl, hr2, hc2, hb2⟩; have B2 := Lib.hid (below_next B1.out hb2); have R2 := Lib.hid hr2; have Q1 := Lib.hid (R1.out.below hb2); clear hb2 hr2 hc2))
      go_region_held3 (fun W => W.cell? ⟨w2.heap.size, 0, none⟩ = some (.int .i64 0) ∧ W.cell? ⟨w2.heap.size, 1, none⟩ = some (.int .i64 0) ∧ W.cell? ⟨w2.heap.size, 2, none⟩ = some (.int .i64 0) ∧ W.cell? ⟨w2.heap.size, 3, none⟩ = some (.int .i64 0) ∧ W.cell? ⟨w2.heap.size, 4, none⟩ = some (.int .i64 0) ∧ W.cell? ⟨w2.heap.size, 5, none⟩ = some (.int .u64 0))
        (first | with_reducible exact x0 _ | with_reducible exact K3 | with_reducible exact K4 | with_reducible exact K5 | go_keep)
        (first
        | (go_at_call 15; refine (HS.out _ _ _ _ _ (Q1.out.below bd0) (R2.out.below bd0)).mono ?_; rintro e w3 ⟨rfl, rfl⟩)
        | (go_at_call 16; refine (HH.out _ ((H.out.below B2.out).below bd0)).mono ?_; rintro e w3 ⟨rfl, rfl⟩)
        | (go_at_call 17; refine (HR.out _ ((H.out.below B2.out).below bd0)).mono ?_; rintro e w3 ⟨rfl, rfl⟩)
        | (go_at_call 18; refine (HX.out _ ((E0.out.below B2.out).below bd0).pow).mono ?_; rintro e w3 ⟨rfl, hb⟩; have B3 := Lib.hid (below_next B2.out (below1d hb)); have hz3 := one_d hb; have K3 : w3.cell? ⟨w2.heap.size, 0, none⟩ = some (.int .i64 0) ∧ w3.cell? ⟨w2.heap.size, 1, none⟩ = some (.int .i64 0) ∧ w3.cell? ⟨w2.heap.size, 2, none⟩ = some (.int .i64 0) ∧ w3.cell? ⟨w2.heap.size, 3, none⟩ = some (.int .i64 0) ∧ w3.cell? ⟨w2.heap.size, 4, none⟩ = some (.int .i64 0) ∧ w3.cell? ⟨w2.heap.size, 5, none⟩ = some (.int .u64 0) := six_below (x := z) (x0 w2) (by simp) hb; clear hb)
        | (go_at_call 19; refine (HY.out _ (E0.out.below B3.out).pow).mono ?_; rintro e w4 ⟨rfl, hb⟩; have B4 := Lib.hid (below_next B3.out hb); have hz4 := Nat.lt_of_lt_of_le hz3 hb.size; have K4 : w4.cell? ⟨w2.heap.size, 0, none⟩ = some (.int .i64 0) ∧ w4.cell? ⟨w2.heap.size, 1, none⟩ = some (.int .i64 0) ∧ w4.cell? ⟨w2.heap.size, 2, none⟩ = some (.int .i64 0) ∧ w4.cell? ⟨w2.heap.size, 3, none⟩ = some (.int .i64 0) ∧ w4.cell? ⟨w2.heap.size, 4, none⟩ = some (.int .i64 0) ∧ w4.cell? ⟨w2.heap.size, 5, none⟩ = some (.int .u64 0) := six_below (x := z) K3 hz3 hb; clear hb)
        | (go_at_call 12; refine (heads_any _ (E0.out.below B4.out)).mono ?_; rintro e w5 ⟨rfl, hb⟩; have B5 := Lib.hid (below_next B4.out hb); have K5 : w5.cell? ⟨w2.heap.size, 0, none⟩ = some (.int .i64 0) ∧ w5.cell? ⟨w2.heap.size, 1, none⟩ = some (.int .i64 0) ∧ w5.cell? ⟨w2.heap.size, 2, none⟩ = some (.int .i64 0) ∧ w5.cell? ⟨w2.heap.size, 3, none⟩ = some (.int .i64 0) ∧ w5.cell? ⟨w2.heap.size, 4, none⟩ = some (.int .i64 0) ∧ w5.cell? ⟨w2.heap.size, 5, none⟩ = some (.int .u64 0) := six_below (x := z) K4 hz4 hb; clear hb))
      all_goals
        go_wp2
        go_ret
        exact ⟨rfl, B5.out⟩
end Go.Proofs.YtlcmaokafklheaaDoor
