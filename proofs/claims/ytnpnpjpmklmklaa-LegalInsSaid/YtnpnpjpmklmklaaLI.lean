/- LegalIns: its walk. -/
import Derived.Test.YtnpnpjpmklmklaaU2
namespace Go.Proofs.Ytnpnpjpmklmklaa
open Go.RowKit M

theorem ins_any_v (x : In) (hx : Bd x) (w : World) : Calls Try.prog 17 #[.agg #[.int .i64 x.op, .int .i64 x.dst, .int .i64 x.src, .int .i64 x.off, .int .i64 x.imm, .int .u64 x.wide]] w fun e w' => e = .returned (.bool (insB x)) ∧ Below w.heap.size w w' := ins_any x hx w
theorem x6 (w : World) (x : In) : (w.alloc (.cells #[.int .i64 x.op, .int .i64 x.dst, .int .i64 x.src, .int .i64 x.off, .int .i64 x.imm, .int .u64 x.wide] 36)).drew.cell? ⟨w.heap.size, 0, none⟩ = some (.int .i64 x.op) ∧ (w.alloc (.cells #[.int .i64 x.op, .int .i64 x.dst, .int .i64 x.src, .int .i64 x.off, .int .i64 x.imm, .int .u64 x.wide] 36)).drew.cell? ⟨w.heap.size, 1, none⟩ = some (.int .i64 x.dst) ∧
    (w.alloc (.cells #[.int .i64 x.op, .int .i64 x.dst, .int .i64 x.src, .int .i64 x.off, .int .i64 x.imm, .int .u64 x.wide] 36)).drew.cell? ⟨w.heap.size, 2, none⟩ = some (.int .i64 x.src) ∧ (w.alloc (.cells #[.int .i64 x.op, .int .i64 x.dst, .int .i64 x.src, .int .i64 x.off, .int .i64 x.imm, .int .u64 x.wide] 36)).drew.cell? ⟨w.heap.size, 3, none⟩ = some (.int .i64 x.off) ∧
    (w.alloc (.cells #[.int .i64 x.op, .int .i64 x.dst, .int .i64 x.src, .int .i64 x.off, .int .i64 x.imm, .int .u64 x.wide] 36)).drew.cell? ⟨w.heap.size, 4, none⟩ = some (.int .i64 x.imm) ∧ (w.alloc (.cells #[.int .i64 x.op, .int .i64 x.dst, .int .i64 x.src, .int .i64 x.off, .int .i64 x.imm, .int .u64 x.wide] 36)).drew.cell? ⟨w.heap.size, 5, none⟩ = some (.int .u64 x.wide) :=
  ⟨cell_new _ rfl, cell_new _ rfl, cell_new _ rfl, cell_new _ rfl, cell_new _ rfl, cell_new _ rfl⟩
def Six (x : In) (b : Nat) (W : World) : Prop := W.cell? ⟨b, 0, none⟩ = some (.int .i64 x.op) ∧ W.cell? ⟨b, 1, none⟩ = some (.int .i64 x.dst) ∧ W.cell? ⟨b, 2, none⟩ = some (.int .i64 x.src) ∧ W.cell? ⟨b, 3, none⟩ = some (.int .i64 x.off) ∧ W.cell? ⟨b, 4, none⟩ = some (.int .i64 x.imm) ∧ W.cell? ⟨b, 5, none⟩ = some (.int .u64 x.wide)
theorem six_below {x : In} {b : Nat} {W W' : World} (h : Six x b W) (hb : b < W.heap.size) (hB : Below W.heap.size W W') : Six x b W' :=
  ⟨(hB.cell (p := ⟨b, 0, none⟩) hb).trans h.1, (hB.cell (p := ⟨b, 1, none⟩) hb).trans h.2.1, (hB.cell (p := ⟨b, 2, none⟩) hb).trans h.2.2.1, (hB.cell (p := ⟨b, 3, none⟩) hb).trans h.2.2.2.1, (hB.cell (p := ⟨b, 4, none⟩) hb).trans h.2.2.2.2.1, (hB.cell (p := ⟨b, 5, none⟩) hb).trans h.2.2.2.2.2⟩
theorem one_d {w1 w3 : World} {o : Obj} (h : Below (w1.alloc o).drew.heap.size (w1.alloc o).drew w3) : w1.heap.size < w3.heap.size := by
  have := h.size; simp at this; omega
theorem belowd {w w1 : World} {o : Obj} (h : Below (w.alloc o).drew.heap.size (w.alloc o).drew w1) : Below w.heap.size w w1 := below1d h
set_option maxRecDepth 100000 in
set_option maxHeartbeats 8000000 in
theorem ins_law (q : Option Addr) (qc : Nat) (l : List In) (i : Int) (x : In) (w : World) (h : InsAt w q l) (hx : Bd x) :
    Calls Try.prog 5 #[.slice q l.length qc, .int .i64 i, .agg #[.int .i64 x.op, .int .i64 x.dst, .int .i64 x.src, .int .i64 x.off, .int .i64 x.imm, .int .u64 x.wide]] w fun e w' => e = .returned (.bool true) ∧ Below w.heap.size w w' := by
  have HI := Lib.hid (fun W => ins_any_v x hx W)
  have HR := Lib.hid (fun W => rins_v x hx W)
  have HS := Lib.hid (fun W hW => succ_any q qc l i W hW)
  have HT := Lib.hid (fun W hW => rsucc_any q qc l i W hW)
  have HE := Lib.hid (fun p q c d W h1 h2 => ints_eq p q c d (succL l i) W h1 h2)
  unfold SuccP at HS HT
  generalize succL l i = xs at *
  generalize insB x = v at *
  have H := Lib.hid h
  generalize l.length = N at *
  generalize xs.length = M at *
  clear h hx
  go_enter Try.func5, Try.ntmps5
  go_wp2_with fail
  go_region_held3 (fun W => W.cell? ⟨w.heap.size, 0, none⟩ = some (.int .i64 x.op) ∧ W.cell? ⟨w.heap.size, 1, none⟩ = some (.int .i64 x.dst) ∧ W.cell? ⟨w.heap.size, 2, none⟩ = some (.int .i64 x.src) ∧ W.cell? ⟨w.heap.size, 3, none⟩ = some (.int .i64 x.off) ∧ W.cell? ⟨w.heap.size, 4, none⟩ = some (.int .i64 x.imm) ∧ W.cell? ⟨w.heap.size, 5, none⟩ = some (.int .u64 x.wide))
    (first | with_reducible exact x6 _ _ | with_reducible exact K1 | with_reducible exact K2 | with_reducible exact K3 | with_reducible exact K4 | with_reducible exact K5 | with_reducible exact K6 | go_keep)
    (first
    | (go_at_call 17; refine (HI.out _).mono ?_; rintro e w1 ⟨rfl, hb⟩; have B1 := Lib.hid (below1d hb); have hz1 := one_d hb; have K1 := six_below (x6 w x) (by simp) hb; unfold Six at K1; clear hb)
    | (go_at_call 18; refine (HR.out _).mono ?_; rintro e w2 ⟨rfl, hb⟩; have B2 := Lib.hid (below_next B1.out hb); have hz2 := Nat.lt_of_lt_of_le hz1 hb.size; have K2 := six_below K1 hz1 hb; unfold Six at K2; clear hb)
    | (go_at_call 20; refine (HS.out _ (H.out.below B2.out)).mono ?_; rintro e w3 ⟨p3, c3, rfl, hn, hb⟩; have B3 := Lib.hid (below_next B2.out hb); have N3 := Lib.hid hn; have hz3 := Nat.lt_of_lt_of_le hz2 hb.size; have K3 := six_below K2 hz2 hb; unfold Six at K3; clear hb hn)
    | (go_at_call 21; refine (HT.out _ (H.out.below B3.out)).mono ?_; rintro e w4 ⟨p4, c4, rfl, hn, hb⟩; have B4 := Lib.hid (below_next B3.out hb); have N4 := Lib.hid hn; have M4 := Lib.hid (N3.out.below hb); have hz4 := Nat.lt_of_lt_of_le hz3 hb.size; have K4 := six_below K3 hz3 hb; unfold Six at K4; clear hb hn)
    | (go_at_call 19; refine (HE.out _ _ _ _ _ M4.out N4.out).mono ?_; rintro e w5 ⟨rfl, hb⟩; have B5 := Lib.hid (below_next B4.out hb); have hz5 := Nat.lt_of_lt_of_le hz4 hb.size; have K5 := six_below K4 hz4 hb; unfold Six at K5; clear hb)
    | (go_at_call 14; refine (heads_any _).mono ?_; rintro e w6 ⟨rfl, hb⟩; have B6 := Lib.hid (below_next B5.out hb); have K6 := six_below K5 hz5 hb; unfold Six at K6; clear hb))
  all_goals
    go_wp2
    go_ret
    exact ⟨rfl, B6.out⟩
end Go.Proofs.Ytnpnpjpmklmklaa
