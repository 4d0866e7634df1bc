/- Flow: what the laws ask at any rate comes true. -/
import Derived.Test.YtlpijnnlmgoihaaGZ
import Derived.Test.YtlpijnnlmgoihaaU
namespace Go.Proofs.Ytlpijnnlmgoihaa
open Go.RowKit M

theorem p0_new (w : World) : InsAt (w.alloc (.cells #[.int .i64 183, .int .i64 0, .int .i64 0, .int .i64 0, .int .i64 0, .int .u64 0, .int .i64 21, .int .i64 0, .int .i64 0, .int .i64 1, .int .i64 0, .int .u64 0, .int .i64 183, .int .i64 0, .int .i64 0, .int .i64 0, .int .i64 1, .int .u64 0, .int .i64 149, .int .i64 0, .int .i64 0, .int .i64 0, .int .i64 0, .int .u64 0] 55)) (some ⟨w.heap.size, 0, none⟩) p0 :=
  ins_new (by decide) (fun i hi j v h => by
    have hi' : i < 4 := hi
    match i, hi' with
    | 0, _ => match j, h with
      | 0, h | 1, h | 2, h | 3, h | 4, h | 5, h => exact h
    | 1, _ => match j, h with
      | 0, h | 1, h | 2, h | 3, h | 4, h | 5, h => exact h
    | 2, _ => match j, h with
      | 0, h | 1, h | 2, h | 3, h | 4, h | 5, h => exact h
    | 3, _ => match j, h with
      | 0, h | 1, h | 2, h | 3, h | 4, h | 5, h => exact h) (fun i hi => by
    have hi' : i < 4 := hi
    match i, hi' with
    | 0, _ | 1, _ | 2, _ | 3, _ => exact ⟨by decide, by decide, by decide, by decide, by decide, by decide⟩)
/-- the example and its blocks in memory -/
structure Hd4 (w W : World) (q : Option Addr) (b off : Nat) (sp pp : Option Addr) (sc pc : Nat) : Prop where
  low : Below w.heap.size w W
  ins : InsAt W q p0
  lt : b < W.heap.size
  bks : BksAt W (some ⟨b, off, none⟩) (blocksL p0)
  c1 : W.cell? ⟨b, off + 1, none⟩ = some (.int .i64 2)
  c3 : W.cell? ⟨b, off + 3, none⟩ = some (.slice sp 2 sc)
  c10 : W.cell? ⟨b, off + 10, none⟩ = some (.int .i64 3)
  c14 : W.cell? ⟨b, off + 14, none⟩ = some (.slice pp 2 pc)
  n1 : NumsAt .i64 W sp [1, 2]
  n2 : NumsAt .i64 W pp [0, 1]
theorem Hd4.next {w W W' : World} {q : Option Addr} {b off : Nat} {sp pp : Option Addr} {sc pc : Nat} (h : Hd4 w W q b off sp pp sc pc) (hb : Below W.heap.size W W') : Hd4 w W' q b off sp pp sc pc :=
  ⟨h.low.trans (hb.mono h.low.size), h.ins.below hb, Nat.lt_of_lt_of_le h.lt hb.size, h.bks.below hb, (hb.cell (p := ⟨b, off + 1, none⟩) h.lt).trans h.c1, (hb.cell (p := ⟨b, off + 3, none⟩) h.lt).trans h.c3, (hb.cell (p := ⟨b, off + 10, none⟩) h.lt).trans h.c10, (hb.cell (p := ⟨b, off + 14, none⟩) h.lt).trans h.c14, h.n1.below hb, h.n2.below hb⟩
theorem Hd4.f {w W : World} {q : Option Addr} {b off : Nat} {sp pp : Option Addr} {sc pc : Nat} (h : Hd4 w W q b off sp pp sc pc) : W.cell? ⟨b, off + 1, none⟩ = some (.int .i64 2) ∧ W.cell? ⟨b, off + 3, none⟩ = some (.slice sp 2 sc) ∧ W.cell? ⟨b, off + 10, none⟩ = some (.int .i64 3) ∧ W.cell? ⟨b, off + 14, none⟩ = some (.slice pp 2 pc) ∧ b < W.heap.size := ⟨h.c1, h.c3, h.c10, h.c14, h.lt⟩
theorem blocks_p0 (q : Option Addr) (qc : Nat) (w0 w : World) (h : InsAt w q p0) (hlow : Below w0.heap.size w0 w) : Calls Try.prog 7 #[.slice q 4 qc] w fun e w' => ∃ b off sp pp sc pc c, e = .returned (.tuple #[.slice (some ⟨b, off, none⟩) 3 c, .int .i64 0]) ∧ Hd4 w0 w' q b off sp pp sc pc := by
  refine (sblocks_any q qc p0 w h).mono ?_
  rintro e w' ⟨p, c, rfl, hB, hb⟩
  have hb0 := hB
  rw [p0_blocks] at hB ⊢
  obtain ⟨b, off, sp, sc, pp, pc, rfl, hl, _, d1, _, d3, _, n1, _⟩ := hB.cells 0 (by decide)
  obtain ⟨b', off', sp', sc', pp', pc', hq, _, e0, _, _, _, e4, _, n2⟩ := hB.cells 2 (by decide)
  obtain ⟨rfl, rfl⟩ : b = b' ∧ off = off' := by injection hq with hq; injection hq with h1 h2; exact ⟨h1, h2⟩
  refine ⟨b, off, sp, pp', sc, pc', c, ?_, hlow.trans (hb.mono hlow.size), h.below hb, hl, hb0, d1, d3, e0, by rw [show off + 14 = off + 2 * 5 + 4 by omega]; exact e4, n1, n2⟩
  rw [p0_check]
  rfl
theorem blocks_nil (w : World) : Calls Try.prog 7 #[.slice none 0 0] w fun e w' => ∃ p c, e = .returned (.tuple #[.slice p 0 c, .int .i64 40]) ∧ Below w.heap.size w w' := by
  refine (sblocks_any none 0 [] w ⟨Nat.zero_le _, fun i hi => absurd hi (Nat.not_lt_zero _), fun i hi => absurd hi (Nat.not_lt_zero _)⟩).mono ?_
  rintro e w' ⟨p, c, rfl, _, hb⟩
  rw [blocks_no (show ¬ (checkS []).2 = 0 by decide)]
  exact ⟨p, c, rfl, hb⟩
theorem reach_p0 (q : Option Addr) (qc : Nat) (w : World) (h : InsAt w q p0) : Calls Try.prog 11 #[.slice q 4 qc] w fun e w' => ∃ p c, e = .returned (.slice p 4 c) ∧ NumsAt .i64 w' p [0, 1, 2, 3] ∧ Below w.heap.size w w' := by
  refine (sreach_any q qc p0 w h).mono ?_
  rintro e w' ⟨p, c, rfl, hN, hb⟩
  rw [p0_reachI] at hN ⊢
  exact ⟨p, c, rfl, hN, hb⟩
theorem find_p0 (p : Option Addr) (c : Nat) (x y : Int) (hy : findB [⟨0, 2, 1, [1, 2], []⟩, ⟨2, 3, 2, [2], [0]⟩, ⟨3, 4, 3, [], [0, 1]⟩] x = y) (w : World) (h : BksAt w p (blocksL p0)) : Calls Try.prog 13 #[.slice p 3 c, .int .i64 x] w fun e w' => e = .returned (.int .i64 y) ∧ Below w.heap.size w w' := by
  have := sfind_any p c (blocksL p0) x w h
  rw [p0_blocks, hy] at this
  exact this
theorem nums2 (w : World) (t : TypeId) (x y : Int) : NumsAt .i64 (w.alloc (.cells #[.int .i64 x, .int .i64 y] t)) (some ⟨w.heap.size, 0, none⟩) [x, y] := nums_new w t [x, y] _ rfl (by simp)
theorem nums4 (w : World) (t : TypeId) : NumsAt .i64 (w.alloc (.cells #[.int .i64 0, .int .i64 1, .int .i64 2, .int .i64 3] t)) (some ⟨w.heap.size, 0, none⟩) [0, 1, 2, 3] := nums_new w t [0, 1, 2, 3] _ rfl (by decide)
theorem ints2 (p q : Option Addr) (c d : Nat) (x y : Int) (w : World) (h1 : NumsAt .i64 w p [x, y]) (h2 : NumsAt .i64 w q [x, y]) : Calls Try.prog 10 #[.slice p 2 c, .slice q 2 d] w fun e w' => e = .returned (.bool true) ∧ Below w.heap.size w w' := ints_eq p q c d [x, y] w h1 h2
theorem ints4 (p q : Option Addr) (c d : Nat) (w : World) (h1 : NumsAt .i64 w p [0, 1, 2, 3]) (h2 : NumsAt .i64 w q [0, 1, 2, 3]) : Calls Try.prog 10 #[.slice p 4 c, .slice q 4 d] w fun e w' => e = .returned (.bool true) ∧ Below w.heap.size w w' := ints_eq p q c d [0, 1, 2, 3] w h1 h2
set_option maxRecDepth 100000 in
set_option maxHeartbeats 2000000 in
theorem heads14_any (w : World) : Calls Try.prog 15 #[] w fun e w' => e = .returned (.bool true) ∧ Below w.heap.size w w' := by
  have HP := Lib.hid (p0_new w)
  go_enter Try.func15, Try.ntmps15
  go_wp2_with (first
    | (go_at_call 10; (with_reducible refine (ints4 _ _ _ _ _ (HRN.out.below b1) (nums4 _ _)).mono ?_); rintro e w9 ⟨rfl, hb⟩; have H' := Lib.hid ((HN.out.next b1).next hb); clear hb HN F; have HN := H'; clear H'; have F := HN.out.f)
    | (go_at_call 11; (with_reducible refine (reach_p0 _ _ _ HN.out.ins).mono ?_); rintro e w8 ⟨p8, c8, rfl, hN, hb⟩; have HRN := Lib.hid hN; have H' := Lib.hid (HN.out.next hb); clear hb hN HN F; have HN := H'; clear H'; have F := HN.out.f)
    | (go_at_call 13; (with_reducible refine (find_p0 _ _ 2 1 (by decide +kernel) _ HN.out.bks).mono ?_); rintro e w6 ⟨rfl, hb⟩; have H' := Lib.hid (HN.out.next hb); clear hb HN F; have HN := H'; clear H'; have F := HN.out.f)
    | (go_at_call 13; (with_reducible refine (find_p0 _ _ 4 (-1) (by decide +kernel) _ HN.out.bks).mono ?_); rintro e w7 ⟨rfl, hb⟩; have H' := Lib.hid (HN.out.next hb); clear hb HN F; have HN := H'; clear H'; have F := HN.out.f)
    | (go_at_call 10; (with_reducible refine (ints2 _ _ _ _ 1 2 _ (HN.out.n1.below b1) (nums2 _ _ 1 2)).mono ?_); rintro e w4 ⟨rfl, hb⟩; have H' := Lib.hid ((HN.out.next b1).next hb); clear hb HN F; have HN := H'; clear H'; have F := HN.out.f)
    | (go_at_call 10; (with_reducible refine (ints2 _ _ _ _ 0 1 _ (HN.out.n2.below b1) (nums2 _ _ 0 1)).mono ?_); rintro e w5 ⟨rfl, hb⟩; have H' := Lib.hid ((HN.out.next b1).next hb); clear hb HN F; have HN := H'; clear H'; have F := HN.out.f)
    | (go_at_call 7; (with_reducible refine (blocks_nil _).mono ?_); rintro e w3 ⟨p3, c3, rfl, hb⟩; have H' := Lib.hid (HN.out.next hb); clear hb HN F; have HN := H'; clear H'; have F := HN.out.f)
    | (go_at_call 7; (with_reducible refine (blocks_p0 _ _ w _ HP.out b1).mono ?_); rintro e w2 ⟨b, off, sp, pp, sc, pc, c, rfl, hn⟩; have HN := Lib.hid hn; clear hn; have F := HN.out.f))
  go_ret
  exact ⟨rfl, HN.out.low⟩
end Go.Proofs.Ytlpijnnlmgoihaa
