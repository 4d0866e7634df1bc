/- Bounds reckoned: what the laws ask at any rate. -/
import Derived.Test.YticjhcbkkkkckaaOQ
import Derived.Deep.DeepCutAuto
namespace Go.Proofs.Yticjhcbkkkkckaa
open Go.RowKit
attribute [local go_sem] b_and b_or b_xor b_andNot b_low b_top b_most b_signed b_unsigned b_zero b_eq s_eq b_nzero b_neq s_neq b_max b_min s_max s_min
attribute [local go_sem ↓] Go.wp_at_zero Go.wp_at_succ

/-- so many boxes, all else as it was -/
structure Sv (w W : World) (l : List (Nat × List Value)) : Prop where
  low : Below w.heap.size w W
  box : ∀ p, p ∈ l → Box W p.1 p.2
theorem Sv.start (w : World) : Sv w w [] := ⟨Below.refl _ _, fun p hp => by cases hp⟩
theorem Sv.next {w W W' : World} {l : List (Nat × List Value)} (h : Sv w W l) (hb : Below W.heap.size W W') : Sv w W' l := ⟨bnext h.low hb, fun p hp => (h.box p hp).next hb⟩
theorem Sv.drew {w W : World} {l : List (Nat × List Value)} (h : Sv w W l) : Sv w W.drew l := h.next (Below.refl _ _).drew
theorem Sv.new {w W : World} {l : List (Nat × List Value)} (h : Sv w W l) (c : List Value) (t : TypeId) : Sv w (W.alloc (.cells c.toArray t)) ((W.heap.size, c) :: l) :=
  ⟨h.low.alloc h.low.size _, fun p hp => by
    rcases List.mem_cons.1 hp with rfl | hp
    · exact Box.new W c t rfl
    · exact (h.box p hp).alloc _⟩
theorem Sv.weak {w W : World} {q : Nat × List Value} {l : List (Nat × List Value)} (h : Sv w W (q :: l)) : Sv w W l := ⟨h.low, fun p hp => h.box p (List.mem_cons_of_mem _ hp)⟩
theorem Sv.f1 {w W : World} {n : Nat} {a0 a1 a2 a3 a4 a5 : Value} {l : List (Nat × List Value)} (h : Sv w W ((n, [a0, a1, a2, a3, a4, a5]) :: l)) : (W.cell? ⟨n, 0, none⟩ = some a0 ∧ W.cell? ⟨n, 1, none⟩ = some a1 ∧ W.cell? ⟨n, 2, none⟩ = some a2 ∧ W.cell? ⟨n, 3, none⟩ = some a3 ∧ W.cell? ⟨n, 4, none⟩ = some a4 ∧ W.cell? ⟨n, 5, none⟩ = some a5) ∧ n < W.heap.size := ⟨(h.box _ List.mem_cons_self).six.1, (h.box (n, _) List.mem_cons_self).lt⟩
theorem Sv.f2 {w W : World} {n m : Nat} {a0 a1 a2 a3 a4 a5 b0 b1 b2 b3 b4 b5 : Value} {l : List (Nat × List Value)} (h : Sv w W ((n, [a0, a1, a2, a3, a4, a5]) :: (m, [b0, b1, b2, b3, b4, b5]) :: l)) : ((W.cell? ⟨n, 0, none⟩ = some a0 ∧ W.cell? ⟨n, 1, none⟩ = some a1 ∧ W.cell? ⟨n, 2, none⟩ = some a2 ∧ W.cell? ⟨n, 3, none⟩ = some a3 ∧ W.cell? ⟨n, 4, none⟩ = some a4 ∧ W.cell? ⟨n, 5, none⟩ = some a5) ∧ n < W.heap.size) ∧ (W.cell? ⟨m, 0, none⟩ = some b0 ∧ W.cell? ⟨m, 1, none⟩ = some b1 ∧ W.cell? ⟨m, 2, none⟩ = some b2 ∧ W.cell? ⟨m, 3, none⟩ = some b3 ∧ W.cell? ⟨m, 4, none⟩ = some b4 ∧ W.cell? ⟨m, 5, none⟩ = some b5) ∧ m < W.heap.size := ⟨⟨(h.box _ List.mem_cons_self).six.1, (h.box (n, _) List.mem_cons_self).lt⟩, h.weak.f1⟩
theorem Sv.f3 {w W : World} {n m k : Nat} {a0 a1 a2 a3 a4 a5 b0 b1 b2 b3 b4 b5 c0 c1 c2 c3 c4 c5 : Value} {l : List (Nat × List Value)} (h : Sv w W ((n, [a0, a1, a2, a3, a4, a5]) :: (m, [b0, b1, b2, b3, b4, b5]) :: (k, [c0, c1, c2, c3, c4, c5]) :: l)) : ((W.cell? ⟨n, 0, none⟩ = some a0 ∧ W.cell? ⟨n, 1, none⟩ = some a1 ∧ W.cell? ⟨n, 2, none⟩ = some a2 ∧ W.cell? ⟨n, 3, none⟩ = some a3 ∧ W.cell? ⟨n, 4, none⟩ = some a4 ∧ W.cell? ⟨n, 5, none⟩ = some a5) ∧ n < W.heap.size) ∧ ((W.cell? ⟨m, 0, none⟩ = some b0 ∧ W.cell? ⟨m, 1, none⟩ = some b1 ∧ W.cell? ⟨m, 2, none⟩ = some b2 ∧ W.cell? ⟨m, 3, none⟩ = some b3 ∧ W.cell? ⟨m, 4, none⟩ = some b4 ∧ W.cell? ⟨m, 5, none⟩ = some b5) ∧ m < W.heap.size) ∧ (W.cell? ⟨k, 0, none⟩ = some c0 ∧ W.cell? ⟨k, 1, none⟩ = some c1 ∧ W.cell? ⟨k, 2, none⟩ = some c2 ∧ W.cell? ⟨k, 3, none⟩ = some c3 ∧ W.cell? ⟨k, 4, none⟩ = some c4 ∧ W.cell? ⟨k, 5, none⟩ = some c5) ∧ k < W.heap.size := ⟨⟨(h.box _ List.mem_cons_self).six.1, (h.box (n, _) List.mem_cons_self).lt⟩, h.weak.f2⟩
theorem Sv.f4 {w W : World} {n m k j : Nat} {a0 a1 a2 a3 a4 a5 b0 b1 b2 b3 b4 b5 c0 c1 c2 c3 c4 c5 d0 d1 d2 d3 d4 d5 : Value} {l : List (Nat × List Value)} (h : Sv w W ((n, [a0, a1, a2, a3, a4, a5]) :: (m, [b0, b1, b2, b3, b4, b5]) :: (k, [c0, c1, c2, c3, c4, c5]) :: (j, [d0, d1, d2, d3, d4, d5]) :: l)) : ((W.cell? ⟨n, 0, none⟩ = some a0 ∧ W.cell? ⟨n, 1, none⟩ = some a1 ∧ W.cell? ⟨n, 2, none⟩ = some a2 ∧ W.cell? ⟨n, 3, none⟩ = some a3 ∧ W.cell? ⟨n, 4, none⟩ = some a4 ∧ W.cell? ⟨n, 5, none⟩ = some a5) ∧ n < W.heap.size) ∧ ((W.cell? ⟨m, 0, none⟩ = some b0 ∧ W.cell? ⟨m, 1, none⟩ = some b1 ∧ W.cell? ⟨m, 2, none⟩ = some b2 ∧ W.cell? ⟨m, 3, none⟩ = some b3 ∧ W.cell? ⟨m, 4, none⟩ = some b4 ∧ W.cell? ⟨m, 5, none⟩ = some b5) ∧ m < W.heap.size) ∧ ((W.cell? ⟨k, 0, none⟩ = some c0 ∧ W.cell? ⟨k, 1, none⟩ = some c1 ∧ W.cell? ⟨k, 2, none⟩ = some c2 ∧ W.cell? ⟨k, 3, none⟩ = some c3 ∧ W.cell? ⟨k, 4, none⟩ = some c4 ∧ W.cell? ⟨k, 5, none⟩ = some c5) ∧ k < W.heap.size) ∧ (W.cell? ⟨j, 0, none⟩ = some d0 ∧ W.cell? ⟨j, 1, none⟩ = some d1 ∧ W.cell? ⟨j, 2, none⟩ = some d2 ∧ W.cell? ⟨j, 3, none⟩ = some d3 ∧ W.cell? ⟨j, 4, none⟩ = some d4 ∧ W.cell? ⟨j, 5, none⟩ = some d5) ∧ j < W.heap.size := ⟨⟨(h.box _ List.mem_cons_self).six.1, (h.box (n, _) List.mem_cons_self).lt⟩, h.weak.f3⟩
theorem span_any (x y : B) (w : World) : Calls Try.prog 24 #[.int .u64 (U x), .int .u64 (U y)] w fun e w' => e = .returned (.agg #[.int .u64 (U ((tidy ⟨x, y, x, y, banyT⟩).getD bzero).ul), .int .u64 (U ((tidy ⟨x, y, x, y, banyT⟩).getD bzero).uh), .int .i64 (S ((tidy ⟨x, y, x, y, banyT⟩).getD bzero).sl), .int .i64 (S ((tidy ⟨x, y, x, y, banyT⟩).getD bzero).sh), .int .u64 (U ((tidy ⟨x, y, x, y, banyT⟩).getD bzero).t.v), .int .u64 (U ((tidy ⟨x, y, x, y, banyT⟩).getD bzero).t.m)]) ∧ Below w.heap.size w w' := by
  have HT : Hid (∀ W, Calls Try.prog 50 #[.agg #[.int .u64 (U x), .int .u64 (U y), .int .i64 (S x), .int .i64 (S y), .int .u64 0, .int .u64 18446744073709551615]] W fun e w' => e = .returned (tidyV (tidy ⟨x, y, x, y, banyT⟩)) ∧ Below W.heap.size W w') := Lib.hid (fun W => rtidy_any ⟨x, y, x, y, banyT⟩ W)
  have he : ∃ v, tidyV (tidy ⟨x, y, x, y, banyT⟩) = .tuple #[.agg #[.int .u64 (U ((tidy ⟨x, y, x, y, banyT⟩).getD bzero).ul), .int .u64 (U ((tidy ⟨x, y, x, y, banyT⟩).getD bzero).uh), .int .i64 (S ((tidy ⟨x, y, x, y, banyT⟩).getD bzero).sl), .int .i64 (S ((tidy ⟨x, y, x, y, banyT⟩).getD bzero).sh), .int .u64 (U ((tidy ⟨x, y, x, y, banyT⟩).getD bzero).t.v), .int .u64 (U ((tidy ⟨x, y, x, y, banyT⟩).getD bzero).t.m)], .bool v] := by
    cases tidy ⟨x, y, x, y, banyT⟩ with
    | none => exact ⟨false, rfl⟩
    | some c => exact ⟨true, rfl⟩
  obtain ⟨v, hv⟩ := he
  rw [hv] at HT
  clear hv
  generalize (tidy ⟨x, y, x, y, banyT⟩).getD bzero = c at *
  go_enter Try.func24, Try.ntmps24
  go_wp2_with (go_at_call 50; (with_reducible refine (HT.out _).mono ?_); rintro e w1 ⟨rfl, hb⟩; have B1 := Lib.hid (bl1 hb).1; have X1 := Lib.hid ((Box.new w (bv bzero) 26 rfl).next hb); clear hb; have z1 := X1.out.lt; have p1 := X1.out.six0)
  exact bodyPost_ret (by simp [results, Try.results24, go_sem, p1]) rfl ⟨rfl, by repeat (first | with_reducible exact B1.out | with_reducible refine Below.setCell ?_ (by first | (simp; omega) | simp) _ | with_reducible refine Below.alloc ?_ (by have := B1.out.size; first | (simp; omega) | simp) _)⟩
theorem hd_s1 (W : World) : Calls Try.prog 24 #[.int .u64 1, .int .u64 3] W fun e w' => e = .returned (.agg #[.int .u64 (U ((tidy ⟨1#64, 3#64, 1#64, 3#64, banyT⟩).getD bzero).ul), .int .u64 (U ((tidy ⟨1#64, 3#64, 1#64, 3#64, banyT⟩).getD bzero).uh), .int .i64 (S ((tidy ⟨1#64, 3#64, 1#64, 3#64, banyT⟩).getD bzero).sl), .int .i64 (S ((tidy ⟨1#64, 3#64, 1#64, 3#64, banyT⟩).getD bzero).sh), .int .u64 (U ((tidy ⟨1#64, 3#64, 1#64, 3#64, banyT⟩).getD bzero).t.v), .int .u64 (U ((tidy ⟨1#64, 3#64, 1#64, 3#64, banyT⟩).getD bzero).t.m)]) ∧ Below W.heap.size W w' := span_any 1#64 3#64 W
theorem hd_s2 (W : World) : Calls Try.prog 24 #[.int .u64 10, .int .u64 20] W fun e w' => e = .returned (.agg #[.int .u64 (U ((tidy ⟨10#64, 20#64, 10#64, 20#64, banyT⟩).getD bzero).ul), .int .u64 (U ((tidy ⟨10#64, 20#64, 10#64, 20#64, banyT⟩).getD bzero).uh), .int .i64 (S ((tidy ⟨10#64, 20#64, 10#64, 20#64, banyT⟩).getD bzero).sl), .int .i64 (S ((tidy ⟨10#64, 20#64, 10#64, 20#64, banyT⟩).getD bzero).sh), .int .u64 (U ((tidy ⟨10#64, 20#64, 10#64, 20#64, banyT⟩).getD bzero).t.v), .int .u64 (U ((tidy ⟨10#64, 20#64, 10#64, 20#64, banyT⟩).getD bzero).t.m)]) ∧ Below W.heap.size W w' := span_any 10#64 20#64 W
theorem heads9s : aluB 0 ((tidy ⟨1#64, 3#64, 1#64, 3#64, banyT⟩).getD bzero) ((tidy ⟨10#64, 20#64, 10#64, 20#64, banyT⟩).getD bzero) true = ⟨11#64, 23#64, 11#64, 23#64, ⟨0#64, 31#64⟩⟩ := by decide +kernel
theorem hd_add (W : World) : Calls Try.prog 8 #[.int .i64 0, .agg #[.int .u64 (U ((tidy ⟨1#64, 3#64, 1#64, 3#64, banyT⟩).getD bzero).ul), .int .u64 (U ((tidy ⟨1#64, 3#64, 1#64, 3#64, banyT⟩).getD bzero).uh), .int .i64 (S ((tidy ⟨1#64, 3#64, 1#64, 3#64, banyT⟩).getD bzero).sl), .int .i64 (S ((tidy ⟨1#64, 3#64, 1#64, 3#64, banyT⟩).getD bzero).sh), .int .u64 (U ((tidy ⟨1#64, 3#64, 1#64, 3#64, banyT⟩).getD bzero).t.v), .int .u64 (U ((tidy ⟨1#64, 3#64, 1#64, 3#64, banyT⟩).getD bzero).t.m)], .agg #[.int .u64 (U ((tidy ⟨10#64, 20#64, 10#64, 20#64, banyT⟩).getD bzero).ul), .int .u64 (U ((tidy ⟨10#64, 20#64, 10#64, 20#64, banyT⟩).getD bzero).uh), .int .i64 (S ((tidy ⟨10#64, 20#64, 10#64, 20#64, banyT⟩).getD bzero).sl), .int .i64 (S ((tidy ⟨10#64, 20#64, 10#64, 20#64, banyT⟩).getD bzero).sh), .int .u64 (U ((tidy ⟨10#64, 20#64, 10#64, 20#64, banyT⟩).getD bzero).t.v), .int .u64 (U ((tidy ⟨10#64, 20#64, 10#64, 20#64, banyT⟩).getD bzero).t.m)], .bool true] W fun e w' => e = .returned (.tuple #[.agg #[.int .u64 11, .int .u64 23, .int .i64 11, .int .i64 23, .int .u64 0, .int .u64 31], .bool true]) ∧ Below W.heap.size W w' := by
  have h := aalu_any 0 (by decide) ((tidy ⟨1#64, 3#64, 1#64, 3#64, banyT⟩).getD bzero) ((tidy ⟨10#64, 20#64, 10#64, 20#64, banyT⟩).getD bzero) true W
  rw [heads9s] at h
  exact h
theorem hd_and : ∃ k : Bd, ∀ W, Calls Try.prog 8 #[.int .i64 80, .agg #[.int .u64 (U bany.ul), .int .u64 (U bany.uh), .int .i64 (S bany.sl), .int .i64 (S bany.sh), .int .u64 (U bany.t.v), .int .u64 (U bany.t.m)], .agg #[.int .u64 (U (bconst 7#64).ul), .int .u64 (U (bconst 7#64).uh), .int .i64 (S (bconst 7#64).sl), .int .i64 (S (bconst 7#64).sh), .int .u64 (U (bconst 7#64).t.v), .int .u64 (U (bconst 7#64).t.m)], .bool true] W fun e w' => e = .returned (.tuple #[.agg #[.int .u64 (U k.ul), .int .u64 7, .int .i64 0, .int .i64 (S k.sh), .int .u64 (U k.t.v), .int .u64 (U k.t.m)], .bool true]) ∧ Below W.heap.size W w' := by
  refine ⟨aluB 80 bany (bconst 7#64) true, fun W => ?_⟩
  have h := aalu_any 80 (by decide) bany (bconst 7#64) true W
  rw [heads9.2.1, heads9.2.2.1] at h
  exact h
theorem hd_no (W : World) : Calls Try.prog 8 #[.int .i64 208, .agg #[.int .u64 (U bany.ul), .int .u64 (U bany.uh), .int .i64 (S bany.sl), .int .i64 (S bany.sh), .int .u64 (U bany.t.v), .int .u64 (U bany.t.m)], .agg #[.int .u64 (U bany.ul), .int .u64 (U bany.uh), .int .i64 (S bany.sl), .int .i64 (S bany.sh), .int .u64 (U bany.t.v), .int .u64 (U bany.t.m)], .bool true] W fun e w' => e = .returned (.tuple #[.agg #[.int .u64 (U bany.ul), .int .u64 (U bany.uh), .int .i64 (S bany.sl), .int .i64 (S bany.sh), .int .u64 (U bany.t.v), .int .u64 (U bany.t.m)], .bool false]) ∧ Below W.heap.size W w' := aalu_any 208 (by decide) bany bany true W
theorem hd_mov : ∃ k : Bd, ∀ W, Calls Try.prog 8 #[.int .i64 176, .agg #[.int .u64 (U bany.ul), .int .u64 (U bany.uh), .int .i64 (S bany.sl), .int .i64 (S bany.sh), .int .u64 (U bany.t.v), .int .u64 (U bany.t.m)], .agg #[.int .u64 (U bany.ul), .int .u64 (U bany.uh), .int .i64 (S bany.sl), .int .i64 (S bany.sh), .int .u64 (U bany.t.v), .int .u64 (U bany.t.m)], .bool false] W fun e w' => e = .returned (.tuple #[.agg #[.int .u64 (U k.ul), .int .u64 4294967295, .int .i64 (S k.sl), .int .i64 (S k.sh), .int .u64 (U k.t.v), .int .u64 (U k.t.m)], .bool true]) ∧ Below W.heap.size W w' := by
  refine ⟨aluB 176 bany bany false, fun W => ?_⟩
  have h := aalu_any 176 (by decide) bany bany false W
  rw [heads9.2.2.2] at h
  exact h
theorem hd_7 (W : World) : Calls Try.prog 14 #[.int .u64 7] W fun e w' => e = .returned (.agg #[.int .u64 (U (bconst 7#64).ul), .int .u64 (U (bconst 7#64).uh), .int .i64 (S (bconst 7#64).sl), .int .i64 (S (bconst 7#64).sh), .int .u64 (U (bconst 7#64).t.v), .int .u64 (U (bconst 7#64).t.m)]) ∧ Below W.heap.size W w' := rbconst_any 7#64 W
set_option maxRecDepth 100000 in
set_option maxHeartbeats 4000000 in
theorem heads_any (w : World) : Calls Try.prog 10 #[] w fun e w' => e = .returned (.bool true) ∧ Below w.heap.size w w' := by
  have HN := Lib.hid (Sv.start w)
  have H1 := Lib.hid hd_s1
  have H2 := Lib.hid hd_s2
  have HP := Lib.hid hd_add
  obtain ⟨k, hk⟩ := hd_and
  obtain ⟨j, hj⟩ := hd_mov
  have HK := Lib.hid hk
  have HJ := Lib.hid hj
  have HO := Lib.hid hd_no
  have H7 := Lib.hid hd_7
  have HA := Lib.hid (fun W => rbany_any W)
  have he := eqD bany bany
  rw [decide_eq_true (rfl : bany = bany)] at he
  clear hk hj
  generalize (tidy ⟨1#64, 3#64, 1#64, 3#64, banyT⟩).getD bzero = s1 at *
  generalize (tidy ⟨10#64, 20#64, 10#64, 20#64, banyT⟩).getD bzero = s2 at *
  generalize bconst 7#64 = c7 at *
  generalize bany = ca at *
  go_enter Try.func10, Try.ntmps10
  go_wp2_with (first
    | (go_at_call 24; (with_reducible refine (H1.out _).mono ?_); rintro e w1 ⟨rfl, hb⟩; have H' := Lib.hid (HN.out.next hb); clear hb HN; have HN := H'; clear H')
    | (go_at_call 24; (with_reducible refine (H2.out _).mono ?_); rintro e w2 ⟨rfl, hb⟩; have H' := Lib.hid (HN.out.next hb); clear hb HN; have HN := H'; clear H')
    | (go_at_call 8; (with_reducible refine (HP.out _).mono ?_); rintro e w3 ⟨rfl, hb⟩; have H' := Lib.hid ((HN.out.next hb).new [.int .u64 11, .int .u64 23, .int .i64 11, .int .i64 23, .int .u64 0, .int .u64 31] 26); clear hb HN; have HN := H'; clear H'; have F := HN.out.f1)
    | (go_at_call 8; (with_reducible refine (HK.out _).mono ?_); rintro e w4 ⟨rfl, hb⟩; have H' := Lib.hid ((HN.out.next hb).new [.int .u64 (U k.ul), .int .u64 7, .int .i64 0, .int .i64 (S k.sh), .int .u64 (U k.t.v), .int .u64 (U k.t.m)] 26); clear hb HN F; have HN := H'; clear H'; have F := HN.out.f2)
    | (go_at_call 8; (with_reducible refine (HO.out _).mono ?_); rintro e w5 ⟨rfl, hb⟩; have H' := Lib.hid ((HN.out.next hb).new (bv ca) 26); clear hb HN F; have HN := H'; clear H'; have F := HN.out.f3)
    | (go_at_call 8; (with_reducible refine (HJ.out _).mono ?_); rintro e w6 ⟨rfl, hb⟩; have H' := Lib.hid ((HN.out.next hb).new [.int .u64 (U j.ul), .int .u64 4294967295, .int .i64 (S j.sl), .int .i64 (S j.sh), .int .u64 (U j.t.v), .int .u64 (U j.t.m)] 26); clear hb HN F; have HN := H'; clear H'; have F := HN.out.f4)
    | (go_at_call 14; (with_reducible refine (H7.out _).mono ?_); rintro e w7 ⟨rfl, hb⟩; have H' := Lib.hid (HN.out.next hb); clear hb HN; have HN := H'; clear H')
    | (go_at_call 15; (with_reducible refine (HA.out _).mono ?_); rintro e w8 ⟨rfl, hb⟩; have H' := Lib.hid (HN.out.next hb); clear hb HN; have HN := H'; clear H'))
  go_region_held3 (fun W => ((W.cell? ⟨w6.heap.size, 0, none⟩ = some (.int .u64 (U j.ul)) ∧ W.cell? ⟨w6.heap.size, 1, none⟩ = some (.int .u64 4294967295) ∧ W.cell? ⟨w6.heap.size, 2, none⟩ = some (.int .i64 (S j.sl)) ∧ W.cell? ⟨w6.heap.size, 3, none⟩ = some (.int .i64 (S j.sh)) ∧ W.cell? ⟨w6.heap.size, 4, none⟩ = some (.int .u64 (U j.t.v)) ∧ W.cell? ⟨w6.heap.size, 5, none⟩ = some (.int .u64 (U j.t.m))) ∧ w6.heap.size < W.heap.size) ∧ ((W.cell? ⟨w5.heap.size, 0, none⟩ = some (.int .u64 (U ca.ul)) ∧ W.cell? ⟨w5.heap.size, 1, none⟩ = some (.int .u64 (U ca.uh)) ∧ W.cell? ⟨w5.heap.size, 2, none⟩ = some (.int .i64 (S ca.sl)) ∧ W.cell? ⟨w5.heap.size, 3, none⟩ = some (.int .i64 (S ca.sh)) ∧ W.cell? ⟨w5.heap.size, 4, none⟩ = some (.int .u64 (U ca.t.v)) ∧ W.cell? ⟨w5.heap.size, 5, none⟩ = some (.int .u64 (U ca.t.m))) ∧ w5.heap.size < W.heap.size) ∧ ((W.cell? ⟨w4.heap.size, 0, none⟩ = some (.int .u64 (U k.ul)) ∧ W.cell? ⟨w4.heap.size, 1, none⟩ = some (.int .u64 7) ∧ W.cell? ⟨w4.heap.size, 2, none⟩ = some (.int .i64 0) ∧ W.cell? ⟨w4.heap.size, 3, none⟩ = some (.int .i64 (S k.sh)) ∧ W.cell? ⟨w4.heap.size, 4, none⟩ = some (.int .u64 (U k.t.v)) ∧ W.cell? ⟨w4.heap.size, 5, none⟩ = some (.int .u64 (U k.t.m))) ∧ w4.heap.size < W.heap.size) ∧ (W.cell? ⟨w3.heap.size, 0, none⟩ = some (.int .u64 11) ∧ W.cell? ⟨w3.heap.size, 1, none⟩ = some (.int .u64 23) ∧ W.cell? ⟨w3.heap.size, 2, none⟩ = some (.int .i64 11) ∧ W.cell? ⟨w3.heap.size, 3, none⟩ = some (.int .i64 23) ∧ W.cell? ⟨w3.heap.size, 4, none⟩ = some (.int .u64 0) ∧ W.cell? ⟨w3.heap.size, 5, none⟩ = some (.int .u64 31)) ∧ w3.heap.size < W.heap.size)
    (first | with_reducible exact F | with_reducible exact HN.out.drew.f4)
    (first | (go_at_call 15; (with_reducible refine (HA.out _).mono ?_); rintro e w9 ⟨rfl, hb⟩; (first | have H' := Lib.hid (HN.out.next hb) | have H' := Lib.hid (HN.out.drew.next hb)); clear hb HN F; have HN := H'; clear H'; have F := HN.out.f4))
  all_goals
    go_wp2
    go_ret
    exact ⟨rfl, HN.out.low⟩
end Go.Proofs.Yticjhcbkkkkckaa
