/- Bounds: the document's own Neg. -/
import Derived.Test.YticjhcbkkkkckaaNQ
namespace Go.Proofs.Yticjhcbkkkkckaa
open Go.RowKit
attribute [local go_sem] b_and b_or b_xor b_andNot b_low b_top b_most b_signed b_unsigned b_zero b_eq s_eq b_nzero b_neq s_neq b_max b_min s_max s_min
attribute [local go_sem ↓] Go.wp_at_zero Go.wp_at_succ

/-- a bound in its box, the answer's place still empty -/
structure Rg (w W : World) (i j : Nat) (a : Bd) : Prop where
  low : Below w.heap.size w W
  fa : Box W i (bv a)
  fr : Box W j (bv bzero)
theorem Rg.next {w W W' : World} {i j : Nat} {a : Bd} (h : Rg w W i j a) (hb : Below W.heap.size W W') : Rg w W' i j a := ⟨bnext h.low hb, h.fa.next hb, h.fr.next hb⟩
theorem Rg.drew {w W : World} {i j : Nat} {a : Bd} (h : Rg w W i j a) : Rg w W.drew i j a := h.next (Below.refl _ _).drew
theorem Rg.f {w W : World} {i j : Nat} {a : Bd} (h : Rg w W i j a) : (W.cell? ⟨i, 0, none⟩ = some (.int .u64 (U a.ul)) ∧ W.cell? ⟨i, 1, none⟩ = some (.int .u64 (U a.uh)) ∧ W.cell? ⟨i, 2, none⟩ = some (.int .i64 (S a.sl)) ∧ W.cell? ⟨i, 3, none⟩ = some (.int .i64 (S a.sh)) ∧ W.cell? ⟨i, 4, none⟩ = some (.int .u64 (U a.t.v)) ∧ W.cell? ⟨i, 5, none⟩ = some (.int .u64 (U a.t.m))) ∧ i < W.heap.size := ⟨h.fa.six.1, h.fa.lt⟩
theorem Rg.g {w W : World} {i j : Nat} {a : Bd} (h : Rg w W i j a) : (W.cell? ⟨j, 0, none⟩ = some (.int .u64 0) ∧ W.cell? ⟨j, 1, none⟩ = some (.int .u64 0) ∧ W.cell? ⟨j, 2, none⟩ = some (.int .i64 0) ∧ W.cell? ⟨j, 3, none⟩ = some (.int .i64 0) ∧ W.cell? ⟨j, 4, none⟩ = some (.int .u64 0) ∧ W.cell? ⟨j, 5, none⟩ = some (.int .u64 0)) ∧ (∀ i, W.frozen? ⟨j, i, none⟩ = false) ∧ j < W.heap.size := h.fr.six0
theorem Rg.far {w W : World} {i j : Nat} {a : Bd} {v0 v1 v2 v3 v4 v5 : Value} (h : Rg w W i j a) (hij : j ≠ i) : (((((((W.setCell ⟨j, 0, none⟩ v0).setCell ⟨j, 1, none⟩ v1).setCell ⟨j, 2, none⟩ v2).setCell ⟨j, 3, none⟩ v3).setCell ⟨j, 4, none⟩ v4).setCell ⟨j, 5, none⟩ v5).cell? ⟨i, 0, none⟩ = some (.int .u64 (U a.ul)) ∧ ((((((W.setCell ⟨j, 0, none⟩ v0).setCell ⟨j, 1, none⟩ v1).setCell ⟨j, 2, none⟩ v2).setCell ⟨j, 3, none⟩ v3).setCell ⟨j, 4, none⟩ v4).setCell ⟨j, 5, none⟩ v5).cell? ⟨i, 1, none⟩ = some (.int .u64 (U a.uh)) ∧ ((((((W.setCell ⟨j, 0, none⟩ v0).setCell ⟨j, 1, none⟩ v1).setCell ⟨j, 2, none⟩ v2).setCell ⟨j, 3, none⟩ v3).setCell ⟨j, 4, none⟩ v4).setCell ⟨j, 5, none⟩ v5).cell? ⟨i, 2, none⟩ = some (.int .i64 (S a.sl)) ∧ ((((((W.setCell ⟨j, 0, none⟩ v0).setCell ⟨j, 1, none⟩ v1).setCell ⟨j, 2, none⟩ v2).setCell ⟨j, 3, none⟩ v3).setCell ⟨j, 4, none⟩ v4).setCell ⟨j, 5, none⟩ v5).cell? ⟨i, 3, none⟩ = some (.int .i64 (S a.sh)) ∧ ((((((W.setCell ⟨j, 0, none⟩ v0).setCell ⟨j, 1, none⟩ v1).setCell ⟨j, 2, none⟩ v2).setCell ⟨j, 3, none⟩ v3).setCell ⟨j, 4, none⟩ v4).setCell ⟨j, 5, none⟩ v5).cell? ⟨i, 4, none⟩ = some (.int .u64 (U a.t.v)) ∧ ((((((W.setCell ⟨j, 0, none⟩ v0).setCell ⟨j, 1, none⟩ v1).setCell ⟨j, 2, none⟩ v2).setCell ⟨j, 3, none⟩ v3).setCell ⟨j, 4, none⟩ v4).setCell ⟨j, 5, none⟩ v5).cell? ⟨i, 5, none⟩ = some (.int .u64 (U a.t.m))) ∧ i < ((((((W.setCell ⟨j, 0, none⟩ v0).setCell ⟨j, 1, none⟩ v1).setCell ⟨j, 2, none⟩ v2).setCell ⟨j, 3, none⟩ v3).setCell ⟨j, 4, none⟩ v4).setCell ⟨j, 5, none⟩ v5).heap.size := ⟨(h.fa.far6 hij).six.1, (h.fa.far6 hij).lt⟩
theorem zero_const (W : World) : Calls Try.prog 14 #[.int .u64 0] W fun e w' => e = .returned (.agg #[.int .u64 (U (bconst 0#64).ul), .int .u64 (U (bconst 0#64).uh), .int .i64 (S (bconst 0#64).sl), .int .i64 (S (bconst 0#64).sh), .int .u64 (U (bconst 0#64).t.v), .int .u64 (U (bconst 0#64).t.m)]) ∧ Below W.heap.size W w' := rbconst_any 0#64 W
set_option maxRecDepth 100000 in
set_option maxHeartbeats 1000000 in
theorem rwide_128 (a b : Bd) (w : World) : Calls Try.prog 23 #[.int .i64 128, .agg #[.int .u64 (U a.ul), .int .u64 (U a.uh), .int .i64 (S a.sl), .int .i64 (S a.sh), .int .u64 (U a.t.v), .int .u64 (U a.t.m)], .agg #[.int .u64 (U b.ul), .int .u64 (U b.uh), .int .i64 (S b.sl), .int .i64 (S b.sh), .int .u64 (U b.t.v), .int .u64 (U b.t.m)]] w fun e w' => e = .returned (.agg #[.int .u64 (U (wideB 128 a b).ul), .int .u64 (U (wideB 128 a b).uh), .int .i64 (S (wideB 128 a b).sl), .int .i64 (S (wideB 128 a b).sh), .int .u64 (U (wideB 128 a b).t.v), .int .u64 (U (wideB 128 a b).t.m)]) ∧ Below w.heap.size w w' := by
  rw [show wideB 128 a b = subB (bconst 0#64) a by unfold wideB; simp only [Int.reduceEq, if_true, if_false]]
  have HV := Lib.hid (fun W => rbvalue_any b W)
  have HZ := Lib.hid (fun W => zero_const W)
  have HC := Lib.hid (fun W => rdiff_any (bconst 0#64) a W)
  generalize subB (bconst 0#64) a = c at *
  generalize bconst 0#64 = z at *
  generalize (bvalue b).1 = k at *
  generalize (bvalue b).2 = o at *
  go_enter Try.func23, Try.ntmps23
  go_wp2_with (go_at_call 52; (with_reducible refine (HV.out _).mono ?_); rintro e w1 ⟨rfl, hb⟩; have B1 := Lib.hid (bl3 hb).1; have X1 := Lib.hid ((box_ab w a b _ _ _).1.next hb); have X2 := Lib.hid ((box_ab w a b _ _ _).2.next hb); have X3 := Lib.hid ((box_z w _ _ _).next hb); clear hb; have HN := Lib.hid (Rg.mk B1.out X1.out X3.out); clear X1 X2 X3 B1; have F := HN.out.f; have G := HN.out.g)
  go_region_held3 (fun W => (W.cell? ⟨w.heap.size, 0, none⟩ = some (.int .u64 (U a.ul)) ∧ W.cell? ⟨w.heap.size, 1, none⟩ = some (.int .u64 (U a.uh)) ∧ W.cell? ⟨w.heap.size, 2, none⟩ = some (.int .i64 (S a.sl)) ∧ W.cell? ⟨w.heap.size, 3, none⟩ = some (.int .i64 (S a.sh)) ∧ W.cell? ⟨w.heap.size, 4, none⟩ = some (.int .u64 (U a.t.v)) ∧ W.cell? ⟨w.heap.size, 5, none⟩ = some (.int .u64 (U a.t.m))) ∧ w.heap.size < W.heap.size)
    (first | with_reducible exact F | with_reducible exact HN.out.drew.f | with_reducible exact HN.out.far (by omega) | with_reducible exact HN.out.drew.far (by omega))
    (first
    | (go_at_call 14; (with_reducible refine (HZ.out _).mono ?_); rintro e w2 ⟨rfl, hb⟩; (first | have H' := Lib.hid (HN.out.next hb) | have H' := Lib.hid (HN.out.drew.next hb)); clear hb HN F G; have HN := H'; clear H'; have F := HN.out.f; have G := HN.out.g)
    | (go_at_call 55; (with_reducible refine (HC.out _).mono ?_); rintro e w3 ⟨rfl, hb⟩; (first | have H' := Lib.hid (HN.out.next hb) | have H' := Lib.hid (HN.out.drew.next hb)); clear hb HN F G; have HN := H'; clear H'; have F := HN.out.f; have G := HN.out.g))
  all_goals
    go_wp2_with fail
    exact bodyPost_ret (by simp [results, Try.results23, go_sem, G]) rfl ⟨rfl, by repeat (first | with_reducible exact HN.out.low | with_reducible exact HN.out.low.drew | with_reducible refine Below.setCell ?_ (by simp; omega) _)⟩
/-- the document's own answer for words of 64 bits -/
theorem rwide_any (op : Int) (ho : isOp op = true) (a b : Bd) (w : World) : Calls Try.prog 23 #[.int .i64 op, .agg #[.int .u64 (U a.ul), .int .u64 (U a.uh), .int .i64 (S a.sl), .int .i64 (S a.sh), .int .u64 (U a.t.v), .int .u64 (U a.t.m)], .agg #[.int .u64 (U b.ul), .int .u64 (U b.uh), .int .i64 (S b.sl), .int .i64 (S b.sh), .int .u64 (U b.t.v), .int .u64 (U b.t.m)]] w fun e w' => e = .returned (.agg #[.int .u64 (U (wideB op a b).ul), .int .u64 (U (wideB op a b).uh), .int .i64 (S (wideB op a b).sl), .int .i64 (S (wideB op a b).sh), .int .u64 (U (wideB op a b).t.v), .int .u64 (U (wideB op a b).t.m)]) ∧ Below w.heap.size w w' := by
  rcases isOp_cases ho with rfl | rfl | rfl | rfl | rfl | rfl | rfl | rfl | rfl | rfl | rfl | rfl | rfl
  · exact rwide_0 a b w
  · exact rwide_16 a b w
  · exact rwide_32 a b w
  · exact rwide_48 a b w
  · exact rwide_64 a b w
  · exact rwide_80 a b w
  · by_cases h : b.ul = b.uh
    · rw [show wideB 96 a b = shiftB 96 a (b.ul.toNat % 64) by unfold wideB; simp only [Int.reduceEq, if_false]; rw [if_pos h]]
      exact rwide_shift 96 (.inl rfl) a b h w
    · rw [show wideB 96 a b = bany by unfold wideB; simp only [Int.reduceEq, if_false]; rw [if_neg h]]
      exact rwide_none 96 (.inl rfl) a b h w
  · by_cases h : b.ul = b.uh
    · rw [show wideB 112 a b = shiftB 112 a (b.ul.toNat % 64) by unfold wideB; simp only [Int.reduceEq, if_true, if_false]; rw [if_pos h]]
      exact rwide_shift 112 (.inr (.inl rfl)) a b h w
    · rw [show wideB 112 a b = uptoU a.uh by unfold wideB; simp only [Int.reduceEq, if_true, if_false]; rw [if_neg h]]
      exact rwide_112n a b h w
  · exact rwide_128 a b w
  · exact rwide_144 a b w
  · exact rwide_160 a b w
  · exact rwide_176 a b w
  · by_cases h : b.ul = b.uh
    · rw [show wideB 192 a b = shiftB 192 a (b.ul.toNat % 64) by unfold wideB; simp only [Int.reduceEq, if_false]; rw [if_pos h]]
      exact rwide_shift 192 (.inr (.inr rfl)) a b h w
    · rw [show wideB 192 a b = bany by unfold wideB; simp only [Int.reduceEq, if_false]; rw [if_neg h]]
      exact rwide_none 192 (.inr rfl) a b h w
end Go.Proofs.Yticjhcbkkkkckaa
