/- Bounds: the document's own sums and differences. -/
import Derived.Test.YticjhcbkkkkckaaNH
import Derived.Test.YticjhcbkkkkckaaWK
namespace Go.Proofs.Yticjhcbkkkkckaa
open Go.RowKit
attribute [local go_sem] b_and b_or b_xor b_andNot b_low b_top b_most b_signed b_unsigned b_zero b_eq s_eq b_nzero b_neq s_neq b_max b_min s_max s_min
attribute [local go_sem ↓] Go.wp_at_zero Go.wp_at_succ
attribute [local go_sem] b_add b_sub b_mul b_neg b_two

theorem rfits_any (x y : B) (w : World) : Calls Try.prog 86 #[.int .i64 (S x), .int .i64 (S y)] w fun e w' => e = .returned (.bool (fitsB x y)) ∧ w = w' := by
  have hx := S_bd x
  have hy := S_bd y
  go_enter Try.func86, Try.ntmps86
  go_wp2_with fail
  all_goals
    go_ret
    exact ⟨ret_bool (by unfold fitsB S at *; first | (rw [Bool.eq_iff_iff]; simp only [Bool.and_eq_true, decide_eq_true_eq]; omega) | (simp; omega)), rfl⟩
theorem rless_any (x y : B) (w : World) : Calls Try.prog 88 #[.int .i64 (S x), .int .i64 (S y)] w fun e w' => e = .returned (.bool (lessB x y)) ∧ w = w' := by
  have hx := S_bd x
  have hy := S_bd y
  go_enter Try.func88, Try.ntmps88
  go_wp2_with fail
  all_goals
    go_ret
    exact ⟨ret_bool (by unfold lessB S at *; first | (rw [Bool.eq_iff_iff]; simp only [Bool.and_eq_true, decide_eq_true_eq]; omega) | (simp; omega)), rfl⟩
theorem s_add (x y : B) : wrap64 (S x + S y) = S (x + y) := by
  unfold wrap64 S; rw [BitVec.toInt_add, Int.bmod_def]; omega
theorem s_sub (x y : B) : wrap64 (S x - S y) = S (x - y) := by
  unfold wrap64 S; rw [BitVec.toInt_sub, Int.bmod_def]; omega
attribute [local go_sem] s_add s_sub
theorem any_cells : U bany.ul = 0 ∧ U bany.uh = 18446744073709551615 := by decide +kernel
set_option maxRecDepth 100000 in
set_option maxHeartbeats 1000000 in
theorem rsum_any (a b : Bd) (w : World) : Calls Try.prog 54 #[.agg #[.int .u64 (U a.ul), .int .u64 (U a.uh), .int .i64 (S a.sl), .int .i64 (S a.sh), .int .u64 (U a.t.v), .int .u64 (U a.t.m)], .agg #[.int .u64 (U b.ul), .int .u64 (U b.uh), .int .i64 (S b.sl), .int .i64 (S b.sh), .int .u64 (U b.t.v), .int .u64 (U b.t.m)]] w fun e w' => e = .returned (.agg #[.int .u64 (U (addB a b).ul), .int .u64 (U (addB a b).uh), .int .i64 (S (addB a b).sl), .int .i64 (S (addB a b).sh), .int .u64 (U (addB a b).t.v), .int .u64 (U (addB a b).t.m)]) ∧ Below w.heap.size w w' := by
  have HA := Lib.hid (fun W => rbany_any W)
  have HT := Lib.hid (fun W => rtadd_any a.t b.t W)
  have HF := Lib.hid (fun W => rfits_any a.sl b.sl W)
  have HG := Lib.hid (fun W => rfits_any a.sh b.sh W)
  have HE : Hid (addB a b = ⟨if a.uh.toNat + b.uh.toNat < 18446744073709551616 then a.ul + b.ul else bany.ul, if a.uh.toNat + b.uh.toNat < 18446744073709551616 then a.uh + b.uh else bany.uh,
   if fitsB a.sl b.sl = true ∧ fitsB a.sh b.sh = true then a.sl + b.sl else bany.sl, if fitsB a.sl b.sl = true ∧ fitsB a.sh b.sh = true then a.sh + b.sh else bany.sh, tadd a.t b.t⟩) := Lib.hid rfl
  rw [HE.out]
  clear HE
  generalize tadd a.t b.t = t at *
  generalize bany = ca at *
  have hb0 := U_bd b.uh
  have HX3 := Lib.hid (fun (o1 o2 : Obj) => box_z w o1 o2 26)
  have hF : ∃ f, f = fitsB a.sl b.sl := ⟨_, rfl⟩
  have hG : ∃ g, g = fitsB a.sh b.sh := ⟨_, rfl⟩
  obtain ⟨f, hf⟩ := hF
  obtain ⟨g, hg⟩ := hG
  rw [← hf] at HF
  rw [← hg] at HG
  rw [← hf, ← hg]
  clear hf hg
  by_cases c1 : a.uh.toNat + b.uh.toNat < 18446744073709551616
  · rw [if_pos c1, if_pos c1]
    have hc : U a.uh ≤ 18446744073709551615 - U b.uh := by unfold U; omega
    clear c1
    cases f <;> cases g
    all_goals
      first
        | rw [if_pos (And.intro rfl rfl), if_pos (And.intro rfl rfl)]
        | rw [if_neg (by simp), if_neg (by simp)]
      go_enter Try.func54, Try.ntmps54
      go_wp2_with (first
        | (go_at_call 15; (with_reducible refine (HA.out _).mono ?_); rintro e w1 ⟨rfl, hb⟩; have B1 := Lib.hid (bl3 hb).1; have X1 := Lib.hid ((box_ab w a b _ _ _).1.next hb); have X2 := Lib.hid ((box_ab w a b _ _ _).2.next hb); have X3 := Lib.hid ((box_z w _ _ _).next hb); clear hb; have p1 := X1.out.six; have p2 := X2.out.six; have p3 := X3.out.six0)
        | (go_at_call 85; (with_reducible refine (HT.out _).mono ?_); rintro e w2 ⟨rfl, hb⟩; have B2 := Lib.hid (bnext B1.out (bl1 hb).1); have z1 := X3.out.lt; have z2 := size_2 hb; have Y1 := (X1.out.next (bl1 hb).1).six; have Y2 := (X2.out.next (bl1 hb).1).six; have Y3 := (X3.out.next (bl1 hb).1).six0; have Y4 := ((Box.new w1 (bv ca) 26 rfl).next hb).six; clear hb p1 p2 p3)
        | (go_at_call 86; (with_reducible refine (HF.out _).mono ?_); rintro e w3 ⟨rfl, rfl⟩)
        | (go_at_call 86; (with_reducible refine (HG.out _).mono ?_); rintro e w3 ⟨rfl, rfl⟩))
      exact bodyPost_ret (by simp [results, Try.results54, go_sem, Y3]) rfl ⟨rfl, by repeat (first | with_reducible exact B2.out | with_reducible refine Below.setCell ?_ (by simp; omega) _)⟩
  · rw [if_neg c1, if_neg c1]
    have hc : 18446744073709551615 - U b.uh < U a.uh := by unfold U; omega
    clear c1
    cases f <;> cases g
    all_goals
      first
        | rw [if_pos (And.intro rfl rfl), if_pos (And.intro rfl rfl)]
        | rw [if_neg (by simp), if_neg (by simp)]
      go_enter Try.func54, Try.ntmps54
      go_wp2_with (first
        | (go_at_call 15; (with_reducible refine (HA.out _).mono ?_); rintro e w1 ⟨rfl, hb⟩; have B1 := Lib.hid (bl3 hb).1; have X1 := Lib.hid ((box_ab w a b _ _ _).1.next hb); have X2 := Lib.hid ((box_ab w a b _ _ _).2.next hb); have X3 := Lib.hid ((box_z w _ _ _).next hb); clear hb; have p1 := X1.out.six; have p2 := X2.out.six; have p3 := X3.out.six0)
        | (go_at_call 85; (with_reducible refine (HT.out _).mono ?_); rintro e w2 ⟨rfl, hb⟩; have B2 := Lib.hid (bnext B1.out (bl1 hb).1); have z1 := X3.out.lt; have z2 := size_2 hb; have Y1 := (X1.out.next (bl1 hb).1).six; have Y2 := (X2.out.next (bl1 hb).1).six; have Y3 := (X3.out.next (bl1 hb).1).six0; have Y4 := ((Box.new w1 (bv ca) 26 rfl).next hb).six; clear hb p1 p2 p3)
        | (go_at_call 86; (with_reducible refine (HF.out _).mono ?_); rintro e w3 ⟨rfl, rfl⟩)
        | (go_at_call 86; (with_reducible refine (HG.out _).mono ?_); rintro e w3 ⟨rfl, rfl⟩))
      exact bodyPost_ret (by simp [results, Try.results54, go_sem, Y3]) rfl ⟨rfl, by repeat (first | with_reducible exact B2.out | with_reducible refine Below.setCell ?_ (by simp; omega) _)⟩
end Go.Proofs.Yticjhcbkkkkckaa
