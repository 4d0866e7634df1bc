/- Bounds: the document's own differences. -/
import Derived.Test.YticjhcbkkkkckaaNI
namespace Go.Proofs.Yticjhcbkkkkckaa
open Go.RowKit
attribute [local go_sem] b_and b_or b_xor b_andNot b_low b_top b_most b_signed b_unsigned b_zero b_eq s_eq b_nzero b_neq s_neq b_max b_min s_max s_min
attribute [local go_sem ↓] Go.wp_at_zero Go.wp_at_succ
attribute [local go_sem] b_add b_sub b_mul b_neg b_two s_add s_sub

set_option maxRecDepth 100000 in
set_option maxHeartbeats 1000000 in
theorem rdiff_any (a b : Bd) (w : World) : Calls Try.prog 55 #[.agg #[.int .u64 (U a.ul), .int .u64 (U a.uh), .int .i64 (S a.sl), .int .i64 (S a.sh), .int .u64 (U a.t.v), .int .u64 (U a.t.m)], .agg #[.int .u64 (U b.ul), .int .u64 (U b.uh), .int .i64 (S b.sl), .int .i64 (S b.sh), .int .u64 (U b.t.v), .int .u64 (U b.t.m)]] w fun e w' => e = .returned (.agg #[.int .u64 (U (subB a b).ul), .int .u64 (U (subB a b).uh), .int .i64 (S (subB a b).sl), .int .i64 (S (subB a b).sh), .int .u64 (U (subB a b).t.v), .int .u64 (U (subB a b).t.m)]) ∧ Below w.heap.size w w' := by
  have HA := Lib.hid (fun W => rbany_any W)
  have HT := Lib.hid (fun W => rtsub_any a.t b.t W)
  have HF := Lib.hid (fun W => rless_any a.sl b.sh W)
  have HG := Lib.hid (fun W => rless_any a.sh b.sl W)
  have HE : Hid (subB a b = ⟨if b.uh.toNat ≤ a.ul.toNat then a.ul - b.uh else bany.ul, if b.uh.toNat ≤ a.ul.toNat then a.uh - b.ul else bany.uh,
   if lessB a.sl b.sh = true ∧ lessB a.sh b.sl = true then a.sl - b.sh else bany.sl, if lessB a.sl b.sh = true ∧ lessB a.sh b.sl = true then a.sh - b.sl else bany.sh, tsub a.t b.t⟩) := Lib.hid rfl
  rw [HE.out]
  clear HE
  generalize tsub a.t b.t = t at *
  generalize bany = ca at *
  have hb0 := U_bd b.uh
  have HX3 := Lib.hid (fun (o1 o2 : Obj) => box_z w o1 o2 26)
  have hF : ∃ f, f = lessB a.sl b.sh := ⟨_, rfl⟩
  have hG : ∃ g, g = lessB a.sh b.sl := ⟨_, rfl⟩
  obtain ⟨f, hf⟩ := hF
  obtain ⟨g, hg⟩ := hG
  rw [← hf] at HF
  rw [← hg] at HG
  rw [← hf, ← hg]
  clear hf hg
  by_cases c1 : b.uh.toNat ≤ a.ul.toNat
  · rw [if_pos c1, if_pos c1]
    have hc : U b.uh ≤ U a.ul := by unfold U; omega
    clear c1
    cases f <;> cases g
    all_goals
      first
        | rw [if_pos (And.intro rfl rfl), if_pos (And.intro rfl rfl)]
        | rw [if_neg (by simp), if_neg (by simp)]
      go_enter Try.func55, Try.ntmps55
      go_wp2_with (first
        | (go_at_call 15; (with_reducible refine (HA.out _).mono ?_); rintro e w1 ⟨rfl, hb⟩; have B1 := Lib.hid (bl3 hb).1; have X1 := Lib.hid ((box_ab w a b _ _ _).1.next hb); have X2 := Lib.hid ((box_ab w a b _ _ _).2.next hb); have X3 := Lib.hid ((box_z w _ _ _).next hb); clear hb; have p1 := X1.out.six; have p2 := X2.out.six; have p3 := X3.out.six0)
        | (go_at_call 87; (with_reducible refine (HT.out _).mono ?_); rintro e w2 ⟨rfl, hb⟩; have B2 := Lib.hid (bnext B1.out (bl1 hb).1); have z1 := X3.out.lt; have z2 := size_2 hb; have Y1 := (X1.out.next (bl1 hb).1).six; have Y2 := (X2.out.next (bl1 hb).1).six; have Y3 := (X3.out.next (bl1 hb).1).six0; have Y4 := ((Box.new w1 (bv ca) 26 rfl).next hb).six; clear hb p1 p2 p3)
        | (go_at_call 88; (with_reducible refine (HF.out _).mono ?_); rintro e w3 ⟨rfl, rfl⟩)
        | (go_at_call 88; (with_reducible refine (HG.out _).mono ?_); rintro e w3 ⟨rfl, rfl⟩))
      exact bodyPost_ret (by simp [results, Try.results55, go_sem, Y3]) rfl ⟨rfl, by repeat (first | with_reducible exact B2.out | with_reducible refine Below.setCell ?_ (by simp; omega) _)⟩
  · rw [if_neg c1, if_neg c1]
    have hc : U a.ul < U b.uh := by unfold U; omega
    clear c1
    cases f <;> cases g
    all_goals
      first
        | rw [if_pos (And.intro rfl rfl), if_pos (And.intro rfl rfl)]
        | rw [if_neg (by simp), if_neg (by simp)]
      go_enter Try.func55, Try.ntmps55
      go_wp2_with (first
        | (go_at_call 15; (with_reducible refine (HA.out _).mono ?_); rintro e w1 ⟨rfl, hb⟩; have B1 := Lib.hid (bl3 hb).1; have X1 := Lib.hid ((box_ab w a b _ _ _).1.next hb); have X2 := Lib.hid ((box_ab w a b _ _ _).2.next hb); have X3 := Lib.hid ((box_z w _ _ _).next hb); clear hb; have p1 := X1.out.six; have p2 := X2.out.six; have p3 := X3.out.six0)
        | (go_at_call 87; (with_reducible refine (HT.out _).mono ?_); rintro e w2 ⟨rfl, hb⟩; have B2 := Lib.hid (bnext B1.out (bl1 hb).1); have z1 := X3.out.lt; have z2 := size_2 hb; have Y1 := (X1.out.next (bl1 hb).1).six; have Y2 := (X2.out.next (bl1 hb).1).six; have Y3 := (X3.out.next (bl1 hb).1).six0; have Y4 := ((Box.new w1 (bv ca) 26 rfl).next hb).six; clear hb p1 p2 p3)
        | (go_at_call 88; (with_reducible refine (HF.out _).mono ?_); rintro e w3 ⟨rfl, rfl⟩)
        | (go_at_call 88; (with_reducible refine (HG.out _).mono ?_); rintro e w3 ⟨rfl, rfl⟩))
      exact bodyPost_ret (by simp [results, Try.results55, go_sem, Y3]) rfl ⟨rfl, by repeat (first | with_reducible exact B2.out | with_reducible refine Below.setCell ?_ (by simp; omega) _)⟩
end Go.Proofs.Yticjhcbkkkkckaa
