/- Bounds: the document's own shifts. -/
import Derived.Test.YticjhcbkkkkckaaNI
namespace Go.Proofs.Yticjhcbkkkkckaa
open Go.RowKit
attribute [local go_sem] b_and b_or b_xor b_andNot b_low b_top b_most b_signed b_unsigned b_zero b_eq s_eq b_nzero b_neq s_neq b_max b_min s_max s_min
attribute [local go_sem ↓] Go.wp_at_zero Go.wp_at_succ
attribute [local go_sem] sh_shl sh_shr sh_sar sh_shlN

theorem sh_all (y : B) (k : IntKind) : Op.shift .shr .u64 18446744073709551615 k (U y) = pure (.int .u64 (U (allB >>> y.toNat))) := sh_shr allB y k
attribute [local go_sem] sh_all
theorem small_S {k : B} (h : k.toNat < 64) : shN (S k) = k.toNat := by
  have := two k
  unfold shN S; omega
theorem S_le (k : B) : -9223372036854775808 ≤ S k ∧ S k ≤ 9223372036854775807 := by have := S_bd k; omega
theorem aluW_96 (x k : B) (h : k.toNat < 64) : aluW 96 x k true = x <<< k.toNat := by
  show x <<< (k.toNat % 64) = _; rw [Nat.mod_eq_of_lt h]
theorem aluW_112 (x k : B) (h : k.toNat < 64) : aluW 112 x k true = x >>> k.toNat := by
  show x >>> (k.toNat % 64) = _; rw [Nat.mod_eq_of_lt h]
theorem aluW_192 (x k : B) (h : k.toNat < 64) : aluW 192 x k true = x.sshiftRight k.toNat := by
  show x.sshiftRight (k.toNat % 64) = _; rw [Nat.mod_eq_of_lt h]
set_option maxRecDepth 100000 in
set_option maxHeartbeats 1000000 in
theorem rsh_96 (a : Bd) (k : B) (hk : k.toNat < 64) (w : World) : Calls Try.prog 58 #[.int .i64 96, .agg #[.int .u64 (U a.ul), .int .u64 (U a.uh), .int .i64 (S a.sl), .int .i64 (S a.sh), .int .u64 (U a.t.v), .int .u64 (U a.t.m)], .int .u64 (U k)] w fun e w' => e = .returned (.agg #[.int .u64 (U (shlB a k.toNat).ul), .int .u64 (U (shlB a k.toNat).uh), .int .i64 (S (shlB a k.toNat).sl), .int .i64 (S (shlB a k.toNat).sh), .int .u64 (U (shlB a k.toNat).t.v), .int .u64 (U (shlB a k.toNat).t.m)]) ∧ Below w.heap.size w w' := by
  have HA := Lib.hid (fun W => rbany_any W)
  have HT := Lib.hid (fun W => rtshift_96 a.t (S k) (S_le k).1 (S_le k).2 W)
  rw [small_S hk] at HT
  have HL := Lib.hid (fun W => ralu_yes (op := 96) rfl a.ul k true W)
  have HH := Lib.hid (fun W => ralu_yes (op := 96) rfl a.uh k true W)
  rw [aluW_96 _ _ hk] at HL HH
  have HE : Hid (shlB a k.toNat = ⟨if a.uh.toNat ≤ 18446744073709551615 / 2 ^ k.toNat then a.ul <<< k.toNat else bany.ul, if a.uh.toNat ≤ 18446744073709551615 / 2 ^ k.toNat then a.uh <<< k.toNat else bany.uh, bany.sl, bany.sh, tshl a.t k.toNat⟩) := Lib.hid rfl
  rw [HE.out]
  clear HE
  generalize tshl a.t k.toNat = t at *
  generalize bany = ca at *
  have hd : (allB >>> k.toNat).toNat = 18446744073709551615 / 2 ^ k.toNat := shr_nat allB k.toNat
  by_cases c1 : a.uh.toNat ≤ 18446744073709551615 / 2 ^ k.toNat
  · rw [if_pos c1, if_pos c1]
    have hc : U a.uh ≤ U (allB >>> k.toNat) := by unfold U; omega
    clear c1 hd hk
    go_enter Try.func58, Try.ntmps58
    go_wp2_with (first
      | (go_at_call 11; (with_reducible refine (HH.out _).mono ?_); rintro e w3 ⟨rfl, rfl⟩)
      | (go_at_call 11; (with_reducible refine (HL.out _).mono ?_); rintro e w3 ⟨rfl, rfl⟩)
      | (go_at_call 93; (with_reducible refine (HT.out _).mono ?_); rintro e w2 ⟨rfl, hb⟩; have B2 := Lib.hid (bnext B1.out (bl1 hb).1); have z1 := X3.out.lt; have z2 := size_2 hb; have s2 := hb.size; have q1 := (X1.out.next (bl1 hb).1).six; have q3 := (X3.out.next (bl1 hb).1).six0; have q4 := ((Box.new w1 (bv ca) 26 rfl).next hb).six; clear hb p1 p3)
      | (go_at_call 15; (with_reducible refine (HA.out _).mono ?_); rintro e w1 ⟨rfl, hb⟩; have B1 := Lib.hid (bl2 hb).1; have X1 := Lib.hid ((box_a w a _ _).next hb); have X3 := Lib.hid ((box_z2 w _ _).next hb); clear hb; have p1 := X1.out.six; have p3 := X3.out.six0))
    exact bodyPost_ret (by simp [results, Try.results58, go_sem, q3]) rfl ⟨rfl, by repeat (first | with_reducible exact B2.out | with_reducible refine Below.setCell ?_ (by first | (simp; omega) | simp) _)⟩
  · rw [if_neg c1, if_neg c1]
    have hc : U (allB >>> k.toNat) < U a.uh := by unfold U; omega
    clear c1 hd hk
    go_enter Try.func58, Try.ntmps58
    go_wp2_with (first
      | (go_at_call 11; (with_reducible refine (HH.out _).mono ?_); rintro e w3 ⟨rfl, rfl⟩)
      | (go_at_call 11; (with_reducible refine (HL.out _).mono ?_); rintro e w3 ⟨rfl, rfl⟩)
      | (go_at_call 93; (with_reducible refine (HT.out _).mono ?_); rintro e w2 ⟨rfl, hb⟩; have B2 := Lib.hid (bnext B1.out (bl1 hb).1); have z1 := X3.out.lt; have z2 := size_2 hb; have s2 := hb.size; have q1 := (X1.out.next (bl1 hb).1).six; have q3 := (X3.out.next (bl1 hb).1).six0; have q4 := ((Box.new w1 (bv ca) 26 rfl).next hb).six; clear hb p1 p3)
      | (go_at_call 15; (with_reducible refine (HA.out _).mono ?_); rintro e w1 ⟨rfl, hb⟩; have B1 := Lib.hid (bl2 hb).1; have X1 := Lib.hid ((box_a w a _ _).next hb); have X3 := Lib.hid ((box_z2 w _ _).next hb); clear hb; have p1 := X1.out.six; have p3 := X3.out.six0))
    exact bodyPost_ret (by simp [results, Try.results58, go_sem, q3]) rfl ⟨rfl, by repeat (first | with_reducible exact B2.out | with_reducible refine Below.setCell ?_ (by first | (simp; omega) | simp) _)⟩
set_option maxRecDepth 100000 in
set_option maxHeartbeats 1000000 in
theorem rsh_112 (a : Bd) (k : B) (hk : k.toNat < 64) (w : World) : Calls Try.prog 58 #[.int .i64 112, .agg #[.int .u64 (U a.ul), .int .u64 (U a.uh), .int .i64 (S a.sl), .int .i64 (S a.sh), .int .u64 (U a.t.v), .int .u64 (U a.t.m)], .int .u64 (U k)] w fun e w' => e = .returned (.agg #[.int .u64 (U (shrB a k.toNat).ul), .int .u64 (U (shrB a k.toNat).uh), .int .i64 (S (shrB a k.toNat).sl), .int .i64 (S (shrB a k.toNat).sh), .int .u64 (U (shrB a k.toNat).t.v), .int .u64 (U (shrB a k.toNat).t.m)]) ∧ Below w.heap.size w w' := by
  have HA := Lib.hid (fun W => rbany_any W)
  have HT := Lib.hid (fun W => rtshift_112 a.t (S k) (S_le k).1 (S_le k).2 W)
  rw [small_S hk] at HT
  have HL := Lib.hid (fun W => ralu_yes (op := 112) rfl a.ul k true W)
  have HH := Lib.hid (fun W => ralu_yes (op := 112) rfl a.uh k true W)
  rw [aluW_112 _ _ hk] at HL HH
  have HE : Hid (shrB a k.toNat = ⟨a.ul >>> k.toNat, a.uh >>> k.toNat, bany.sl, bany.sh, tshr a.t k.toNat⟩) := Lib.hid rfl
  rw [HE.out]
  clear HE
  generalize tshr a.t k.toNat = t at *
  generalize bany = ca at *
  clear hk
  go_enter Try.func58, Try.ntmps58
  go_wp2_with (first
    | (go_at_call 11; (with_reducible refine (HH.out _).mono ?_); rintro e w3 ⟨rfl, rfl⟩)
    | (go_at_call 11; (with_reducible refine (HL.out _).mono ?_); rintro e w3 ⟨rfl, rfl⟩)
    | (go_at_call 93; (with_reducible refine (HT.out _).mono ?_); rintro e w2 ⟨rfl, hb⟩; have B2 := Lib.hid (bnext B1.out (bl1 hb).1); have z1 := X3.out.lt; have z2 := size_2 hb; have s2 := hb.size; have q1 := (X1.out.next (bl1 hb).1).six; have q3 := (X3.out.next (bl1 hb).1).six0; have q4 := ((Box.new w1 (bv ca) 26 rfl).next hb).six; clear hb p1 p3)
    | (go_at_call 15; (with_reducible refine (HA.out _).mono ?_); rintro e w1 ⟨rfl, hb⟩; have B1 := Lib.hid (bl2 hb).1; have X1 := Lib.hid ((box_a w a _ _).next hb); have X3 := Lib.hid ((box_z2 w _ _).next hb); clear hb; have p1 := X1.out.six; have p3 := X3.out.six0))
  exact bodyPost_ret (by simp [results, Try.results58, go_sem, q3]) rfl ⟨rfl, by repeat (first | with_reducible exact B2.out | with_reducible refine Below.setCell ?_ (by first | (simp; omega) | simp) _)⟩
set_option maxRecDepth 100000 in
set_option maxHeartbeats 1000000 in
theorem rsh_192 (a : Bd) (k : B) (hk : k.toNat < 64) (w : World) : Calls Try.prog 58 #[.int .i64 192, .agg #[.int .u64 (U a.ul), .int .u64 (U a.uh), .int .i64 (S a.sl), .int .i64 (S a.sh), .int .u64 (U a.t.v), .int .u64 (U a.t.m)], .int .u64 (U k)] w fun e w' => e = .returned (.agg #[.int .u64 (U (sarB a k.toNat).ul), .int .u64 (U (sarB a k.toNat).uh), .int .i64 (S (sarB a k.toNat).sl), .int .i64 (S (sarB a k.toNat).sh), .int .u64 (U (sarB a k.toNat).t.v), .int .u64 (U (sarB a k.toNat).t.m)]) ∧ Below w.heap.size w w' := by
  have HA := Lib.hid (fun W => rbany_any W)
  have HT := Lib.hid (fun W => rtshift_192 a.t (S k) (S_le k).1 (S_le k).2 W)
  rw [small_S hk] at HT
  have HL := Lib.hid (fun W => ralu_yes (op := 192) rfl a.ul k true W)
  have HH := Lib.hid (fun W => ralu_yes (op := 192) rfl a.uh k true W)
  rw [aluW_192 _ _ hk] at HL HH
  have HE : Hid (sarB a k.toNat = ⟨bany.ul, bany.uh, a.sl.sshiftRight k.toNat, a.sh.sshiftRight k.toNat, tsar a.t k.toNat⟩) := Lib.hid rfl
  rw [HE.out]
  clear HE
  generalize tsar a.t k.toNat = t at *
  generalize bany = ca at *
  clear hk
  go_enter Try.func58, Try.ntmps58
  go_wp2_with (first
    | (go_at_call 11; (with_reducible refine (HH.out _).mono ?_); rintro e w3 ⟨rfl, rfl⟩)
    | (go_at_call 11; (with_reducible refine (HL.out _).mono ?_); rintro e w3 ⟨rfl, rfl⟩)
    | (go_at_call 93; (with_reducible refine (HT.out _).mono ?_); rintro e w2 ⟨rfl, hb⟩; have B2 := Lib.hid (bnext B1.out (bl1 hb).1); have z1 := X3.out.lt; have z2 := size_2 hb; have s2 := hb.size; have q1 := (X1.out.next (bl1 hb).1).six; have q3 := (X3.out.next (bl1 hb).1).six0; have q4 := ((Box.new w1 (bv ca) 26 rfl).next hb).six; clear hb p1 p3)
    | (go_at_call 15; (with_reducible refine (HA.out _).mono ?_); rintro e w1 ⟨rfl, hb⟩; have B1 := Lib.hid (bl2 hb).1; have X1 := Lib.hid ((box_a w a _ _).next hb); have X3 := Lib.hid ((box_z2 w _ _).next hb); clear hb; have p1 := X1.out.six; have p3 := X3.out.six0))
  exact bodyPost_ret (by simp [results, Try.results58, go_sem, q3]) rfl ⟨rfl, by repeat (first | with_reducible exact B2.out | with_reducible refine Below.setCell ?_ (by first | (simp; omega) | simp) _)⟩
theorem rshift_any (op : Int) (hop : isShift op = true) (a : Bd) (k : B) (hk : k.toNat < 64) (w : World) : Calls Try.prog 58 #[.int .i64 op, .agg #[.int .u64 (U a.ul), .int .u64 (U a.uh), .int .i64 (S a.sl), .int .i64 (S a.sh), .int .u64 (U a.t.v), .int .u64 (U a.t.m)], .int .u64 (U k)] w fun e w' => e = .returned (.agg #[.int .u64 (U (shiftB op a k.toNat).ul), .int .u64 (U (shiftB op a k.toNat).uh), .int .i64 (S (shiftB op a k.toNat).sl), .int .i64 (S (shiftB op a k.toNat).sh), .int .u64 (U (shiftB op a k.toNat).t.v), .int .u64 (U (shiftB op a k.toNat).t.m)]) ∧ Below w.heap.size w w' := by
  have h : op = 96 ∨ op = 112 ∨ op = 192 := by simp [isShift] at hop; omega
  rcases h with rfl | rfl | rfl
  · exact rsh_96 a k hk w
  · exact rsh_112 a k hk w
  · exact rsh_192 a k hk w
end Go.Proofs.Yticjhcbkkkkckaa
