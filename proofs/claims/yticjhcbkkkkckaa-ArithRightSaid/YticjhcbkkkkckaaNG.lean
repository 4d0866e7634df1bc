/- Known bits: package tnum's Shift, whole. -/
import Derived.Test.YticjhcbkkkkckaaNF
namespace Go.Proofs.Yticjhcbkkkkckaa
open Go.RowKit
attribute [local go_sem] b_and b_or b_xor b_andNot b_low b_top b_most b_signed b_unsigned b_zero b_eq s_eq b_nzero b_neq s_neq b_max b_min s_max s_min
attribute [local go_sem ↓] Go.wp_at_zero Go.wp_at_succ
attribute [local go_sem] b_add b_sub b_mul b_neg b_two sh_shl sh_shr sh_sar sh_shlN

theorem tn_new (w : World) (a : Tn) (t : TypeId) (o : Obj) : ((w.alloc (.cells #[.int .u64 (U a.v), .int .u64 (U a.m)] t)).alloc o).drew.cell? ⟨w.heap.size, 0, none⟩ = some (.int .u64 (U a.v)) ∧ ((w.alloc (.cells #[.int .u64 (U a.v), .int .u64 (U a.m)] t)).alloc o).drew.cell? ⟨w.heap.size, 1, none⟩ = some (.int .u64 (U a.m)) := by
  have e : (w.alloc (.cells #[.int .u64 (U a.v), .int .u64 (U a.m)] t)).heap.size = w.heap.size + 1 := World.size_alloc _ _
  refine ⟨?_, ?_⟩
  · show ((w.alloc _).alloc o).cell? _ = _
    rw [World.cell?_alloc_lt _ _ _ (by rw [e]; show w.heap.size < _; omega)]; exact cell_new _ rfl
  · show ((w.alloc _).alloc o).cell? _ = _
    rw [World.cell?_alloc_lt _ _ _ (by rw [e]; show w.heap.size < _; omega)]; exact cell_new _ rfl
theorem tn_set {n : Nat} {W : World} {a : Tn} {u u' : Value} (h : W.cell? ⟨n, 0, none⟩ = some (.int .u64 (U a.v)) ∧ W.cell? ⟨n, 1, none⟩ = some (.int .u64 (U a.m))) :
    ((W.setCell ⟨n + 1, 0, none⟩ u).setCell ⟨n + 1, 1, none⟩ u').cell? ⟨n, 0, none⟩ = some (.int .u64 (U a.v)) ∧ ((W.setCell ⟨n + 1, 0, none⟩ u).setCell ⟨n + 1, 1, none⟩ u').cell? ⟨n, 1, none⟩ = some (.int .u64 (U a.m)) := by
  have q : ∀ i j, (⟨n + 1, i, none⟩ : Addr) ≠ ⟨n, j, none⟩ := fun i j e => by injection e; omega
  exact ⟨(World.cell?_setCell_other _ _ _ _ (q 1 0)).trans ((World.cell?_setCell_other _ _ _ _ (q 0 0)).trans h.1), (World.cell?_setCell_other _ _ _ _ (q 1 1)).trans ((World.cell?_setCell_other _ _ _ _ (q 0 1)).trans h.2)⟩
set_option maxHeartbeats 1000000 in
theorem tshift_192 (a : Tn) (n : Int) (h0 : -9223372036854775808 ≤ n) (h1 : n ≤ 9223372036854775807) (w : World) : Calls Try.prog 97 #[.int .i64 192, .agg #[.int .u64 (U a.v), .int .u64 (U a.m)], .int .i64 n] w fun e w' => e = .returned (.agg #[.int .u64 (U (tsar a (shN n)).v), .int .u64 (U (tsar a (shN n)).m)]) ∧ Below w.heap.size w w' := by
  have hs := shW_is n h0 h1
  rw [← shW_lt]
  clear h0 h1
  generalize shW n = k at *
  have HE : Hid (tsar a k.toNat = ⟨a.v.sshiftRight k.toNat, a.m.sshiftRight k.toNat⟩) := Lib.hid rfl
  rw [HE.out]
  have HV := Lib.hid (fun W => tsigned_any a.v k W)
  have HM := Lib.hid (fun W => tsigned_any a.m k W)
  generalize a.v.sshiftRight k.toNat = r at *
  generalize a.m.sshiftRight k.toNat = q at *
  have HT := Lib.hid (tn_new w a 24 (.cells #[.int .u64 0, .int .u64 0] 24))
  have F := HT.out
  clear HE
  go_enter Try.func97, Try.ntmps97
  go_wp2_with fail
  go_region_held3 (fun W => W.cell? ⟨w.heap.size, 0, none⟩ = some (.int .u64 (U a.v)) ∧ W.cell? ⟨w.heap.size, 1, none⟩ = some (.int .u64 (U a.m)))
    (first | with_reducible exact F | go_keep)
    (first
    | (go_at_call 103; (with_reducible refine (HV.out _).mono ?_); rintro e w1 ⟨rfl, rfl⟩)
    | (go_at_call 103; (with_reducible refine (HM.out _).mono ?_); rintro e w1 ⟨rfl, rfl⟩))
  all_goals
    go_wp2_with fail
    exact bodyPost_ret (v := .agg #[.int .u64 (U ((⟨r, q⟩ : Tn)).v), .int .u64 (U ((⟨r, q⟩ : Tn)).m)]) (by simp [results, Try.results97, go_sem]) rfl ⟨rfl, b2.drew⟩
theorem tshift_any (op : Int) (a : Tn) (n : Int) (h0 : -9223372036854775808 ≤ n) (h1 : n ≤ 9223372036854775807) (w : World) : Calls Try.prog 97 #[.int .i64 op, .agg #[.int .u64 (U a.v), .int .u64 (U a.m)], .int .i64 n] w fun e w' => e = .returned (.agg #[.int .u64 (U (tshift op a n).v), .int .u64 (U (tshift op a n).m)]) ∧ Below w.heap.size w w' := by
  by_cases e1 : op = 96
  · subst e1; exact tshift_96 a n h0 h1 w
  by_cases e2 : op = 112
  · subst e2; exact tshift_112 a n h0 h1 w
  by_cases e3 : op = 192
  · subst e3; exact tshift_192 a n h0 h1 w
  exact tshift_no e1 e2 e3 a n w
end Go.Proofs.Yticjhcbkkkkckaa
