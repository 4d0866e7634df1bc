/- Bounds: the document's own Size, Meet, Low. -/
import Derived.Test.YtdipmlamjjpcoaaWI
namespace Go.Proofs.Ytdipmlamjjpcoaa
open Go.RowKit
attribute [local go_sem] b_and b_or b_xor b_andNot b_low b_top b_most b_signed b_unsigned b_zero b_eq s_eq b_nzero b_neq s_neq b_max b_min s_max s_min
attribute [local go_sem ↓] Go.wp_at_zero Go.wp_at_succ

def bsize (n : Int) : Bd := if n = 1 then bupto 255#64 else if n = 2 then bupto 65535#64 else if n = 4 then bupto low32 else bany
theorem U_sizes : U 255#64 = 255 ∧ U 65535#64 = 65535 ∧ U low32 = 4294967295 := by decide +kernel
theorem rbsize_any (n : Int) (w : World) : Calls Try.prog 13 #[.int .i64 n] w fun e w' => e = .returned (.agg #[.int .u64 (U (bsize n).ul), .int .u64 (U (bsize n).uh), .int .i64 (S (bsize n).sl), .int .i64 (S (bsize n).sh), .int .u64 (U (bsize n).t.v), .int .u64 (U (bsize n).t.m)]) ∧ Below w.heap.size w w' := by
  have HA := Lib.hid (fun W => rbany_any W)
  have H1 := Lib.hid (fun W => rupto_any 255#64 W)
  have H2 := Lib.hid (fun W => rupto_any 65535#64 W)
  have H4 := Lib.hid (fun W => rupto_any low32 W)
  rw [U_sizes.1] at H1
  rw [U_sizes.2.1] at H2
  rw [U_sizes.2.2] at H4
  generalize hd1 : bupto 255#64 = D1 at *
  generalize hd2 : bupto 65535#64 = D2 at *
  generalize hd4 : bupto low32 = D4 at *
  generalize hda : bany = DA at *
  have HS : Hid (bsize n = if n = 1 then D1 else if n = 2 then D2 else if n = 4 then D4 else DA) := Lib.hid (by unfold bsize; rw [hd1, hd2, hd4, hda])
  clear hd1 hd2 hd4 hda
  by_cases e1 : n = 1
  · have HE : Hid (bsize n = D1) := Lib.hid (HS.out.trans (if_pos e1))
    rw [HE.out]
    subst e1
    go_enter Try.func13, Try.ntmps13
    go_wp2_with (go_at_call 39; refine (H1.out _).mono ?_; rintro e w1 ⟨rfl, hb⟩; have B1 := Lib.hid (bl1 hb); have K1 := bcell hb; clear hb)
    have hz := B1.out.2
    exact bodyPost_ret (v := .agg #[.int .u64 (U D1.ul), .int .u64 (U D1.uh), .int .i64 (S D1.sl), .int .i64 (S D1.sh), .int .u64 (U D1.t.v), .int .u64 (U D1.t.m)]) (by simp [results, Try.results13, go_sem, K1]) rfl ⟨rfl, set6 B1.out.1 (by omega)⟩
  by_cases e2 : n = 2
  · have HE : Hid (bsize n = D2) := Lib.hid (HS.out.trans ((if_neg e1).trans (if_pos e2)))
    rw [HE.out]
    subst e2
    clear e1
    go_enter Try.func13, Try.ntmps13
    go_wp2_with (go_at_call 39; refine (H2.out _).mono ?_; rintro e w1 ⟨rfl, hb⟩; have B1 := Lib.hid (bl1 hb); have K1 := bcell hb; clear hb)
    have hz := B1.out.2
    exact bodyPost_ret (v := .agg #[.int .u64 (U D2.ul), .int .u64 (U D2.uh), .int .i64 (S D2.sl), .int .i64 (S D2.sh), .int .u64 (U D2.t.v), .int .u64 (U D2.t.m)]) (by simp [results, Try.results13, go_sem, K1]) rfl ⟨rfl, set6 B1.out.1 (by omega)⟩
  by_cases e4 : n = 4
  · have HE : Hid (bsize n = D4) := Lib.hid (HS.out.trans ((if_neg e1).trans ((if_neg e2).trans (if_pos e4))))
    rw [HE.out]
    subst e4
    clear e1 e2
    go_enter Try.func13, Try.ntmps13
    go_wp2_with (go_at_call 39; refine (H4.out _).mono ?_; rintro e w1 ⟨rfl, hb⟩; have B1 := Lib.hid (bl1 hb); have K1 := bcell hb; clear hb)
    have hz := B1.out.2
    exact bodyPost_ret (v := .agg #[.int .u64 (U D4.ul), .int .u64 (U D4.uh), .int .i64 (S D4.sl), .int .i64 (S D4.sh), .int .u64 (U D4.t.v), .int .u64 (U D4.t.m)]) (by simp [results, Try.results13, go_sem, K1]) rfl ⟨rfl, set6 B1.out.1 (by omega)⟩
  have HE : Hid (bsize n = DA) := Lib.hid (HS.out.trans ((if_neg e1).trans ((if_neg e2).trans (if_neg e4))))
  rw [HE.out]
  have b1' : (n == 1) = false := by simpa using e1
  have b2' : (n == 2) = false := by simpa using e2
  have b4' : (n == 4) = false := by simpa using e4
  clear e1 e2 e4
  go_enter Try.func13, Try.ntmps13
  go_wp2_with (go_at_call 14; refine (HA.out _).mono ?_; rintro e w1 ⟨rfl, hb⟩; have B1 := Lib.hid (bl1 hb); have K1 := bcell hb; clear hb)
  have hz := B1.out.2
  exact bodyPost_ret (v := .agg #[.int .u64 (U DA.ul), .int .u64 (U DA.uh), .int .i64 (S DA.sl), .int .i64 (S DA.sh), .int .u64 (U DA.t.v), .int .u64 (U DA.t.m)]) (by simp [results, Try.results13, go_sem, K1]) rfl ⟨rfl, set6 B1.out.1 (by omega)⟩
theorem box_z (w : World) (o o' : Obj) (t : TypeId) : Box (((w.alloc o).alloc o').alloc (.cells #[.int .u64 0, .int .u64 0, .int .i64 0, .int .i64 0, .int .u64 0, .int .u64 0] t)) (w.heap.size + 1 + 1) (bv bzero) :=
  Box.new ((w.alloc o).alloc o') (bv bzero) t (by simp)
end Go.Proofs.Ytdipmlamjjpcoaa
