/- Bounds: the document's own Size, Meet, Low. -/
import Derived.Test.YtaolcmmdefchmaaWI
namespace Go.Proofs.Ytaolcmmdefchmaa
open Go.RowKit
attribute [local go_sem] b_and b_or b_xor b_andNot b_low b_top b_most b_signed b_unsigned b_zero b_eq s_eq b_nzero b_neq s_neq b_max b_min s_max s_min
attribute [local go_sem ↓] Go.wp_at_zero Go.wp_at_succ

def bsize (n : Int) : Bd := if n = 1 then bupto 255#64 else if n = 2 then bupto 65535#64 else if n = 4 then bupto low32 else bany
theorem U_sizes : U 255#64 = 255 ∧ U 65535#64 = 65535 ∧ U low32 = 4294967295 := by decide +kernel
theorem rbsize_any (n : Int) (w : World) : Calls Try.prog 25 #[.int .i64 n] w fun e w' => e = .returned (.agg #[.int .u64 (U (bsize n).ul), .int .u64 (U (bsize n).uh), .int .i64 (S (bsize n).sl), .int .i64 (S (bsize n).sh), .int .u64 (U (bsize n).t.v), .int .u64 (U (bsize n).t.m)]) ∧ Below w.heap.size w w' := by
  have HA := Lib.hid (fun W => rbany_any W)
  have H1 := Lib.hid (fun W => rupto_any 255#64 W)
  have H2 := Lib.hid (fun W => rupto_any 65535#64 W)
  have H4 := Lib.hid (fun W => rupto_any low32 W)
  rw [U_sizes.1] at H1
  rw [U_sizes.2.1] at H2
  rw [U_sizes.2.2] at H4
  generalize hd1 : bupto 255#64 = D1 at *
  generalize hd2 : bupto 65535#64 = D2 at *
  generalize hd4 : bupto low32 = D4 at *
  generalize hda : bany = DA at *
  have HS : Hid (bsize n = if n = 1 then D1 else if n = 2 then D2 else if n = 4 then D4 else DA) := Lib.hid (by unfold bsize; rw [hd1, hd2, hd4, hda])
  clear hd1 hd2 hd4 hda
  by_cases e1 : n = 1
  · have HE : Hid (bsize n = D1) := Lib.hid (HS.out.trans (if_pos e1))
    rw [HE.out]
    subst e1
    go_enter Try.func25, Try.ntmps25
    go_wp2_with (go_at_call 48; refine (H1.out _).mono ?_; rintro e w1 ⟨rfl, hb⟩; have B1 := Lib.hid (bl1 hb); have K1 := bcell hb; clear hb)
    have hz := B1.out.2
    exact bodyPost_ret (v := .agg #[.int .u64 (U D1.ul), .int .u64 (U D1.uh), .int .i64 (S D1.sl), .int .i64 (S D1.sh), .int .u64 (U D1.t.v), .int .u64 (U D1.t.m)]) (by simp [results, Try.results25, go_sem, K1]) rfl ⟨rfl, set6 B1.out.1 (by omega)⟩
  by_cases e2 : n = 2
  · have HE : Hid (bsize n = D2) := Lib.hid (HS.out.trans ((if_neg e1).trans (if_pos e2)))
    rw [HE.out]
    subst e2
    clear e1
    go_enter Try.func25, Try.ntmps25
    go_wp2_with (go_at_call 48; refine (H2.out _).mono ?_; rintro e w1 ⟨rfl, hb⟩; have B1 := Lib.hid (bl1 hb); have K1 := bcell hb; clear hb)
    have hz := B1.out.2
    exact bodyPost_ret (v := .agg #[.int .u64 (U D2.ul), .int .u64 (U D2.uh), .int .i64 (S D2.sl), .int .i64 (S D2.sh), .int .u64 (U D2.t.v), .int .u64 (U D2.t.m)]) (by simp [results, Try.results25, go_sem, K1]) rfl ⟨rfl, set6 B1.out.1 (by omega)⟩
  by_cases e4 : n = 4
  · have HE : Hid (bsize n = D4) := Lib.hid (HS.out.trans ((if_neg e1).trans ((if_neg e2).trans (if_pos e4))))
    rw [HE.out]
    subst e4
    clear e1 e2
    go_enter Try.func25, Try.ntmps25
    go_wp2_with (go_at_call 48; refine (H4.out _).mono ?_; rintro e w1 ⟨rfl, hb⟩; have B1 := Lib.hid (bl1 hb); have K1 := bcell hb; clear hb)
    have hz := B1.out.2
    exact bodyPost_ret (v := .agg #[.int .u64 (U D4.ul), .int .u64 (U D4.uh), .int .i64 (S D4.sl), .int .i64 (S D4.sh), .int .u64 (U D4.t.v), .int .u64 (U D4.t.m)]) (by simp [results, Try.results25, go_sem, K1]) rfl ⟨rfl, set6 B1.out.1 (by omega)⟩
  have HE : Hid (bsize n = DA) := Lib.hid (HS.out.trans ((if_neg e1).trans ((if_neg e2).trans (if_neg e4))))
  rw [HE.out]
  have b1' : (n == 1) = false := by simpa using e1
  have b2' : (n == 2) = false := by simpa using e2
  have b4' : (n == 4) = false := by simpa using e4
  clear e1 e2 e4
  go_enter Try.func25, Try.ntmps25
  go_wp2_with (go_at_call 40; refine (HA.out _).mono ?_; rintro e w1 ⟨rfl, hb⟩; have B1 := Lib.hid (bl1 hb); have K1 := bcell hb; clear hb)
  have hz := B1.out.2
  exact bodyPost_ret (v := .agg #[.int .u64 (U DA.ul), .int .u64 (U DA.uh), .int .i64 (S DA.sl), .int .i64 (S DA.sh), .int .u64 (U DA.t.v), .int .u64 (U DA.t.m)]) (by simp [results, Try.results25, go_sem, K1]) rfl ⟨rfl, set6 B1.out.1 (by omega)⟩
theorem box_z (w : World) (o o' : Obj) (t : TypeId) : Box (((w.alloc o).alloc o').alloc (.cells #[.int .u64 0, .int .u64 0, .int .i64 0, .int .i64 0, .int .u64 0, .int .u64 0] t)) (w.heap.size + 1 + 1) (bv bzero) :=
  Box.new ((w.alloc o).alloc o') (bv bzero) t (by simp)
set_option maxRecDepth 100000 in
set_option maxHeartbeats 1000000 in
theorem rbmeet_any (a b : Bd) (w : World) : Calls Try.prog 28 #[.agg #[.int .u64 (U a.ul), .int .u64 (U a.uh), .int .i64 (S a.sl), .int .i64 (S a.sh), .int .u64 (U a.t.v), .int .u64 (U a.t.m)], .agg #[.int .u64 (U b.ul), .int .u64 (U b.uh), .int .i64 (S b.sl), .int .i64 (S b.sh), .int .u64 (U b.t.v), .int .u64 (U b.t.m)]] w fun e w' => e = .returned (tidyV (bmeet a b)) ∧ Below w.heap.size w w' := by
  have HM := Lib.hid (fun W => rtmeet_any a.t b.t W)
  have HT := Lib.hid (fun W => rtidy_any ⟨umax a.ul b.ul, umin a.uh b.uh, smax a.sl b.sl, smin a.sh b.sh, tmeetT a.t b.t⟩ W)
  have HB : Hid (bmeet a b = if tagree a.t b.t = false then none else tidy ⟨umax a.ul b.ul, umin a.uh b.uh, smax a.sl b.sl, smin a.sh b.sh, tmeetT a.t b.t⟩) := Lib.hid rfl
  rw [HB.out]
  clear HB
  generalize tmeetT a.t b.t = t at *
  generalize tagree a.t b.t = g at *
  cases g with
  | false =>
    rw [if_pos rfl]
    clear HT
    go_enter Try.func28, Try.ntmps28
    go_wp2_with (go_at_call 51; refine (HM.out _).mono ?_; rintro e w1 ⟨rfl, hb⟩; have B1 := Lib.hid (bl3 hb).1; have X3 := ((box_z w _ _ _).next hb).six0; clear hb; obtain ⟨g1, g2, g3⟩ := X3)
    exact bodyPost_ret (v := .tuple #[.agg #[.int .u64 (U bzero.ul), .int .u64 (U bzero.uh), .int .i64 (S bzero.sl), .int .i64 (S bzero.sh), .int .u64 (U bzero.t.v), .int .u64 (U bzero.t.m)], .bool false]) (by simp [results, Try.results28, go_sem, g1, g3, bzero, U_0, S_0]) rfl ⟨rfl, (set6 B1.out (by omega)).alloc (by simp; have := B1.out.size; omega) _⟩
  | true =>
    rw [if_neg (by simp)]
    generalize tidy ⟨umax a.ul b.ul, umin a.uh b.uh, smax a.sl b.sl, smin a.sh b.sh, t⟩ = o at *
    cases o with
    | none =>
      simp only [tidyV] at HT
      go_enter Try.func28, Try.ntmps28
      go_wp2_with (first
        | (go_at_call 26; refine (HT.out _).mono ?_; rintro e w2 ⟨rfl, hb⟩; have B2 := Lib.hid (bnext B1.out (bl1 hb).1); have X4 := (X3'.out.next (bl1 hb).1).six0; clear hb g1 g2 g3; obtain ⟨g1, g2, g3⟩ := X4)
        | (go_at_call 51; refine (HM.out _).mono ?_; rintro e w1 ⟨rfl, hb⟩; have B1 := Lib.hid (bl3 hb).1; have X1 := ((box_ab w a b _ _ _).1.next hb).six; have X2 := ((box_ab w a b _ _ _).2.next hb).six; have X3' := Lib.hid ((box_z w _ _ _).next hb); have X3 := X3'.out.six0; clear hb; obtain ⟨g1, g2, g3⟩ := X3; obtain ⟨p1, p2, p3⟩ := X1; obtain ⟨q1, q2, q3⟩ := X2))
      exact bodyPost_ret (v := .tuple #[.agg #[.int .u64 (U bzero.ul), .int .u64 (U bzero.uh), .int .i64 (S bzero.sl), .int .i64 (S bzero.sh), .int .u64 (U bzero.t.v), .int .u64 (U bzero.t.m)], .bool false]) (by simp [results, Try.results28, go_sem, g1, bzero, U_0, S_0]) rfl ⟨rfl, set6 B2.out (by omega)⟩
    | some c =>
      simp only [tidyV] at HT
      go_enter Try.func28, Try.ntmps28
      go_wp2_with (first
        | (go_at_call 26; refine (HT.out _).mono ?_; rintro e w2 ⟨rfl, hb⟩; have B2 := Lib.hid (bnext B1.out (bl1 hb).1); have X4 := (X3'.out.next (bl1 hb).1).six0; clear hb g1 g2 g3; obtain ⟨g1, g2, g3⟩ := X4)
        | (go_at_call 51; refine (HM.out _).mono ?_; rintro e w1 ⟨rfl, hb⟩; have B1 := Lib.hid (bl3 hb).1; have X1 := ((box_ab w a b _ _ _).1.next hb).six; have X2 := ((box_ab w a b _ _ _).2.next hb).six; have X3' := Lib.hid ((box_z w _ _ _).next hb); have X3 := X3'.out.six0; clear hb; obtain ⟨g1, g2, g3⟩ := X3; obtain ⟨p1, p2, p3⟩ := X1; obtain ⟨q1, q2, q3⟩ := X2))
      exact bodyPost_ret (v := .tuple #[.agg #[.int .u64 (U c.ul), .int .u64 (U c.uh), .int .i64 (S c.sl), .int .i64 (S c.sh), .int .u64 (U c.t.v), .int .u64 (U c.t.m)], .bool true]) (by simp [results, Try.results28, go_sem, g1]) rfl ⟨rfl, set6 B2.out (by omega)⟩
end Go.Proofs.Ytaolcmmdefchmaa
