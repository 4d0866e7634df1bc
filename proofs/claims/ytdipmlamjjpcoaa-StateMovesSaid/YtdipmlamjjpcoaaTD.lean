/- States: the law that a known holds all that what is within it holds. -/
import Derived.Test.YtdipmlamjjpcoaaTC
namespace Go.Proofs.Ytdipmlamjjpcoaa
open Go.RowKit
attribute [local go_sem] b_and b_or b_xor b_andNot b_low b_top b_most b_signed b_unsigned b_zero b_eq s_eq b_nzero b_neq s_neq b_max b_min s_max s_min
attribute [local go_sem ↓] Go.wp_at_zero Go.wp_at_succ

theorem Hs.ab2 {w : World} {A D : AbA} {a b : Ab} (hA : AbAt w A a) (hB : AbAt w D b) (t : TypeId) :
    Hs w ((w.alloc (.cells #[.slice A.p1 a.regs.length A.c1, .slice A.p2 a.set.length A.c2, .slice A.p3 a.saved.length A.c3] t)).alloc (.cells #[.slice D.p1 b.regs.length D.c1, .slice D.p2 b.set.length D.c2, .slice D.p3 b.saved.length D.c3] t))
      [(w.heap.size + 1, [.slice D.p1 b.regs.length D.c1, .slice D.p2 b.set.length D.c2, .slice D.p3 b.saved.length D.c3]), (w.heap.size, [.slice A.p1 a.regs.length A.c1, .slice A.p2 a.set.length A.c2, .slice A.p3 a.saved.length A.c3])]
      [(D, b), (A, a)] := by
  have h := (((((Hs.start w).add hA).add hB).new3 (.slice A.p1 a.regs.length A.c1) (.slice A.p2 a.set.length A.c2) (.slice A.p3 a.saved.length A.c3) t).new3 (.slice D.p1 b.regs.length D.c1) (.slice D.p2 b.set.length D.c2) (.slice D.p3 b.saved.length D.c3) t)
  rw [World.size_alloc] at h
  exact h
set_option maxRecDepth 100000 in
set_option maxHeartbeats 2000000 in
theorem holds_no (A D : AbA) (a b : Ab) (r : Int) (x : B) (w : World) (hA : AbAt w A a) (hB : AbAt w D b) (hw : withinS a b = false) : Calls Try.prog 7 #[.agg #[.slice A.p1 a.regs.length A.c1, .slice A.p2 a.set.length A.c2, .slice A.p3 a.saved.length A.c3], .agg #[.slice D.p1 b.regs.length D.c1, .slice D.p2 b.set.length D.c2, .slice D.p3 b.saved.length D.c3], .int .i64 r, .int .u64 (U x)] w fun e w' => e = .returned (.bool true) ∧ Below w.heap.size w w' := by
  have HN := Lib.hid (Hs.ab2 hA hB 25)
  have HW := Lib.hid (fun W h1 h2 => swithin_any A D a b W h1 h2)
  have f1 := HN.out.b0.three
  have f2 := HN.out.weak.b0.three
  rw [hw] at HW
  clear hA hB hw
  go_enter Try.func7, Try.ntmps7
  go_wp2_with (first
    | (go_at_call 23; (with_reducible refine (HW.out _ HN.out.a1 HN.out.a0).mono ?_); rintro e w1 ⟨rfl, hb⟩; have H' := Lib.hid (HN.out.next hb); clear hb HN f1 f2; have HN := H'; clear H'; have f1 := HN.out.b0.three; have f2 := HN.out.weak.b0.three)
    | (go_at_call 10; (with_reducible refine (heads_any _).mono ?_); rintro e w9 ⟨rfl, hb⟩; have H' := Lib.hid (HN.out.next hb); clear hb HN f1 f2; have HN := H'; clear H'; have f1 := HN.out.b0.three; have f2 := HN.out.weak.b0.three))
  go_ret
  exact ⟨rfl, HN.out.low⟩
set_option maxRecDepth 100000 in
set_option maxHeartbeats 2000000 in
theorem holds_out (A D : AbA) (a b : Ab) (r : Int) (x : B) (w : World) (hA : AbAt w A a) (hB : AbAt w D b) (hw : withinS a b = true) (hr : r < 0 ∨ 11 ≤ r) : Calls Try.prog 7 #[.agg #[.slice A.p1 a.regs.length A.c1, .slice A.p2 a.set.length A.c2, .slice A.p3 a.saved.length A.c3], .agg #[.slice D.p1 b.regs.length D.c1, .slice D.p2 b.set.length D.c2, .slice D.p3 b.saved.length D.c3], .int .i64 r, .int .u64 (U x)] w fun e w' => e = .returned (.bool true) ∧ Below w.heap.size w w' := by
  have HN := Lib.hid (Hs.ab2 hA hB 25)
  have HW := Lib.hid (fun W h1 h2 => swithin_any A D a b W h1 h2)
  have f1 := HN.out.b0.three
  have f2 := HN.out.weak.b0.three
  rw [hw] at HW
  clear hA hB hw
  rcases hr with hr | hr
  · go_enter Try.func7, Try.ntmps7
    go_wp2_with (first
      | (go_at_call 23; (with_reducible refine (HW.out _ HN.out.a1 HN.out.a0).mono ?_); rintro e w1 ⟨rfl, hb⟩; have H' := Lib.hid (HN.out.next hb); clear hb HN f1 f2; have HN := H'; clear H'; have f1 := HN.out.b0.three; have f2 := HN.out.weak.b0.three)
      | (go_at_call 10; (with_reducible refine (heads_any _).mono ?_); rintro e w9 ⟨rfl, hb⟩; have H' := Lib.hid (HN.out.next hb); clear hb HN f1 f2; have HN := H'; clear H'; have f1 := HN.out.b0.three; have f2 := HN.out.weak.b0.three))
    go_ret
    exact ⟨rfl, HN.out.low⟩
  · have hr0 : 0 ≤ r := by omega
    go_enter Try.func7, Try.ntmps7
    go_wp2_with (first
      | (go_at_call 23; (with_reducible refine (HW.out _ HN.out.a1 HN.out.a0).mono ?_); rintro e w1 ⟨rfl, hb⟩; have H' := Lib.hid (HN.out.next hb); clear hb HN f1 f2; have HN := H'; clear H'; have f1 := HN.out.b0.three; have f2 := HN.out.weak.b0.three)
      | (go_at_call 10; (with_reducible refine (heads_any _).mono ?_); rintro e w9 ⟨rfl, hb⟩; have H' := Lib.hid (HN.out.next hb); clear hb HN f1 f2; have HN := H'; clear H'; have f1 := HN.out.b0.three; have f2 := HN.out.weak.b0.three))
    go_ret
    exact ⟨rfl, HN.out.low⟩
set_option maxRecDepth 100000 in
set_option maxHeartbeats 2000000 in
theorem holds_in (A D : AbA) (a b : Ab) (i : Nat) (x : B) (w : World) (hA : AbAt w A a) (hB : AbAt w D b) (hw : withinS a b = true) (hi : i < 11) : Calls Try.prog 7 #[.agg #[.slice A.p1 a.regs.length A.c1, .slice A.p2 a.set.length A.c2, .slice A.p3 a.saved.length A.c3], .agg #[.slice D.p1 b.regs.length D.c1, .slice D.p2 b.set.length D.c2, .slice D.p3 b.saved.length D.c3], .int .i64 (i : Int), .int .u64 (U x)] w fun e w' => e = .returned (.bool true) ∧ Below w.heap.size w w' := by
  obtain ⟨ca, cb, hk, _⟩ := within_iff.1 hw
  have hk := hk i hi
  obtain ⟨n1, n2, n3⟩ := lens ca
  obtain ⟨m1, m2, m3⟩ := lens cb
  have HX := Lib.hid (fun (W : World) (h : AbAt W A a) => h.r.cells i (by omega))
  have HY := Lib.hid (fun (W : World) (h : AbAt W D b) => h.r.cells i (by omega))
  obtain ⟨ba, oa, hpa, _⟩ := hA.r.cells i (by omega)
  obtain ⟨bb, ob, hpb, _⟩ := hB.r.cells i (by omega)
  have HN := Lib.hid (Hs.ab2 hA hB 25)
  have HW := Lib.hid (fun W h1 h2 => swithin_any A D a b W h1 h2)
  rw [hw] at HW
  have HHA := Lib.hid (fun W => sholds_any (rg a.regs i) x W)
  have HHB := Lib.hid (fun W => sholds_any (rg b.regs i) x W)
  have hin := fun h0 hb => within_holds (x := x) hk h0 hb
  generalize rg a.regs i = ka at *
  generalize rg b.regs i = kb at *
  have HPA := Lib.hid hpa
  have HPB := Lib.hid hpb
  rw [n1, n2, n3, m1, m2, m3, hpa, hpb] at HN HW
  rw [n1, n2, n3, m1, m2, m3, hpa, hpb]
  have f1 := HN.out.b0.three
  have f2 := HN.out.weak.b0.three
  clear hA hB hw ca cb hk n1 n2 n3 m1 m2 m3 hpa hpb
  by_cases h0 : kb.kind = 0
  · clear hin
    go_enter Try.func7, Try.ntmps7
    go_wp2_with (first
      | (go_at_call 23; (with_reducible refine (HW.out _ HN.out.a1 HN.out.a0).mono ?_); rintro e w1 ⟨rfl, hb⟩; have H' := Lib.hid (HN.out.next hb); clear hb HN f1 f2; have HN := H'; clear H'; have f1 := HN.out.b0.three; have f2 := HN.out.weak.b0.three; obtain ⟨b9, o9, hq9, hl9, e0, e1, e2, e3, e4, e5, e6, e7⟩ := HY.out _ HN.out.a0; obtain ⟨rfl, rfl⟩ : bb = b9 ∧ ob = o9 := (by rw [HPB.out] at hq9; injection hq9 with hq9; injection hq9 with h1 h2; exact ⟨h1, h2⟩); obtain ⟨b8, o8, hq8, hl8, d0, d1, d2, d3, d4, d5, d6, d7⟩ := HX.out _ HN.out.a1; obtain ⟨rfl, rfl⟩ : ba = b8 ∧ oa = o8 := (by rw [HPA.out] at hq8; injection hq8 with hq8; injection hq8 with h1 h2; exact ⟨h1, h2⟩))
      | (go_at_call 10; (with_reducible refine (heads_any _).mono ?_); rintro e w9 ⟨rfl, hb⟩; have H' := Lib.hid (HN.out.next hb); clear hb HN f1 f2; have HN := H'; clear H'; have f1 := HN.out.b0.three; have f2 := HN.out.weak.b0.three))
    go_ret
    exact ⟨rfl, HN.out.low⟩
  · cases hb : holdsK kb x with
    | false =>
      rw [hb] at HHB
      clear hin hb
      go_enter Try.func7, Try.ntmps7
      go_wp2_with (first
        | (go_at_call 24; (with_reducible refine (HHB.out _).mono ?_); rintro e w2 ⟨rfl, hb⟩; have H' := Lib.hid (HN.out.next hb); clear hb HN f1 f2; have HN := H'; clear H'; have f1 := HN.out.b0.three; have f2 := HN.out.weak.b0.three; obtain ⟨b9, o9, hq9, hl9, e0, e1, e2, e3, e4, e5, e6, e7⟩ := HY.out _ HN.out.a0; obtain ⟨rfl, rfl⟩ : bb = b9 ∧ ob = o9 := (by rw [HPB.out] at hq9; injection hq9 with hq9; injection hq9 with h1 h2; exact ⟨h1, h2⟩); obtain ⟨b8, o8, hq8, hl8, d0, d1, d2, d3, d4, d5, d6, d7⟩ := HX.out _ HN.out.a1; obtain ⟨rfl, rfl⟩ : ba = b8 ∧ oa = o8 := (by rw [HPA.out] at hq8; injection hq8 with hq8; injection hq8 with h1 h2; exact ⟨h1, h2⟩))
        | (go_at_call 23; (with_reducible refine (HW.out _ HN.out.a1 HN.out.a0).mono ?_); rintro e w1 ⟨rfl, hb⟩; have H' := Lib.hid (HN.out.next hb); clear hb HN f1 f2; have HN := H'; clear H'; have f1 := HN.out.b0.three; have f2 := HN.out.weak.b0.three; obtain ⟨b9, o9, hq9, hl9, e0, e1, e2, e3, e4, e5, e6, e7⟩ := HY.out _ HN.out.a0; obtain ⟨rfl, rfl⟩ : bb = b9 ∧ ob = o9 := (by rw [HPB.out] at hq9; injection hq9 with hq9; injection hq9 with h1 h2; exact ⟨h1, h2⟩); obtain ⟨b8, o8, hq8, hl8, d0, d1, d2, d3, d4, d5, d6, d7⟩ := HX.out _ HN.out.a1; obtain ⟨rfl, rfl⟩ : ba = b8 ∧ oa = o8 := (by rw [HPA.out] at hq8; injection hq8 with hq8; injection hq8 with h1 h2; exact ⟨h1, h2⟩))
        | (go_at_call 10; (with_reducible refine (heads_any _).mono ?_); rintro e w9 ⟨rfl, hb⟩; have H' := Lib.hid (HN.out.next hb); clear hb HN f1 f2; have HN := H'; clear H'; have f1 := HN.out.b0.three; have f2 := HN.out.weak.b0.three))
      go_ret
      exact ⟨rfl, HN.out.low⟩
    | true =>
      have ha := hin h0 hb
      rw [hb] at HHB
      rw [ha] at HHA
      clear hin hb ha
      go_enter Try.func7, Try.ntmps7
      go_wp2_with (first
        | (go_at_call 24; (with_reducible refine (HHA.out _).mono ?_); rintro e w3 ⟨rfl, hb⟩; have H' := Lib.hid (HN.out.next hb); clear hb HN f1 f2; have HN := H'; clear H'; have f1 := HN.out.b0.three; have f2 := HN.out.weak.b0.three)
        | (go_at_call 24; (with_reducible refine (HHB.out _).mono ?_); rintro e w2 ⟨rfl, hb⟩; have H' := Lib.hid (HN.out.next hb); clear hb HN f1 f2; have HN := H'; clear H'; have f1 := HN.out.b0.three; have f2 := HN.out.weak.b0.three; obtain ⟨b9, o9, hq9, hl9, e0, e1, e2, e3, e4, e5, e6, e7⟩ := HY.out _ HN.out.a0; obtain ⟨rfl, rfl⟩ : bb = b9 ∧ ob = o9 := (by rw [HPB.out] at hq9; injection hq9 with hq9; injection hq9 with h1 h2; exact ⟨h1, h2⟩); obtain ⟨b8, o8, hq8, hl8, d0, d1, d2, d3, d4, d5, d6, d7⟩ := HX.out _ HN.out.a1; obtain ⟨rfl, rfl⟩ : ba = b8 ∧ oa = o8 := (by rw [HPA.out] at hq8; injection hq8 with hq8; injection hq8 with h1 h2; exact ⟨h1, h2⟩))
        | (go_at_call 23; (with_reducible refine (HW.out _ HN.out.a1 HN.out.a0).mono ?_); rintro e w1 ⟨rfl, hb⟩; have H' := Lib.hid (HN.out.next hb); clear hb HN f1 f2; have HN := H'; clear H'; have f1 := HN.out.b0.three; have f2 := HN.out.weak.b0.three; obtain ⟨b9, o9, hq9, hl9, e0, e1, e2, e3, e4, e5, e6, e7⟩ := HY.out _ HN.out.a0; obtain ⟨rfl, rfl⟩ : bb = b9 ∧ ob = o9 := (by rw [HPB.out] at hq9; injection hq9 with hq9; injection hq9 with h1 h2; exact ⟨h1, h2⟩); obtain ⟨b8, o8, hq8, hl8, d0, d1, d2, d3, d4, d5, d6, d7⟩ := HX.out _ HN.out.a1; obtain ⟨rfl, rfl⟩ : ba = b8 ∧ oa = o8 := (by rw [HPA.out] at hq8; injection hq8 with hq8; injection hq8 with h1 h2; exact ⟨h1, h2⟩))
        | (go_at_call 10; (with_reducible refine (heads_any _).mono ?_); rintro e w9 ⟨rfl, hb⟩; have H' := Lib.hid (HN.out.next hb); clear hb HN f1 f2; have HN := H'; clear H'; have f1 := HN.out.b0.three; have f2 := HN.out.weak.b0.three))
      go_ret
      exact ⟨rfl, HN.out.low⟩
theorem holds_law (A D : AbA) (a b : Ab) (r : Int) (x : B) (w : World) (hA : AbAt w A a) (hB : AbAt w D b) : Calls Try.prog 7 #[.agg #[.slice A.p1 a.regs.length A.c1, .slice A.p2 a.set.length A.c2, .slice A.p3 a.saved.length A.c3], .agg #[.slice D.p1 b.regs.length D.c1, .slice D.p2 b.set.length D.c2, .slice D.p3 b.saved.length D.c3], .int .i64 r, .int .u64 (U x)] w fun e w' => e = .returned (.bool true) ∧ Below w.heap.size w w' := by
  cases hw : withinS a b with
  | false => exact holds_no A D a b r x w hA hB hw
  | true =>
    by_cases hr : r < 0 ∨ 11 ≤ r
    · exact holds_out A D a b r x w hA hB hw hr
    · obtain ⟨i, rfl⟩ := Int.eq_ofNat_of_zero_le (show 0 ≤ r by omega)
      exact holds_in A D a b i x w hA hB hw (by omega)
end Go.Proofs.Ytdipmlamjjpcoaa
