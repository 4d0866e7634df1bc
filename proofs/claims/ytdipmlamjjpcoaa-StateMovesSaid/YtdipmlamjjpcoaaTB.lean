/- States: what the laws ask at any rate. -/
import Derived.Test.YtdipmlamjjpcoaaTA
namespace Go.Proofs.Ytdipmlamjjpcoaa
open Go.RowKit
attribute [local go_sem] b_and b_or b_xor b_andNot b_low b_top b_most b_signed b_unsigned b_zero b_eq s_eq b_nzero b_neq s_neq b_max b_min s_max s_min
attribute [local go_sem ↓] Go.wp_at_zero Go.wp_at_succ

/-- what is known of two states and a register -/
structure Hd (s0 s1 : Ab) (x1 : Kn) : Prop where
  ck0 : checkS s0 = true
  ck1 : checkS s1 = true
  st : storeS s0 504 504 8 five = s1
  l8 : loadS s1 504 504 8 = (five, true)
  l4 : loadS s1 504 504 4 = (⟨1, bupto low32, 0⟩, true)
  l0 : (loadS s0 504 504 8).2 = false
  r1 : readyS s1 504 512 = true
  r2 : readyS s1 503 512 = false
  hx : rg s0.regs 1 = x1
  ho : holdsK x1 4294967296#64 = true
  wi : withinS s0 s1 = true
  wo : withinS s1 s0 = false
theorem hd_ex : ∃ s0 s1 x1, beginS = s0 ∧ Hd s0 s1 x1 :=
  ⟨beginS, st5, rg beginS.regs 1, rfl, heads11.1, st5_check, rfl, heads11.2.1, heads11.2.2.1, heads11.2.2.2.1, heads11.2.2.2.2.1, heads11.2.2.2.2.2.1, rfl, heads11.2.2.2.2.2.2.1, heads11.2.2.2.2.2.2.2.1, heads11.2.2.2.2.2.2.2.2⟩
section
variable {s0 s1 : Ab} {x1 : Kn}
theorem hd_begin (hs : beginS = s0) (H : Hd s0 s1 x1) (W : World) : Calls Try.prog 30 #[] W fun e w' => ∃ A : AbA, e = .returned (.agg #[.slice A.p1 11 A.c1, .slice A.p2 512 A.c2, .slice A.p3 64 A.c3]) ∧ AbAt w' A s0 ∧ Below W.heap.size W w' := by
  have h := sbegin_any W
  obtain ⟨n1, n2, n3⟩ := lens H.ck0
  rw [hs, n1, n2, n3] at h
  exact h
theorem hd_store (H : Hd s0 s1 x1) {c5 : Bd} (hc : five.num = c5) (A : AbA) (W : World) (h : AbAt W A s0) : Calls Try.prog 11 #[.agg #[.slice A.p1 11 A.c1, .slice A.p2 512 A.c2, .slice A.p3 64 A.c3], .int .i64 504, .int .i64 504, .int .i64 8, .agg #[.int .i64 1, .int .u64 (U c5.ul), .int .u64 (U c5.uh), .int .i64 (S c5.sl), .int .i64 (S c5.sh), .int .u64 (U c5.t.v), .int .u64 (U c5.t.m), .int .i64 0]] W fun e w' => ∃ B : AbA, e = .returned (.agg #[.slice B.p1 11 B.c1, .slice B.p2 512 B.c2, .slice B.p3 64 B.c3]) ∧ AbAt w' B s1 ∧ Below W.heap.size W w' := by
  subst hc
  have h1 := sstore_any A s0 504 504 8 five (by decide) (by decide) (by decide) W h
  obtain ⟨n1, n2, n3⟩ := lens H.ck1
  obtain ⟨k1, k2, k3⟩ := lens H.ck0
  rw [H.st, n1, n2, n3, k1, k2, k3] at h1
  exact h1
theorem hd_load8 (H : Hd s0 s1 x1) {c5 : Bd} (hc : five.num = c5) (A : AbA) (W : World) (h : AbAt W A s1) : Calls Try.prog 12 #[.agg #[.slice A.p1 11 A.c1, .slice A.p2 512 A.c2, .slice A.p3 64 A.c3], .int .i64 504, .int .i64 504, .int .i64 8] W fun e w' => e = .returned (.tuple #[.agg #[.int .i64 1, .int .u64 (U c5.ul), .int .u64 (U c5.uh), .int .i64 (S c5.sl), .int .i64 (S c5.sh), .int .u64 (U c5.t.v), .int .u64 (U c5.t.m), .int .i64 0], .bool true]) ∧ Below W.heap.size W w' := by
  subst hc
  have h1 := sload_any A s1 504 504 8 (by decide) (by decide) (by decide) W h
  obtain ⟨n1, n2, n3⟩ := lens H.ck1
  rw [n1, n2, n3, H.l8] at h1
  exact h1
theorem hd_load4 (H : Hd s0 s1 x1) : ∃ m : Bd, ∀ (A : AbA) (W : World), AbAt W A s1 → Calls Try.prog 12 #[.agg #[.slice A.p1 11 A.c1, .slice A.p2 512 A.c2, .slice A.p3 64 A.c3], .int .i64 504, .int .i64 504, .int .i64 4] W fun e w' => e = .returned (.tuple #[.agg #[.int .i64 1, .int .u64 (U m.ul), .int .u64 4294967295, .int .i64 (S m.sl), .int .i64 (S m.sh), .int .u64 (U m.t.v), .int .u64 (U m.t.m), .int .i64 0], .bool true]) ∧ Below W.heap.size W w' := by
  refine ⟨bupto low32, fun A W h => ?_⟩
  have h1 := sload_any A s1 504 504 4 (by decide) (by decide) (by decide) W h
  obtain ⟨n1, n2, n3⟩ := lens H.ck1
  rw [n1, n2, n3, H.l4] at h1
  exact h1
theorem hd_load0 (H : Hd s0 s1 x1) : ∃ z : Kn, ∀ (A : AbA) (W : World), AbAt W A s0 → Calls Try.prog 12 #[.agg #[.slice A.p1 11 A.c1, .slice A.p2 512 A.c2, .slice A.p3 64 A.c3], .int .i64 504, .int .i64 504, .int .i64 8] W fun e w' => e = .returned (.tuple #[.agg #[.int .i64 z.kind, .int .u64 (U z.num.ul), .int .u64 (U z.num.uh), .int .i64 (S z.num.sl), .int .i64 (S z.num.sh), .int .u64 (U z.num.t.v), .int .u64 (U z.num.t.m), .int .i64 z.reg], .bool false]) ∧ Below W.heap.size W w' := by
  refine ⟨(loadS s0 504 504 8).1, fun A W h => ?_⟩
  have h1 := sload_any A s0 504 504 8 (by decide) (by decide) (by decide) W h
  obtain ⟨n1, n2, n3⟩ := lens H.ck0
  rw [n1, n2, n3, H.l0] at h1
  exact h1
theorem hd_check (H : Hd s0 s1 x1) (A : AbA) (W : World) (h : AbAt W A s0) : Calls Try.prog 8 #[.agg #[.slice A.p1 11 A.c1, .slice A.p2 512 A.c2, .slice A.p3 64 A.c3]] W fun e w' => e = .returned (.bool true) ∧ Below W.heap.size W w' := by
  have h1 := scheck_any A s0 W h
  obtain ⟨n1, n2, n3⟩ := lens H.ck0
  rw [n1, n2, n3, H.ck0] at h1
  exact h1
theorem hd_ready (H : Hd s0 s1 x1) (A : AbA) (W : World) (h : AbAt W A s1) : Calls Try.prog 21 #[.agg #[.slice A.p1 11 A.c1, .slice A.p2 512 A.c2, .slice A.p3 64 A.c3], .int .i64 504, .int .i64 512] W fun e w' => e = .returned (.bool true) ∧ Below W.heap.size W w' := by
  have h1 := sready_any A s1 504 512 (by decide) (by decide) W h
  obtain ⟨n1, n2, n3⟩ := lens H.ck1
  rw [n1, n2, n3, H.r1] at h1
  exact h1
theorem hd_unready (H : Hd s0 s1 x1) (A : AbA) (W : World) (h : AbAt W A s1) : Calls Try.prog 21 #[.agg #[.slice A.p1 11 A.c1, .slice A.p2 512 A.c2, .slice A.p3 64 A.c3], .int .i64 503, .int .i64 512] W fun e w' => e = .returned (.bool false) ∧ Below W.heap.size W w' := by
  have h1 := sready_any A s1 503 512 (by decide) (by decide) W h
  obtain ⟨n1, n2, n3⟩ := lens H.ck1
  rw [n1, n2, n3, H.r2] at h1
  exact h1
theorem hd_within (H : Hd s0 s1 x1) (A B : AbA) (W : World) (h1 : AbAt W A s0) (h2 : AbAt W B s1) : Calls Try.prog 23 #[.agg #[.slice A.p1 11 A.c1, .slice A.p2 512 A.c2, .slice A.p3 64 A.c3], .agg #[.slice B.p1 11 B.c1, .slice B.p2 512 B.c2, .slice B.p3 64 B.c3]] W fun e w' => e = .returned (.bool true) ∧ Below W.heap.size W w' := by
  have h := swithin_any A B s0 s1 W h1 h2
  obtain ⟨n1, n2, n3⟩ := lens H.ck1
  obtain ⟨k1, k2, k3⟩ := lens H.ck0
  rw [n1, n2, n3, k1, k2, k3, H.wi] at h
  exact h
theorem hd_without (H : Hd s0 s1 x1) (A B : AbA) (W : World) (h1 : AbAt W A s1) (h2 : AbAt W B s0) : Calls Try.prog 23 #[.agg #[.slice A.p1 11 A.c1, .slice A.p2 512 A.c2, .slice A.p3 64 A.c3], .agg #[.slice B.p1 11 B.c1, .slice B.p2 512 B.c2, .slice B.p3 64 B.c3]] W fun e w' => e = .returned (.bool false) ∧ Below W.heap.size W w' := by
  have h := swithin_any A B s1 s0 W h1 h2
  obtain ⟨n1, n2, n3⟩ := lens H.ck1
  obtain ⟨k1, k2, k3⟩ := lens H.ck0
  rw [n1, n2, n3, k1, k2, k3, H.wo] at h
  exact h
theorem hd_holds (H : Hd s0 s1 x1) (W : World) : Calls Try.prog 24 #[.agg #[.int .i64 x1.kind, .int .u64 (U x1.num.ul), .int .u64 (U x1.num.uh), .int .i64 (S x1.num.sl), .int .i64 (S x1.num.sh), .int .u64 (U x1.num.t.v), .int .u64 (U x1.num.t.m), .int .i64 x1.reg], .int .u64 4294967296] W fun e w' => e = .returned (.bool true) ∧ Below W.heap.size W w' := by
  have h := sholds_any x1 4294967296#64 W
  rw [H.ho] at h
  exact h
end
theorem hd_5 {c5 : Bd} (hc : five.num = c5) (W : World) : Calls Try.prog 31 #[.int .u64 5] W fun e w' => e = .returned (.agg #[.int .u64 (U c5.ul), .int .u64 (U c5.uh), .int .i64 (S c5.sl), .int .i64 (S c5.sh), .int .u64 (U c5.t.v), .int .u64 (U c5.t.m)]) ∧ Below W.heap.size W w' := by
  subst hc; exact rbconst_any 5#64 W
set_option maxRecDepth 100000 in
set_option maxHeartbeats 4000000 in
theorem heads_any (w : World) : Calls Try.prog 10 #[] w fun e w' => e = .returned (.bool true) ∧ Below w.heap.size w w' := by
  have HN := Lib.hid (Hs.start w)
  obtain ⟨c5, hc⟩ : ∃ c5, five.num = c5 := ⟨_, rfl⟩
  obtain ⟨s0, s1, x1, hs, H⟩ := hd_ex
  obtain ⟨m, hm⟩ := hd_load4 H
  obtain ⟨z, hz⟩ := hd_load0 H
  have H1 := Lib.hid (hd_begin hs H)
  have H2 := Lib.hid (hd_5 hc)
  have H3 := Lib.hid (hd_store H hc)
  have H4 := Lib.hid (hd_load8 H hc)
  have H5 := Lib.hid hm
  have H6 := Lib.hid hz
  have H7 := Lib.hid (hd_check H)
  have H8 := Lib.hid (hd_ready H)
  have H9 := Lib.hid (hd_unready H)
  have HA := Lib.hid (hd_within H)
  have HB := Lib.hid (hd_without H)
  have HC := Lib.hid (hd_holds H)
  have HR : Hid (∀ (W : World) (A : AbA), AbAt W A s0 → ∃ b off, A.p1 = some ⟨b, off, none⟩ ∧ b < W.heap.size ∧ W.cell? ⟨b, off + 1 * 8, none⟩ = some (.int .i64 x1.kind) ∧ W.cell? ⟨b, off + 1 * 8 + 1, none⟩ = some (.int .u64 (U x1.num.ul)) ∧ W.cell? ⟨b, off + 1 * 8 + 2, none⟩ = some (.int .u64 (U x1.num.uh)) ∧ W.cell? ⟨b, off + 1 * 8 + 3, none⟩ = some (.int .i64 (S x1.num.sl)) ∧ W.cell? ⟨b, off + 1 * 8 + 4, none⟩ = some (.int .i64 (S x1.num.sh)) ∧ W.cell? ⟨b, off + 1 * 8 + 5, none⟩ = some (.int .u64 (U x1.num.t.v)) ∧ W.cell? ⟨b, off + 1 * 8 + 6, none⟩ = some (.int .u64 (U x1.num.t.m)) ∧ W.cell? ⟨b, off + 1 * 8 + 7, none⟩ = some (.int .i64 x1.reg)) := Lib.hid (fun W A h => H.hx ▸ h.r.cells 1 (by have := (lens H.ck0).1; omega))
  have he := eqK ⟨1, c5, 0⟩ ⟨1, c5, 0⟩
  rw [decide_eq_true (rfl : (⟨1, c5, 0⟩ : Kn) = ⟨1, c5, 0⟩)] at he
  dsimp only at he
  clear hc hm hz hs H
  go_enter Try.func10, Try.ntmps10
  go_wp2_with (first
    | (go_at_call 30; (with_reducible refine (H1.out _).mono ?_); rintro e w1 ⟨⟨p1, p2, p3, d1, d2, d3⟩, rfl, hA, hb⟩; obtain ⟨b0, o0, hq, _⟩ := HR.out _ _ hA; replace hq : p1 = some ⟨b0, o0, none⟩ := hq; subst hq; have H' := Lib.hid (((HN.out.next hb).add hA).new3 (.slice (some ⟨b0, o0, none⟩) 11 d1) (.slice p2 512 d2) (.slice p3 64 d3) 25); clear hb HN hA; have HN := H'; clear H'; have f1 := HN.out.b0.three)
    | (go_at_call 31; (with_reducible refine (H2.out _).mono ?_); rintro e w2 ⟨rfl, hb⟩; have H' := Lib.hid ((HN.out.next hb).new8 (.int .i64 1) (.int .u64 (U c5.ul)) (.int .u64 (U c5.uh)) (.int .i64 (S c5.sl)) (.int .i64 (S c5.sh)) (.int .u64 (U c5.t.v)) (.int .u64 (U c5.t.m)) (.int .i64 0) 33); clear hb HN f1; have HN := H'; clear H'; have f1 := HN.out.weak.b0.three; have f2 := HN.out.b0.eight)
    | (go_at_call 11; (with_reducible refine (H3.out _ _ HN.out.a0).mono ?_); rintro e w3 ⟨⟨q1, q2, q3, g1, g2, g3⟩, rfl, hA, hb⟩; have H' := Lib.hid (((HN.out.next hb).add hA).new3 (.slice q1 11 g1) (.slice q2 512 g2) (.slice q3 64 g3) 25); clear hb HN f1 f2 hA; have HN := H'; clear H'; have f1 := HN.out.weak.weak.b0.three; have f2 := HN.out.weak.b0.eight; have f3 := HN.out.b0.three)
    | (go_at_call 12; (with_reducible refine (H4.out _ _ HN.out.a0).mono ?_); rintro e w4 ⟨rfl, hb⟩; have H' := Lib.hid ((HN.out.next hb).new8 (.int .i64 1) (.int .u64 (U c5.ul)) (.int .u64 (U c5.uh)) (.int .i64 (S c5.sl)) (.int .i64 (S c5.sh)) (.int .u64 (U c5.t.v)) (.int .u64 (U c5.t.m)) (.int .i64 0) 33); clear hb HN f1 f2 f3; have HN := H'; clear H'; have f1 := HN.out.weak.weak.weak.b0.three; have f2 := HN.out.weak.weak.b0.eight; have f3 := HN.out.weak.b0.three; have f4 := HN.out.b0.eight)
    | (go_at_call 12; (with_reducible refine (H5.out _ _ HN.out.a0).mono ?_); rintro e w5 ⟨rfl, hb⟩; have H' := Lib.hid ((HN.out.next hb).new8 (.int .i64 1) (.int .u64 (U m.ul)) (.int .u64 4294967295) (.int .i64 (S m.sl)) (.int .i64 (S m.sh)) (.int .u64 (U m.t.v)) (.int .u64 (U m.t.m)) (.int .i64 0) 33); clear hb HN f1 f2 f3 f4; have HN := H'; clear H'; have f1 := HN.out.weak.weak.weak.weak.b0.three; have f2 := HN.out.weak.weak.weak.b0.eight; have f3 := HN.out.weak.weak.b0.three; have f4 := HN.out.weak.b0.eight; have f5 := HN.out.b0.eight)
    | (go_at_call 12; (with_reducible refine (H6.out _ _ HN.out.a1).mono ?_); rintro e w6 ⟨rfl, hb⟩; have H' := Lib.hid ((HN.out.next hb).new8 (.int .i64 z.kind) (.int .u64 (U z.num.ul)) (.int .u64 (U z.num.uh)) (.int .i64 (S z.num.sl)) (.int .i64 (S z.num.sh)) (.int .u64 (U z.num.t.v)) (.int .u64 (U z.num.t.m)) (.int .i64 z.reg) 33); clear hb HN f1 f2 f3 f4 f5; have HN := H'; clear H'; have f1 := HN.out.weak.weak.weak.weak.weak.b0.three; have f2 := HN.out.weak.weak.weak.weak.b0.eight; have f3 := HN.out.weak.weak.weak.b0.three; have f4 := HN.out.weak.weak.b0.eight; have f5 := HN.out.weak.b0.eight)
    | (go_at_call 8; (with_reducible refine (H7.out _ _ HN.out.a1).mono ?_); rintro e w7 ⟨rfl, hb⟩; have H' := Lib.hid (HN.out.next hb); clear hb HN f1 f2 f3 f4 f5; have HN := H'; clear H'; have f1 := HN.out.weak.weak.weak.weak.weak.b0.three; have f2 := HN.out.weak.weak.weak.weak.b0.eight; have f3 := HN.out.weak.weak.weak.b0.three; have f4 := HN.out.weak.weak.b0.eight; have f5 := HN.out.weak.b0.eight)
    | (go_at_call 21; (with_reducible refine (H8.out _ _ HN.out.a0).mono ?_); rintro e w8 ⟨rfl, hb⟩; have H' := Lib.hid (HN.out.next hb); clear hb HN f1 f2 f3 f4 f5; have HN := H'; clear H'; have f1 := HN.out.weak.weak.weak.weak.weak.b0.three; have f2 := HN.out.weak.weak.weak.weak.b0.eight; have f3 := HN.out.weak.weak.weak.b0.three; have f4 := HN.out.weak.weak.b0.eight; have f5 := HN.out.weak.b0.eight)
    | (go_at_call 21; (with_reducible refine (H9.out _ _ HN.out.a0).mono ?_); rintro e w9 ⟨rfl, hb⟩; have H' := Lib.hid (HN.out.next hb); clear hb HN f1 f2 f3 f4 f5; have HN := H'; clear H'; have f1 := HN.out.weak.weak.weak.weak.weak.b0.three; have f2 := HN.out.weak.weak.weak.weak.b0.eight; have f3 := HN.out.weak.weak.weak.b0.three; have f4 := HN.out.weak.weak.b0.eight; have f5 := HN.out.weak.b0.eight; obtain ⟨b9, o9, hq9, hl9, e0, e1, e2, e3, e4, e5, e6, e7⟩ := HR.out _ _ HN.out.a1; obtain ⟨rfl, rfl⟩ : b0 = b9 ∧ o0 = o9 := (by injection hq9 with hq9; injection hq9 with h1 h2; exact ⟨h1, h2⟩); simp only [Nat.one_mul] at e0 e1 e2 e3 e4 e5 e6 e7)
    | (go_at_call 24; (with_reducible refine (HC.out _).mono ?_); rintro e w10 ⟨rfl, hb⟩; have H' := Lib.hid (HN.out.next hb); clear hb HN f1 f2 f3 f4 f5; have HN := H'; clear H'; have f1 := HN.out.weak.weak.weak.weak.weak.b0.three; have f2 := HN.out.weak.weak.weak.weak.b0.eight; have f3 := HN.out.weak.weak.weak.b0.three; have f4 := HN.out.weak.weak.b0.eight; have f5 := HN.out.weak.b0.eight)
    | (go_at_call 23; (with_reducible refine (HA.out _ _ _ HN.out.a1 HN.out.a0).mono ?_); rintro e w11 ⟨rfl, hb⟩; have H' := Lib.hid (HN.out.next hb); clear hb HN f1 f2 f3 f4 f5; have HN := H'; clear H'; have f1 := HN.out.weak.weak.weak.weak.weak.b0.three; have f2 := HN.out.weak.weak.weak.weak.b0.eight; have f3 := HN.out.weak.weak.weak.b0.three; have f4 := HN.out.weak.weak.b0.eight; have f5 := HN.out.weak.b0.eight)
    | (go_at_call 23; (with_reducible refine (HB.out _ _ _ HN.out.a0 HN.out.a1).mono ?_); rintro e w12 ⟨rfl, hb⟩; have H' := Lib.hid (HN.out.next hb); clear hb HN f1 f2 f3 f4 f5; have HN := H'; clear H'; skip))
  go_ret
  exact ⟨rfl, HN.out.low⟩
end Go.Proofs.Ytdipmlamjjpcoaa
