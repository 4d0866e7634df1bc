/- States: the law StateMoves. -/
import Derived.Test.YtdipmlamjjpcoaaTF
import Derived.Test.YtdipmlamjjpcoaaSU
namespace Go.Proofs.Ytdipmlamjjpcoaa
open Go.RowKit
attribute [local go_sem] b_and b_or b_xor b_andNot b_low b_top b_most b_signed b_unsigned b_zero b_eq s_eq b_nzero b_neq s_neq b_max b_min s_max s_min
attribute [local go_sem ↓] Go.wp_at_zero Go.wp_at_succ

theorem Hs.mv {w W : World} {A : AbA} {N1 N2 N3 b1 b2 b3 b4 b5 g1 g2 g3 : Nat} {q1 q2 q3 : Option Addr} {k y : Kn} {m : List (AbA × Ab)} (h : Hs w W [(b5, [.int .i64 y.kind, .int .u64 (U y.num.ul), .int .u64 (U y.num.uh), .int .i64 (S y.num.sl), .int .i64 (S y.num.sh), .int .u64 (U y.num.t.v), .int .u64 (U y.num.t.m), .int .i64 y.reg]), (b4, [.int .i64 y.kind, .int .u64 (U y.num.ul), .int .u64 (U y.num.uh), .int .i64 (S y.num.sl), .int .i64 (S y.num.sh), .int .u64 (U y.num.t.v), .int .u64 (U y.num.t.m), .int .i64 y.reg]), (b3, [.slice q1 N1 g1, .slice q2 N2 g2, .slice q3 N3 g3]), (b2, [.int .i64 k.kind, .int .u64 (U k.num.ul), .int .u64 (U k.num.uh), .int .i64 (S k.num.sl), .int .i64 (S k.num.sh), .int .u64 (U k.num.t.v), .int .u64 (U k.num.t.m), .int .i64 k.reg]), (b1, [.slice A.p1 N1 A.c1, .slice A.p2 N2 A.c2, .slice A.p3 N3 A.c3])] m) : (W.cell? ⟨b1, 0, none⟩ = some (.slice A.p1 N1 A.c1) ∧ W.cell? ⟨b1, 1, none⟩ = some (.slice A.p2 N2 A.c2) ∧ W.cell? ⟨b1, 2, none⟩ = some (.slice A.p3 N3 A.c3)) ∧ (W.cell? ⟨b2, 0, none⟩ = some (.int .i64 k.kind) ∧ W.cell? ⟨b2, 1, none⟩ = some (.int .u64 (U k.num.ul)) ∧ W.cell? ⟨b2, 2, none⟩ = some (.int .u64 (U k.num.uh)) ∧ W.cell? ⟨b2, 3, none⟩ = some (.int .i64 (S k.num.sl)) ∧ W.cell? ⟨b2, 4, none⟩ = some (.int .i64 (S k.num.sh)) ∧ W.cell? ⟨b2, 5, none⟩ = some (.int .u64 (U k.num.t.v)) ∧ W.cell? ⟨b2, 6, none⟩ = some (.int .u64 (U k.num.t.m)) ∧ W.cell? ⟨b2, 7, none⟩ = some (.int .i64 k.reg)) ∧ (W.cell? ⟨b3, 0, none⟩ = some (.slice q1 N1 g1) ∧ W.cell? ⟨b3, 1, none⟩ = some (.slice q2 N2 g2) ∧ W.cell? ⟨b3, 2, none⟩ = some (.slice q3 N3 g3)) ∧ (W.cell? ⟨b4, 0, none⟩ = some (.int .i64 y.kind) ∧ W.cell? ⟨b4, 1, none⟩ = some (.int .u64 (U y.num.ul)) ∧ W.cell? ⟨b4, 2, none⟩ = some (.int .u64 (U y.num.uh)) ∧ W.cell? ⟨b4, 3, none⟩ = some (.int .i64 (S y.num.sl)) ∧ W.cell? ⟨b4, 4, none⟩ = some (.int .i64 (S y.num.sh)) ∧ W.cell? ⟨b4, 5, none⟩ = some (.int .u64 (U y.num.t.v)) ∧ W.cell? ⟨b4, 6, none⟩ = some (.int .u64 (U y.num.t.m)) ∧ W.cell? ⟨b4, 7, none⟩ = some (.int .i64 y.reg)) ∧ (W.cell? ⟨b5, 0, none⟩ = some (.int .i64 y.kind) ∧ W.cell? ⟨b5, 1, none⟩ = some (.int .u64 (U y.num.ul)) ∧ W.cell? ⟨b5, 2, none⟩ = some (.int .u64 (U y.num.uh)) ∧ W.cell? ⟨b5, 3, none⟩ = some (.int .i64 (S y.num.sl)) ∧ W.cell? ⟨b5, 4, none⟩ = some (.int .i64 (S y.num.sh)) ∧ W.cell? ⟨b5, 5, none⟩ = some (.int .u64 (U y.num.t.v)) ∧ W.cell? ⟨b5, 6, none⟩ = some (.int .u64 (U y.num.t.m)) ∧ W.cell? ⟨b5, 7, none⟩ = some (.int .i64 y.reg)) := by
  have h5 := h.b0.eight.1
  have h4 := h.weak.b0.eight.1
  have h3 := h.weak.weak.b0.three.1
  have h2 := h.weak.weak.weak.b0.eight.1
  have h1 := h.weak.weak.weak.weak.b0.three.1
  exact ⟨h1, h2, h3, h4, h5⟩
theorem Hs.skN {w : World} {A : AbA} {s : Ab} (k : Kn) {N1 N2 N3 : Nat} (hA : AbAt w A s) (h1 : s.regs.length = N1) (h2 : s.set.length = N2) (h3 : s.saved.length = N3) (t t' : TypeId) :
    Hs w ((w.alloc (.cells #[.slice A.p1 N1 A.c1, .slice A.p2 N2 A.c2, .slice A.p3 N3 A.c3] t)).alloc (.cells #[.int .i64 k.kind, .int .u64 (U k.num.ul), .int .u64 (U k.num.uh), .int .i64 (S k.num.sl), .int .i64 (S k.num.sh), .int .u64 (U k.num.t.v), .int .u64 (U k.num.t.m), .int .i64 k.reg] t'))
      [(w.heap.size + 1, [.int .i64 k.kind, .int .u64 (U k.num.ul), .int .u64 (U k.num.uh), .int .i64 (S k.num.sl), .int .i64 (S k.num.sh), .int .u64 (U k.num.t.v), .int .u64 (U k.num.t.m), .int .i64 k.reg]), (w.heap.size, [.slice A.p1 N1 A.c1, .slice A.p2 N2 A.c2, .slice A.p3 N3 A.c3])] [(A, s)] := by
  subst h1 h2 h3
  exact Hs.sk k hA t t'
set_option maxRecDepth 100000 in
set_option maxHeartbeats 8000000 in
theorem moves_0 (A : AbA) (s : Ab) (k : Kn) (lo hi n : Int) (hl : (Lit.int .i64 lo).wf = true) (hh : (Lit.int .i64 hi).wf = true) (hn : (Lit.int .i64 n).wf = true) (w : World) (hA : AbAt w A s) : Calls Try.prog 4 #[.agg #[.slice A.p1 s.regs.length A.c1, .slice A.p2 s.set.length A.c2, .slice A.p3 s.saved.length A.c3], .agg #[.int .i64 k.kind, .int .u64 (U k.num.ul), .int .u64 (U k.num.uh), .int .i64 (S k.num.sl), .int .i64 (S k.num.sh), .int .u64 (U k.num.t.v), .int .u64 (U k.num.t.m), .int .i64 k.reg], .int .i64 lo, .int .i64 hi, .int .i64 n] w fun e w' => e = .returned (.bool true) ∧ Below w.heap.size w w' := by
  have hcp := fun (W : World) (h : AbAt W A s) => rcopy_any A s W h
  have hlp := fun (B : AbA) (W : World) (h : AbAt W B s) => sload_any B s lo hi n hl hh hn W h
  have hlr := fun (W : World) (h : AbAt W A s) => rload_any A s lo hi n W h
  have hpp := fun (B : AbA) (W : World) (h : AbAt W B s) => sput_any B s n k hn W h
  have hpr := fun (W : World) (h : AbAt W A s) => rput_any A s n k W h
  have hsp := fun (B : AbA) (W : World) (h : AbAt W B s) => sstore_any B s lo hi n k hl hh hn W h
  have hsr := fun (W : World) (h : AbAt W A s) => rstore_any A s lo hi n k W h
  have hrp := fun (B : AbA) (W : World) (h : AbAt W B s) => sready_any B s lo hi hl hh W h
  have hrr := fun (W : World) (h : AbAt W A s) => rready_any A s lo hi W h
  have hm := fun (B C : AbA) (t : Ab) (W : World) (h1 : AbAt W B t) (h2 : AbAt W C t) => rsame_yes B C t W h1 h2
  generalize (loadS s lo hi n).1 = y at *
  generalize (loadS s lo hi n).2 = g at *
  generalize putS s n k = T at *
  generalize storeS s lo hi n k = V at *
  generalize readyS s lo hi = r at *
  have e2 := eqK y y
  rw [decide_eq_true (rfl : y = y)] at e2
  have e3 : (g == g) = true := by simp
  have e4 : (r == r) = true := by simp
  obtain ⟨N1, hN1⟩ : ∃ N, s.regs.length = N := ⟨_, rfl⟩
  obtain ⟨N2, hN2⟩ : ∃ N, s.set.length = N := ⟨_, rfl⟩
  obtain ⟨N3, hN3⟩ : ∃ N, s.saved.length = N := ⟨_, rfl⟩
  have HM3 := Lib.hid (fun (B C : AbA) (W : World) (h1 : AbAt W B s) (h2 : AbAt W C s) => hm B C s W h1 h2)
  have HM1 := Lib.hid (fun (B C : AbA) (W : World) (h1 : AbAt W B T) (h2 : AbAt W C T) => hm B C T W h1 h2)
  have HM2 := Lib.hid (fun (B C : AbA) (W : World) (h1 : AbAt W B V) (h2 : AbAt W C V) => hm B C V W h1 h2)
  have HN := Lib.hid (Hs.skN k hA hN1 hN2 hN3 25 33)
  rw [hN1, hN2, hN3] at hcp hlp hlr hpp hpr hsp hsr hrp hrr HM3 ⊢
  have HCP := Lib.hid hcp
  have HLP := Lib.hid hlp
  have HLR := Lib.hid hlr
  have HPP := Lib.hid hpp
  have HPR := Lib.hid hpr
  have HSP := Lib.hid hsp
  have HSR := Lib.hid hsr
  have HRP := Lib.hid hrp
  have HRR := Lib.hid hrr
  clear hcp hlp hlr hpp hpr hsp hsr hrp hrr hm hA hN1 hN2 hN3 hl hh hn
  generalize T.regs.length = M1 at *
  generalize T.set.length = M2 at *
  generalize T.saved.length = M3 at *
  generalize V.regs.length = L1 at *
  generalize V.set.length = L2 at *
  generalize V.saved.length = L3 at *
  have f1 := HN.out.weak.b0.three
  have f2 := HN.out.b0.eight
  go_enter Try.func4, Try.ntmps4
  go_wp2_with (first
    | (go_at_call 16; (with_reducible refine (HLR.out _ HN.out.a1).mono ?_); rintro e w5 ⟨rfl, hb⟩; have z7 := (HN.out.next hb).weak.b0.lt; have H' := Lib.hid ((HN.out.next hb).new8 (.int .i64 y.kind) (.int .u64 (U y.num.ul)) (.int .u64 (U y.num.uh)) (.int .i64 (S y.num.sl)) (.int .i64 (S y.num.sh)) (.int .u64 (U y.num.t.v)) (.int .u64 (U y.num.t.m)) (.int .i64 y.reg) 33); clear hb HN f1 f2 f3 f4; have HN := H'; clear H'; have f1 := HN.out.weak.weak.weak.weak.b0.three; have f2 := HN.out.weak.weak.weak.b0.eight; have f3 := HN.out.weak.weak.b0.three; have f4 := HN.out.weak.b0.eight; have f5 := HN.out.b0.eight)
    | (go_at_call 12; (with_reducible refine (HLP.out _ _ HN.out.a0).mono ?_); rintro e w4 ⟨rfl, hb⟩; have z6 := (HN.out.next hb).b0.lt; have H' := Lib.hid ((HN.out.next hb).new8 (.int .i64 y.kind) (.int .u64 (U y.num.ul)) (.int .u64 (U y.num.uh)) (.int .i64 (S y.num.sl)) (.int .i64 (S y.num.sh)) (.int .u64 (U y.num.t.v)) (.int .u64 (U y.num.t.m)) (.int .i64 y.reg) 33); clear hb HN f1 f2 f3; have HN := H'; clear H'; have f1 := HN.out.weak.weak.weak.b0.three; have f2 := HN.out.weak.weak.b0.eight; have f3 := HN.out.weak.b0.three; have f4 := HN.out.b0.eight)
    | (go_at_call 15; (with_reducible refine (HCP.out _ HN.out.a0).mono ?_); rintro e w1 ⟨⟨q1, q2, q3, g1, g2, g3⟩, rfl, hb, hD, _, _⟩; have H' := Lib.hid (((HN.out.next hb).add hD).new3 (.slice q1 N1 g1) (.slice q2 N2 g2) (.slice q3 N3 g3) 25); clear hb HN hD f1 f2; have HN := H'; clear H'; have f1 := HN.out.weak.weak.b0.three; have f2 := HN.out.weak.b0.eight; have f3 := HN.out.b0.three))
  generalize (w5.alloc (.cells #[.int .i64 y.kind, .int .u64 (U y.num.ul), .int .u64 (U y.num.uh), .int .i64 (S y.num.sl), .int .i64 (S y.num.sh), .int .u64 (U y.num.t.v), .int .u64 (U y.num.t.m), .int .i64 y.reg] 33)) = W5 at *
  have HN' := Lib.hid HN.out.drew
  clear HN f1 f2 f3 f4 f5
  have HN := HN'
  clear HN'
  have F := HN.out.mv
  go_region_held3 (fun W => (W.cell? ⟨w.heap.size, 0, none⟩ = some (.slice A.p1 N1 A.c1) ∧ W.cell? ⟨w.heap.size, 1, none⟩ = some (.slice A.p2 N2 A.c2) ∧ W.cell? ⟨w.heap.size, 2, none⟩ = some (.slice A.p3 N3 A.c3)) ∧ (W.cell? ⟨(w.heap.size + 1), 0, none⟩ = some (.int .i64 k.kind) ∧ W.cell? ⟨(w.heap.size + 1), 1, none⟩ = some (.int .u64 (U k.num.ul)) ∧ W.cell? ⟨(w.heap.size + 1), 2, none⟩ = some (.int .u64 (U k.num.uh)) ∧ W.cell? ⟨(w.heap.size + 1), 3, none⟩ = some (.int .i64 (S k.num.sl)) ∧ W.cell? ⟨(w.heap.size + 1), 4, none⟩ = some (.int .i64 (S k.num.sh)) ∧ W.cell? ⟨(w.heap.size + 1), 5, none⟩ = some (.int .u64 (U k.num.t.v)) ∧ W.cell? ⟨(w.heap.size + 1), 6, none⟩ = some (.int .u64 (U k.num.t.m)) ∧ W.cell? ⟨(w.heap.size + 1), 7, none⟩ = some (.int .i64 k.reg)) ∧ (W.cell? ⟨w1.heap.size, 0, none⟩ = some (.slice q1 N1 g1) ∧ W.cell? ⟨w1.heap.size, 1, none⟩ = some (.slice q2 N2 g2) ∧ W.cell? ⟨w1.heap.size, 2, none⟩ = some (.slice q3 N3 g3)) ∧ (W.cell? ⟨w4.heap.size, 0, none⟩ = some (.int .i64 y.kind) ∧ W.cell? ⟨w4.heap.size, 1, none⟩ = some (.int .u64 (U y.num.ul)) ∧ W.cell? ⟨w4.heap.size, 2, none⟩ = some (.int .u64 (U y.num.uh)) ∧ W.cell? ⟨w4.heap.size, 3, none⟩ = some (.int .i64 (S y.num.sl)) ∧ W.cell? ⟨w4.heap.size, 4, none⟩ = some (.int .i64 (S y.num.sh)) ∧ W.cell? ⟨w4.heap.size, 5, none⟩ = some (.int .u64 (U y.num.t.v)) ∧ W.cell? ⟨w4.heap.size, 6, none⟩ = some (.int .u64 (U y.num.t.m)) ∧ W.cell? ⟨w4.heap.size, 7, none⟩ = some (.int .i64 y.reg)) ∧ (W.cell? ⟨w5.heap.size, 0, none⟩ = some (.int .i64 y.kind) ∧ W.cell? ⟨w5.heap.size, 1, none⟩ = some (.int .u64 (U y.num.ul)) ∧ W.cell? ⟨w5.heap.size, 2, none⟩ = some (.int .u64 (U y.num.uh)) ∧ W.cell? ⟨w5.heap.size, 3, none⟩ = some (.int .i64 (S y.num.sl)) ∧ W.cell? ⟨w5.heap.size, 4, none⟩ = some (.int .i64 (S y.num.sh)) ∧ W.cell? ⟨w5.heap.size, 5, none⟩ = some (.int .u64 (U y.num.t.v)) ∧ W.cell? ⟨w5.heap.size, 6, none⟩ = some (.int .u64 (U y.num.t.m)) ∧ W.cell? ⟨w5.heap.size, 7, none⟩ = some (.int .i64 y.reg)))
    (with_reducible exact F)
    (first
    | (go_at_call 10; have _t := X10; (with_reducible refine (heads_any _).mono ?_); rintro e w16 ⟨rfl, hb⟩; have H' := Lib.hid (HN.out.next hb); clear hb HN F; have HN := H'; clear H'; have F := HN.out.mv)
    | (go_at_call 17; have _t := X9; (with_reducible refine (HM3.out _ _ _ HN.out.a0 HN.out.a1).mono ?_); rintro e w15 ⟨rfl, hb⟩; have X10 := Lib.hid trivial; have H' := Lib.hid (HN.out.next hb); clear hb HN F; have HN := H'; clear H'; have F := HN.out.mv)
    | (go_at_call 22; (with_reducible refine (HRR.out _ HN.out.a1).mono ?_); rintro e w14 ⟨rfl, hb⟩; have X9 := Lib.hid trivial; have H' := Lib.hid (HN.out.next hb); clear hb HN F; have HN := H'; clear H'; have F := HN.out.mv)
    | (go_at_call 21; (with_reducible refine (HRP.out _ _ HN.out.a0).mono ?_); rintro e w13 ⟨rfl, hb⟩; have H' := Lib.hid (HN.out.next hb); clear hb HN F; have HN := H'; clear H'; have F := HN.out.mv)
    | (go_at_call 17; have _t := X6; (with_reducible refine (HM2.out _ _ _ HN.out.a1 HN.out.a0).mono ?_); rintro e w12 ⟨rfl, hb⟩; have H' := Lib.hid (HN.out.next hb).weakA.weakA; clear hb HN F X6; have HN := H'; clear H'; have F := HN.out.mv)
    | (go_at_call 20; (with_reducible refine (HSR.out _ HN.out.weakA.a1).mono ?_); rintro e w11 ⟨⟨y1, y2, y3, k1, k2, k3⟩, rfl, hD, hb⟩; have X6 := Lib.hid trivial; have H' := Lib.hid ((HN.out.next hb).add hD); clear hb HN F hD; have HN := H'; clear H'; have F := HN.out.mv)
    | (go_at_call 11; (with_reducible refine (HSP.out _ _ HN.out.a0).mono ?_); rintro e w10 ⟨⟨x1, x2, x3, j1, j2, j3⟩, rfl, hD, hb⟩; have H' := Lib.hid ((HN.out.next hb).add hD); clear hb HN F hD; have HN := H'; clear H'; have F := HN.out.mv)
    | (go_at_call 17; have _t := X3; (with_reducible refine (HM1.out _ _ _ HN.out.a1 HN.out.a0).mono ?_); rintro e w9 ⟨rfl, hb⟩; have H' := Lib.hid (HN.out.next hb).weakA.weakA; clear hb HN F X3; have HN := H'; clear H'; have F := HN.out.mv)
    | (go_at_call 19; (with_reducible refine (HPR.out _ HN.out.weakA.a1).mono ?_); rintro e w8 ⟨⟨u1, u2, u3, i1, i2, i3⟩, rfl, hD, hb⟩; have X3 := Lib.hid trivial; have H' := Lib.hid ((HN.out.next hb).add hD); clear hb HN F hD; have HN := H'; clear H'; have F := HN.out.mv)
    | (go_at_call 18; (with_reducible refine (HPP.out _ _ HN.out.a0).mono ?_); rintro e w7 ⟨⟨p1, p2, p3, h1, h2, h3⟩, rfl, hD, hb⟩; have H' := Lib.hid ((HN.out.next hb).add hD); clear hb HN F hD; have HN := H'; clear H'; have F := HN.out.mv))
  all_goals
    go_wp2
    go_ret
    exact ⟨rfl, HN.out.low⟩
end Go.Proofs.Ytdipmlamjjpcoaa
