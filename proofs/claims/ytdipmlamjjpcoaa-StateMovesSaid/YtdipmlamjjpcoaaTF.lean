/- States: the law on stores of less than a whole register. -/
import Derived.Test.YtdipmlamjjpcoaaTE
namespace Go.Proofs.Ytdipmlamjjpcoaa
open Go.RowKit
attribute [local go_sem] b_and b_or b_xor b_andNot b_low b_top b_most b_signed b_unsigned b_zero b_eq s_eq b_nzero b_neq s_neq b_max b_min s_max s_min
attribute [local go_sem ↓] Go.wp_at_zero Go.wp_at_succ

theorem Hs.g {w W : World} {n j : Nat} {v0 v1 v2 v3 v4 v5 v6 v7 u0 u1 u2 : Value} {l : List (Nat × List Value)} {m : List (AbA × Ab)} (h : Hs w W ((n, [v0, v1, v2, v3, v4, v5, v6, v7]) :: (j, [u0, u1, u2]) :: l) m) :
    ((W.cell? ⟨j, 0, none⟩ = some (u0) ∧ W.cell? ⟨j, 1, none⟩ = some (u1) ∧ W.cell? ⟨j, 2, none⟩ = some (u2)) ∧ j < W.heap.size) ∧ (W.cell? ⟨n, 0, none⟩ = some (v0) ∧ W.cell? ⟨n, 1, none⟩ = some (v1) ∧ W.cell? ⟨n, 2, none⟩ = some (v2) ∧ W.cell? ⟨n, 3, none⟩ = some (v3) ∧ W.cell? ⟨n, 4, none⟩ = some (v4) ∧ W.cell? ⟨n, 5, none⟩ = some (v5) ∧ W.cell? ⟨n, 6, none⟩ = some (v6) ∧ W.cell? ⟨n, 7, none⟩ = some (v7)) ∧ n < W.heap.size := ⟨⟨h.weak.b0.three.1, h.weak.b0.lt⟩, h.b0.eight.1, h.b0.lt⟩
theorem Hs.g1 {w W : World} {n : Nat} {v0 v1 v2 v3 v4 v5 v6 v7 : Value} {l : List (Nat × List Value)} {m : List (AbA × Ab)} (h : Hs w W ((n, [v0, v1, v2, v3, v4, v5, v6, v7]) :: l) m) :
    (W.cell? ⟨n, 0, none⟩ = some (v0) ∧ W.cell? ⟨n, 1, none⟩ = some (v1) ∧ W.cell? ⟨n, 2, none⟩ = some (v2) ∧ W.cell? ⟨n, 3, none⟩ = some (v3) ∧ W.cell? ⟨n, 4, none⟩ = some (v4) ∧ W.cell? ⟨n, 5, none⟩ = some (v5) ∧ W.cell? ⟨n, 6, none⟩ = some (v6) ∧ W.cell? ⟨n, 7, none⟩ = some (v7)) ∧ n < W.heap.size := ⟨h.b0.eight.1, h.b0.lt⟩
/-- what the law's main part asks of the states -/
structure Sm (s T : Ab) (k y : Kn) (g : Bool) (low n : Int) (q : Nat) (m : Bd) : Prop where
  cs : checkS s = true
  ct : checkS T = true
  st : storeS s low low n k = T
  l1 : loadS T low low n = (⟨1, m, 0⟩, true)
  sz : size11 n = m
  l2 : loadS T (8 * (q : Int)) (8 * (q : Int)) 8 = (y, g)
  fin : g = false ∨ y = ⟨1, bany, 0⟩
  dv : low.tdiv 8 = (q : Int)
  hq : q ≤ 63
theorem sm_ex {s : Ab} {k : Kn} {low n : Int} (hs : checkS s = true) (hk : right k = true) (h0 : 0 ≤ low) (h1 : 1 ≤ n) (h4 : n ≤ 4) (hl : low ≤ 512 - n) : ∃ T y g q m, Sm s T k y g low n q m := by
  obtain ⟨l, rfl⟩ := Int.eq_ofNat_of_zero_le h0
  obtain ⟨c, rfl⟩ := Int.eq_ofNat_of_zero_le (show 0 ≤ n by omega)
  have eq : (8 * ((l / 8 : Nat) : Int)) = ((8 * (l / 8) : Nat) : Int) := by omega
  refine ⟨_, _, _, l / 8, _, hs, store_check hs hk (n := c) (l := l) (by omega) (by omega), rfl, small_self hs hk (by omega) (by omega) (by omega), rfl, rfl, ?_, ?_, by omega⟩
  · rw [eq]; exact small_whole hs hk (by omega) (by omega) (by omega)
  · rw [Int.tdiv_eq_ediv_of_nonneg (by omega)]; omega
set_option maxRecDepth 100000 in
set_option maxHeartbeats 4000000 in
theorem small_c (A : AbA) (s : Ab) (k : Kn) (low n : Int) (w : World) (hA : AbAt w A s) (hc : checkS s = false) : Calls Try.prog 3 #[.agg #[.slice A.p1 s.regs.length A.c1, .slice A.p2 s.set.length A.c2, .slice A.p3 s.saved.length A.c3], .agg #[.int .i64 k.kind, .int .u64 (U k.num.ul), .int .u64 (U k.num.uh), .int .i64 (S k.num.sl), .int .i64 (S k.num.sh), .int .u64 (U k.num.t.v), .int .u64 (U k.num.t.m), .int .i64 k.reg], .int .i64 low, .int .i64 n] w fun e w' => e = .returned (.bool true) ∧ Below w.heap.size w w' := by
  have HN := Lib.hid (Hs.sk k hA 25 33)
  have HC0 := Lib.hid (fun W h => scheck_any A s W h)
  have HRT := Lib.hid (fun W => rright_any k W)
  have f1 := HN.out.weak.b0.three
  have f2 := HN.out.b0.eight
  clear hA
  rw [hc] at HC0
  clear hc
  go_enter Try.func3, Try.ntmps3
  go_wp2_with (first
    | (go_at_call 8; (with_reducible refine (HC0.out _ HN.out.a0).mono ?_); rintro e w1 ⟨rfl, hb⟩; have H' := Lib.hid (HN.out.next hb); clear hb HN f1 f2; have HN := H'; clear H'; have f1 := HN.out.weak.b0.three; have f2 := HN.out.b0.eight)
    | (go_at_call 10; (with_reducible refine (heads_any _).mono ?_); rintro e w3 ⟨rfl, hb⟩; have H' := Lib.hid (HN.out.next hb); clear hb HN f1 f2; have HN := H'; clear H'; have f1 := HN.out.weak.b0.three; have f2 := HN.out.b0.eight))
  go_ret
  exact ⟨rfl, HN.out.low⟩
set_option maxRecDepth 100000 in
set_option maxHeartbeats 4000000 in
theorem small_k (A : AbA) (s : Ab) (k : Kn) (low n : Int) (w : World) (hA : AbAt w A s) (hc : checkS s = true) (hk : right k = false) : Calls Try.prog 3 #[.agg #[.slice A.p1 s.regs.length A.c1, .slice A.p2 s.set.length A.c2, .slice A.p3 s.saved.length A.c3], .agg #[.int .i64 k.kind, .int .u64 (U k.num.ul), .int .u64 (U k.num.uh), .int .i64 (S k.num.sl), .int .i64 (S k.num.sh), .int .u64 (U k.num.t.v), .int .u64 (U k.num.t.m), .int .i64 k.reg], .int .i64 low, .int .i64 n] w fun e w' => e = .returned (.bool true) ∧ Below w.heap.size w w' := by
  have HN := Lib.hid (Hs.sk k hA 25 33)
  have HC0 := Lib.hid (fun W h => scheck_any A s W h)
  have HRT := Lib.hid (fun W => rright_any k W)
  have f1 := HN.out.weak.b0.three
  have f2 := HN.out.b0.eight
  clear hA
  rw [hc] at HC0
  rw [hk] at HRT
  clear hc hk
  go_enter Try.func3, Try.ntmps3
  go_wp2_with (first
    | (go_at_call 9; (with_reducible refine (HRT.out _).mono ?_); rintro e w2 ⟨rfl, hb⟩; have H' := Lib.hid (HN.out.next hb); clear hb HN f1 f2; have HN := H'; clear H'; have f1 := HN.out.weak.b0.three; have f2 := HN.out.b0.eight)
    | (go_at_call 8; (with_reducible refine (HC0.out _ HN.out.a0).mono ?_); rintro e w1 ⟨rfl, hb⟩; have H' := Lib.hid (HN.out.next hb); clear hb HN f1 f2; have HN := H'; clear H'; have f1 := HN.out.weak.b0.three; have f2 := HN.out.b0.eight)
    | (go_at_call 10; (with_reducible refine (heads_any _).mono ?_); rintro e w3 ⟨rfl, hb⟩; have H' := Lib.hid (HN.out.next hb); clear hb HN f1 f2; have HN := H'; clear H'; have f1 := HN.out.weak.b0.three; have f2 := HN.out.b0.eight))
  go_ret
  exact ⟨rfl, HN.out.low⟩
set_option maxRecDepth 100000 in
set_option maxHeartbeats 4000000 in
theorem small_o (A : AbA) (s : Ab) (k : Kn) (low n : Int) (w : World) (hA : AbAt w A s) (hc : checkS s = true) (hk : right k = true) (hx : low < 0 ∨ n < 1 ∨ 4 < n ∨ n = 3 ∨ 512 - n < low) : Calls Try.prog 3 #[.agg #[.slice A.p1 s.regs.length A.c1, .slice A.p2 s.set.length A.c2, .slice A.p3 s.saved.length A.c3], .agg #[.int .i64 k.kind, .int .u64 (U k.num.ul), .int .u64 (U k.num.uh), .int .i64 (S k.num.sl), .int .i64 (S k.num.sh), .int .u64 (U k.num.t.v), .int .u64 (U k.num.t.m), .int .i64 k.reg], .int .i64 low, .int .i64 n] w fun e w' => e = .returned (.bool true) ∧ Below w.heap.size w w' := by
  have HN := Lib.hid (Hs.sk k hA 25 33)
  have HC0 := Lib.hid (fun W h => scheck_any A s W h)
  have HRT := Lib.hid (fun W => rright_any k W)
  have f1 := HN.out.weak.b0.three
  have f2 := HN.out.b0.eight
  clear hA
  rw [hc] at HC0
  rw [hk] at HRT
  clear hc hk
  by_cases x1 : low < 0
  · clear hx
    go_enter Try.func3, Try.ntmps3
    go_wp2_with (first
      | (go_at_call 9; (with_reducible refine (HRT.out _).mono ?_); rintro e w2 ⟨rfl, hb⟩; have H' := Lib.hid (HN.out.next hb); clear hb HN f1 f2; have HN := H'; clear H'; have f1 := HN.out.weak.b0.three; have f2 := HN.out.b0.eight)
      | (go_at_call 8; (with_reducible refine (HC0.out _ HN.out.a0).mono ?_); rintro e w1 ⟨rfl, hb⟩; have H' := Lib.hid (HN.out.next hb); clear hb HN f1 f2; have HN := H'; clear H'; have f1 := HN.out.weak.b0.three; have f2 := HN.out.b0.eight)
      | (go_at_call 10; (with_reducible refine (heads_any _).mono ?_); rintro e w3 ⟨rfl, hb⟩; have H' := Lib.hid (HN.out.next hb); clear hb HN f1 f2; have HN := H'; clear H'; have f1 := HN.out.weak.b0.three; have f2 := HN.out.b0.eight))
    go_ret
    exact ⟨rfl, HN.out.low⟩
  by_cases x2 : n < 1
  · clear hx
    go_enter Try.func3, Try.ntmps3
    go_wp2_with (first
      | (go_at_call 9; (with_reducible refine (HRT.out _).mono ?_); rintro e w2 ⟨rfl, hb⟩; have H' := Lib.hid (HN.out.next hb); clear hb HN f1 f2; have HN := H'; clear H'; have f1 := HN.out.weak.b0.three; have f2 := HN.out.b0.eight)
      | (go_at_call 8; (with_reducible refine (HC0.out _ HN.out.a0).mono ?_); rintro e w1 ⟨rfl, hb⟩; have H' := Lib.hid (HN.out.next hb); clear hb HN f1 f2; have HN := H'; clear H'; have f1 := HN.out.weak.b0.three; have f2 := HN.out.b0.eight)
      | (go_at_call 10; (with_reducible refine (heads_any _).mono ?_); rintro e w3 ⟨rfl, hb⟩; have H' := Lib.hid (HN.out.next hb); clear hb HN f1 f2; have HN := H'; clear H'; have f1 := HN.out.weak.b0.three; have f2 := HN.out.b0.eight))
    go_ret
    exact ⟨rfl, HN.out.low⟩
  by_cases x3 : 4 < n
  · clear hx
    go_enter Try.func3, Try.ntmps3
    go_wp2_with (first
      | (go_at_call 9; (with_reducible refine (HRT.out _).mono ?_); rintro e w2 ⟨rfl, hb⟩; have H' := Lib.hid (HN.out.next hb); clear hb HN f1 f2; have HN := H'; clear H'; have f1 := HN.out.weak.b0.three; have f2 := HN.out.b0.eight)
      | (go_at_call 8; (with_reducible refine (HC0.out _ HN.out.a0).mono ?_); rintro e w1 ⟨rfl, hb⟩; have H' := Lib.hid (HN.out.next hb); clear hb HN f1 f2; have HN := H'; clear H'; have f1 := HN.out.weak.b0.three; have f2 := HN.out.b0.eight)
      | (go_at_call 10; (with_reducible refine (heads_any _).mono ?_); rintro e w3 ⟨rfl, hb⟩; have H' := Lib.hid (HN.out.next hb); clear hb HN f1 f2; have HN := H'; clear H'; have f1 := HN.out.weak.b0.three; have f2 := HN.out.b0.eight))
    go_ret
    exact ⟨rfl, HN.out.low⟩
  by_cases x4 : n = 3
  · subst x4
    clear hx
    go_enter Try.func3, Try.ntmps3
    go_wp2_with (first
      | (go_at_call 9; (with_reducible refine (HRT.out _).mono ?_); rintro e w2 ⟨rfl, hb⟩; have H' := Lib.hid (HN.out.next hb); clear hb HN f1 f2; have HN := H'; clear H'; have f1 := HN.out.weak.b0.three; have f2 := HN.out.b0.eight)
      | (go_at_call 8; (with_reducible refine (HC0.out _ HN.out.a0).mono ?_); rintro e w1 ⟨rfl, hb⟩; have H' := Lib.hid (HN.out.next hb); clear hb HN f1 f2; have HN := H'; clear H'; have f1 := HN.out.weak.b0.three; have f2 := HN.out.b0.eight)
      | (go_at_call 10; (with_reducible refine (heads_any _).mono ?_); rintro e w3 ⟨rfl, hb⟩; have H' := Lib.hid (HN.out.next hb); clear hb HN f1 f2; have HN := H'; clear H'; have f1 := HN.out.weak.b0.three; have f2 := HN.out.b0.eight))
    go_ret
    exact ⟨rfl, HN.out.low⟩
  have x5 : 512 - n < low := by omega
  clear hx
  go_enter Try.func3, Try.ntmps3
  go_wp2_with (first
    | (go_at_call 9; (with_reducible refine (HRT.out _).mono ?_); rintro e w2 ⟨rfl, hb⟩; have H' := Lib.hid (HN.out.next hb); clear hb HN f1 f2; have HN := H'; clear H'; have f1 := HN.out.weak.b0.three; have f2 := HN.out.b0.eight)
    | (go_at_call 8; (with_reducible refine (HC0.out _ HN.out.a0).mono ?_); rintro e w1 ⟨rfl, hb⟩; have H' := Lib.hid (HN.out.next hb); clear hb HN f1 f2; have HN := H'; clear H'; have f1 := HN.out.weak.b0.three; have f2 := HN.out.b0.eight)
    | (go_at_call 10; (with_reducible refine (heads_any _).mono ?_); rintro e w3 ⟨rfl, hb⟩; have H' := Lib.hid (HN.out.next hb); clear hb HN f1 f2; have HN := H'; clear H'; have f1 := HN.out.weak.b0.three; have f2 := HN.out.b0.eight))
  go_ret
  exact ⟨rfl, HN.out.low⟩
theorem neqK (x : Kn) (w : World) : (binOp .neq 33 (.agg #[.int .i64 x.kind, .int .u64 (U x.num.ul), .int .u64 (U x.num.uh), .int .i64 (S x.num.sl), .int .i64 (S x.num.sh), .int .u64 (U x.num.t.v), .int .u64 (U x.num.t.m), .int .i64 x.reg]) (.agg #[.int .i64 x.kind, .int .u64 (U x.num.ul), .int .u64 (U x.num.uh), .int .i64 (S x.num.sl), .int .i64 (S x.num.sh), .int .u64 (U x.num.t.v), .int .u64 (U x.num.t.m), .int .i64 x.reg])).run Try.prog w = .ok (.bool false) w := by
  simp [go_sem]
set_option maxRecDepth 100000 in
set_option maxHeartbeats 4000000 in
theorem small_f (A : AbA) (s : Ab) (k : Kn) (low n : Int) (T : Ab) (y : Kn) (q : Nat) (m : Bd) (w : World) (hA : AbAt w A s) (hk : right k = true) (H : Sm s T k y false low n q m) (h0 : 0 ≤ low) (h1 : 1 ≤ n) (h4 : n ≤ 4) (h3 : ¬ n = 3) (hl : low ≤ 512 - n)  : Calls Try.prog 3 #[.agg #[.slice A.p1 s.regs.length A.c1, .slice A.p2 s.set.length A.c2, .slice A.p3 s.saved.length A.c3], .agg #[.int .i64 k.kind, .int .u64 (U k.num.ul), .int .u64 (U k.num.uh), .int .i64 (S k.num.sl), .int .i64 (S k.num.sh), .int .u64 (U k.num.t.v), .int .u64 (U k.num.t.m), .int .i64 k.reg], .int .i64 low, .int .i64 n] w fun e w' => e = .returned (.bool true) ∧ Below w.heap.size w w' := by
  obtain ⟨n1, n2, n3⟩ := lens H.cs
  obtain ⟨k1, k2, k3⟩ := lens H.ct
  have hdv := H.dv
  have h3b : (n == 3) = false := by simpa using h3
  have hq := H.hq
  have hst := fun (W : World) (h : AbAt W A s) => sstore_any A s low low n k (by simp [Lit.wf, IntKind.min, IntKind.max, IntKind.signed, IntKind.bits]; omega) (by simp [Lit.wf, IntKind.min, IntKind.max, IntKind.signed, IntKind.bits]; omega) (by simp [Lit.wf, IntKind.min, IntKind.max, IntKind.signed, IntKind.bits]; omega) W h
  rw [H.st, k1, k2, k3, n1, n2, n3] at hst
  have HST := Lib.hid hst
  have hl1 := fun (D : AbA) (W : World) (h : AbAt W D T) => sload_any D T low low n (by simp [Lit.wf, IntKind.min, IntKind.max, IntKind.signed, IntKind.bits]; omega) (by simp [Lit.wf, IntKind.min, IntKind.max, IntKind.signed, IntKind.bits]; omega) (by simp [Lit.wf, IntKind.min, IntKind.max, IntKind.signed, IntKind.bits]; omega) W h
  have hl2 := fun (D : AbA) (W : World) (h : AbAt W D T) => sload_any D T (8 * (q : Int)) (8 * (q : Int)) 8 (by simp [Lit.wf, IntKind.min, IntKind.max, IntKind.signed, IntKind.bits]; omega) (by simp [Lit.wf, IntKind.min, IntKind.max, IntKind.signed, IntKind.bits]; omega) (by decide) W h
  have hct := fun (D : AbA) (W : World) (h : AbAt W D T) => scheck_any D T W h
  rw [H.l1, k1, k2, k3] at hl1
  rw [H.l2, k1, k2, k3] at hl2
  rw [H.ct, k1, k2, k3] at hct
  dsimp only at hl1
  have HZ := Lib.hid (fun W => rbsize_any n W)
  rw [show bsize n = m from H.sz] at HZ
  have HAN := Lib.hid (fun W => rbany_any W)
  have HL1 := Lib.hid hl1
  have HL2 := Lib.hid hl2
  have HCT := Lib.hid hct
  have e1 := neqK ⟨1, m, 0⟩
  dsimp only at e1
  have HN := Lib.hid (Hs.sk k hA 25 33)
  have HC0 := Lib.hid (fun W h => scheck_any A s W h)
  have HRT := Lib.hid (fun W => rright_any k W)
  rw [n1, n2, n3] at HN HC0
  rw [n1, n2, n3]
  rw [H.cs] at HC0
  rw [hk] at HRT
  have f1 := HN.out.weak.b0.three
  have f2 := HN.out.b0.eight
  clear hA
  clear H hk n1 n2 n3 k1 k2 k3 hst hl1 hl2 hct
  go_enter Try.func3, Try.ntmps3
  go_wp2_with (first
    | (go_at_call 12; (with_reducible refine (HL1.out _ _ HN.out.a0).mono ?_); rintro e w5 ⟨rfl, hb⟩; have H' := Lib.hid ((HN.out.next hb).new8 (.int .i64 1) (.int .u64 (U m.ul)) (.int .u64 (U m.uh)) (.int .i64 (S m.sl)) (.int .i64 (S m.sh)) (.int .u64 (U m.t.v)) (.int .u64 (U m.t.m)) (.int .i64 0) 33); clear hb HN f1 f2 f3; have HN := H'; clear H'; have F := HN.out.g)
    | (go_at_call 11; (with_reducible refine (HST.out _ HN.out.a0).mono ?_); rintro e w4 ⟨⟨q1, q2, q3, g1, g2, g3⟩, rfl, hD, hb⟩; have H' := Lib.hid (((HN.out.next hb).add hD).new3 (.slice q1 11 g1) (.slice q2 512 g2) (.slice q3 64 g3) 25); clear hb HN hD f1 f2; have HN := H'; clear H'; have f1 := HN.out.weak.weak.b0.three; have f2 := HN.out.weak.b0.eight; have f3 := HN.out.b0.three)
    | (go_at_call 9; (with_reducible refine (HRT.out _).mono ?_); rintro e w2 ⟨rfl, hb⟩; have H' := Lib.hid (HN.out.next hb); clear hb HN f1 f2; have HN := H'; clear H'; have f1 := HN.out.weak.b0.three; have f2 := HN.out.b0.eight)
    | (go_at_call 8; (with_reducible refine (HC0.out _ HN.out.a0).mono ?_); rintro e w1 ⟨rfl, hb⟩; have H' := Lib.hid (HN.out.next hb); clear hb HN f1 f2; have HN := H'; clear H'; have f1 := HN.out.weak.b0.three; have f2 := HN.out.b0.eight))
  go_region_held3 (fun W => ((W.cell? ⟨w4.heap.size, 0, none⟩ = some (.slice q1 11 g1) ∧ W.cell? ⟨w4.heap.size, 1, none⟩ = some (.slice q2 512 g2) ∧ W.cell? ⟨w4.heap.size, 2, none⟩ = some (.slice q3 64 g3)) ∧ w4.heap.size < W.heap.size) ∧ (W.cell? ⟨w5.heap.size, 0, none⟩ = some (.int .i64 1) ∧ W.cell? ⟨w5.heap.size, 1, none⟩ = some (.int .u64 (U m.ul)) ∧ W.cell? ⟨w5.heap.size, 2, none⟩ = some (.int .u64 (U m.uh)) ∧ W.cell? ⟨w5.heap.size, 3, none⟩ = some (.int .i64 (S m.sl)) ∧ W.cell? ⟨w5.heap.size, 4, none⟩ = some (.int .i64 (S m.sh)) ∧ W.cell? ⟨w5.heap.size, 5, none⟩ = some (.int .u64 (U m.t.v)) ∧ W.cell? ⟨w5.heap.size, 6, none⟩ = some (.int .u64 (U m.t.m)) ∧ W.cell? ⟨w5.heap.size, 7, none⟩ = some (.int .i64 0)) ∧ w5.heap.size < W.heap.size)
    (first | with_reducible exact F | with_reducible exact HN.out.drew.g)
    (first
    | (go_at_call 8; (first | (with_reducible refine (HCT.out _ _ HN.out.a0).mono ?_) | (with_reducible refine (HCT.out _ _ HN.out.drew.a0).mono ?_)); rintro e w8 ⟨rfl, hb⟩; (first | have H' := Lib.hid (HN.out.next hb) | have H' := Lib.hid (HN.out.drew.next hb)); clear hb HN F; have HN := H'; clear H'; have F := HN.out.g)
    | (go_at_call 13; (with_reducible refine (HZ.out _).mono ?_); rintro e w9 ⟨rfl, hb⟩; (first | have H' := Lib.hid (HN.out.next hb) | have H' := Lib.hid (HN.out.drew.next hb)); clear hb HN F; have HN := H'; clear H'; have F := HN.out.g))
  all_goals
    go_wp2_with (go_at_call 12; (with_reducible refine (HL2.out _ _ HN.out.a0).mono ?_); rintro e w7 ⟨rfl, hb⟩; have H' := Lib.hid ((HN.out.next hb).new8 (.int .i64 y.kind) (.int .u64 (U y.num.ul)) (.int .u64 (U y.num.uh)) (.int .i64 (S y.num.sl)) (.int .i64 (S y.num.sh)) (.int .u64 (U y.num.t.v)) (.int .u64 (U y.num.t.m)) (.int .i64 y.reg) 33); clear hb HN F; have HN := H'; clear H'; have F := HN.out.g1)
    refine wp_region_held_drew (S := fun _ => True) (by kernel_rfl) trivial (fun hHeld => ?_)
    refine takeYes (i := 0) (v := ?v0) (some 85) rfl rfl (by kernel_rfl) (by kernel_rfl) (by kernel_rfl) (fun _ _ _ h => h) (by rfl) ?y0 hHeld ?r0
    case y0 =>
      intro w hSw
      go_simp
      try (with_reducible rfl)
    case r0 =>
    try simp only [Act.put, List.setIfInBounds_toArray, List.set_cons_zero, List.set_cons_succ]
    refine takeYes (i := 1) (v := ?v1) (some 86) rfl rfl (by kernel_rfl) (by kernel_rfl) (by kernel_rfl) (fun _ _ _ h => h) (by rfl) ?y1 hHeld ?r1
    case y1 =>
      intro w hSw
      go_simp
      try (with_reducible rfl)
    case r1 =>
    try simp only [Act.put, List.setIfInBounds_toArray, List.set_cons_zero, List.set_cons_succ]
    refine takeYes (i := 2) (v := ?v2) (some 87) rfl rfl (by kernel_rfl) (by kernel_rfl) (by kernel_rfl) (fun _ _ _ h => h) (by rfl) ?y2 hHeld ?r2
    case y2 =>
      intro w hSw
      go_simp
      try (with_reducible rfl)
    case r2 =>
    try simp only [Act.put, List.setIfInBounds_toArray, List.set_cons_zero, List.set_cons_succ]
    refine takeNo (i := 3) (some 88) rfl rfl (by kernel_rfl) (by kernel_rfl) (by kernel_rfl) (fun _ _ _ h => h) (by rfl) hHeld ?_
    try simp only [Act.put, List.setIfInBounds_toArray, List.set_cons_zero, List.set_cons_succ]
    refine takeNo (i := 4) (some 89) rfl rfl (by kernel_rfl) (by kernel_rfl) (by kernel_rfl) (fun _ _ _ h => h) (by rfl) hHeld ?_
    try simp only [Act.put, List.setIfInBounds_toArray, List.set_cons_zero, List.set_cons_succ]
    refine takeNo (i := 5) (some 90) rfl rfl (by kernel_rfl) (by kernel_rfl) (by kernel_rfl) (fun _ _ _ h => h) (by rfl) hHeld ?_
    try simp only [Act.put, List.setIfInBounds_toArray, List.set_cons_zero, List.set_cons_succ]
    refine takeNo (i := 6) (some 91) rfl rfl (by kernel_rfl) (by kernel_rfl) (by kernel_rfl) (fun _ _ _ h => h) (by rfl) hHeld ?_
    try simp only [Act.put, List.setIfInBounds_toArray, List.set_cons_zero, List.set_cons_succ]
    refine takeYes (i := 7) (v := ?v7) (some 92) rfl rfl (by kernel_rfl) (by kernel_rfl) (by kernel_rfl) (fun _ _ _ h => h) (by rfl) ?y7 hHeld ?r7
    case y7 =>
      intro w hSw
      go_simp
      try (with_reducible rfl)
    case r7 =>
    try simp only [Act.put, List.setIfInBounds_toArray, List.set_cons_zero, List.set_cons_succ]
    refine takeYes (i := 8) (v := ?v8) (some 93) rfl rfl (by kernel_rfl) (by kernel_rfl) (by kernel_rfl) (fun _ _ _ h => h) (by rfl) ?y8 hHeld ?r8
    case y8 =>
      intro w hSw
      go_simp
      try (with_reducible rfl)
    case r8 =>
    try simp only [Act.put, List.setIfInBounds_toArray, List.set_cons_zero, List.set_cons_succ]
    refine wpAnyH_ready (rs := [9]) (by kernel_rfl) (by simp) ?_
    refine AllReadyH.cons rfl (fun K hK => ?_) AllReadyH.nil
    go_simp
    go_at_call 10
    refine (heads_any _).mono ?_
    rintro e w10 ⟨rfl, hb⟩
    have H' := Lib.hid (HN.out.drew.next hb)
    clear hb HN F
    have HN := H'
    clear H'
    try dsimp only
    refine hK.out _ _ trivial (fun hHeld2 => ?_)
    clear hK K
    try simp only [Act.put, List.setIfInBounds_toArray, List.set_cons_zero, List.set_cons_succ]
    refine takeYes (i := 10) (v := ?v10) (some 95) rfl rfl (by kernel_rfl) (by kernel_rfl) (by kernel_rfl) (fun _ _ _ h => h) (by rfl) ?y10 hHeld2 ?r10
    case y10 =>
      intro w hSw
      go_simp
      try (with_reducible rfl)
    case r10 =>
    try simp only [Act.put, List.setIfInBounds_toArray, List.set_cons_zero, List.set_cons_succ]
    refine takeYes (i := 11) (v := ?v11) (some 8) rfl rfl (by kernel_rfl) (by kernel_rfl) (by kernel_rfl) (fun _ _ _ h => h) (by rfl) ?y11 hHeld2 ?r11
    case y11 =>
      intro w hSw
      go_simp
      try (with_reducible rfl)
    case r11 =>
    try simp only [Act.put, List.setIfInBounds_toArray, List.set_cons_zero, List.set_cons_succ]
    refine wpAnyH_done (by kernel_rfl) ?_ _
    all_goals
      go_wp2
      go_ret
      exact ⟨rfl, HN.out.low⟩
set_option maxRecDepth 100000 in
set_option maxHeartbeats 4000000 in
theorem small_t (A : AbA) (s : Ab) (k : Kn) (low n : Int) (T : Ab) (y : Kn) (q : Nat) (m : Bd) (w : World) (hA : AbAt w A s) (hk : right k = true) (H : Sm s T k y true low n q m) (h0 : 0 ≤ low) (h1 : 1 ≤ n) (h4 : n ≤ 4) (h3 : ¬ n = 3) (hl : low ≤ 512 - n) (hy : y = ⟨1, bany, 0⟩) : Calls Try.prog 3 #[.agg #[.slice A.p1 s.regs.length A.c1, .slice A.p2 s.set.length A.c2, .slice A.p3 s.saved.length A.c3], .agg #[.int .i64 k.kind, .int .u64 (U k.num.ul), .int .u64 (U k.num.uh), .int .i64 (S k.num.sl), .int .i64 (S k.num.sh), .int .u64 (U k.num.t.v), .int .u64 (U k.num.t.m), .int .i64 k.reg], .int .i64 low, .int .i64 n] w fun e w' => e = .returned (.bool true) ∧ Below w.heap.size w w' := by
  obtain ⟨n1, n2, n3⟩ := lens H.cs
  obtain ⟨k1, k2, k3⟩ := lens H.ct
  have hdv := H.dv
  have h3b : (n == 3) = false := by simpa using h3
  have hq := H.hq
  have hst := fun (W : World) (h : AbAt W A s) => sstore_any A s low low n k (by simp [Lit.wf, IntKind.min, IntKind.max, IntKind.signed, IntKind.bits]; omega) (by simp [Lit.wf, IntKind.min, IntKind.max, IntKind.signed, IntKind.bits]; omega) (by simp [Lit.wf, IntKind.min, IntKind.max, IntKind.signed, IntKind.bits]; omega) W h
  rw [H.st, k1, k2, k3, n1, n2, n3] at hst
  have HST := Lib.hid hst
  have hl1 := fun (D : AbA) (W : World) (h : AbAt W D T) => sload_any D T low low n (by simp [Lit.wf, IntKind.min, IntKind.max, IntKind.signed, IntKind.bits]; omega) (by simp [Lit.wf, IntKind.min, IntKind.max, IntKind.signed, IntKind.bits]; omega) (by simp [Lit.wf, IntKind.min, IntKind.max, IntKind.signed, IntKind.bits]; omega) W h
  have hl2 := fun (D : AbA) (W : World) (h : AbAt W D T) => sload_any D T (8 * (q : Int)) (8 * (q : Int)) 8 (by simp [Lit.wf, IntKind.min, IntKind.max, IntKind.signed, IntKind.bits]; omega) (by simp [Lit.wf, IntKind.min, IntKind.max, IntKind.signed, IntKind.bits]; omega) (by decide) W h
  have hct := fun (D : AbA) (W : World) (h : AbAt W D T) => scheck_any D T W h
  rw [H.l1, k1, k2, k3] at hl1
  rw [H.l2, k1, k2, k3] at hl2
  rw [H.ct, k1, k2, k3] at hct
  dsimp only at hl1
  have HZ := Lib.hid (fun W => rbsize_any n W)
  rw [show bsize n = m from H.sz] at HZ
  have HAN := Lib.hid (fun W => rbany_any W)
  subst hy
  dsimp only at hl2
  generalize bany = ca at *
  have e2 := eqK ⟨1, ca, 0⟩ ⟨1, ca, 0⟩
  rw [decide_eq_true (rfl : (⟨1, ca, 0⟩ : Kn) = ⟨1, ca, 0⟩)] at e2
  dsimp only at e2
  have HL1 := Lib.hid hl1
  have HL2 := Lib.hid hl2
  have HCT := Lib.hid hct
  have e1 := neqK ⟨1, m, 0⟩
  dsimp only at e1
  have HN := Lib.hid (Hs.sk k hA 25 33)
  have HC0 := Lib.hid (fun W h => scheck_any A s W h)
  have HRT := Lib.hid (fun W => rright_any k W)
  rw [n1, n2, n3] at HN HC0
  rw [n1, n2, n3]
  rw [H.cs] at HC0
  rw [hk] at HRT
  have f1 := HN.out.weak.b0.three
  have f2 := HN.out.b0.eight
  clear hA
  clear H hk n1 n2 n3 k1 k2 k3 hst hl1 hl2 hct
  go_enter Try.func3, Try.ntmps3
  go_wp2_with (first
    | (go_at_call 12; (with_reducible refine (HL1.out _ _ HN.out.a0).mono ?_); rintro e w5 ⟨rfl, hb⟩; have H' := Lib.hid ((HN.out.next hb).new8 (.int .i64 1) (.int .u64 (U m.ul)) (.int .u64 (U m.uh)) (.int .i64 (S m.sl)) (.int .i64 (S m.sh)) (.int .u64 (U m.t.v)) (.int .u64 (U m.t.m)) (.int .i64 0) 33); clear hb HN f1 f2 f3; have HN := H'; clear H'; have F := HN.out.g)
    | (go_at_call 11; (with_reducible refine (HST.out _ HN.out.a0).mono ?_); rintro e w4 ⟨⟨q1, q2, q3, g1, g2, g3⟩, rfl, hD, hb⟩; have H' := Lib.hid (((HN.out.next hb).add hD).new3 (.slice q1 11 g1) (.slice q2 512 g2) (.slice q3 64 g3) 25); clear hb HN hD f1 f2; have HN := H'; clear H'; have f1 := HN.out.weak.weak.b0.three; have f2 := HN.out.weak.b0.eight; have f3 := HN.out.b0.three)
    | (go_at_call 9; (with_reducible refine (HRT.out _).mono ?_); rintro e w2 ⟨rfl, hb⟩; have H' := Lib.hid (HN.out.next hb); clear hb HN f1 f2; have HN := H'; clear H'; have f1 := HN.out.weak.b0.three; have f2 := HN.out.b0.eight)
    | (go_at_call 8; (with_reducible refine (HC0.out _ HN.out.a0).mono ?_); rintro e w1 ⟨rfl, hb⟩; have H' := Lib.hid (HN.out.next hb); clear hb HN f1 f2; have HN := H'; clear H'; have f1 := HN.out.weak.b0.three; have f2 := HN.out.b0.eight))
  go_region_held3 (fun W => ((W.cell? ⟨w4.heap.size, 0, none⟩ = some (.slice q1 11 g1) ∧ W.cell? ⟨w4.heap.size, 1, none⟩ = some (.slice q2 512 g2) ∧ W.cell? ⟨w4.heap.size, 2, none⟩ = some (.slice q3 64 g3)) ∧ w4.heap.size < W.heap.size) ∧ (W.cell? ⟨w5.heap.size, 0, none⟩ = some (.int .i64 1) ∧ W.cell? ⟨w5.heap.size, 1, none⟩ = some (.int .u64 (U m.ul)) ∧ W.cell? ⟨w5.heap.size, 2, none⟩ = some (.int .u64 (U m.uh)) ∧ W.cell? ⟨w5.heap.size, 3, none⟩ = some (.int .i64 (S m.sl)) ∧ W.cell? ⟨w5.heap.size, 4, none⟩ = some (.int .i64 (S m.sh)) ∧ W.cell? ⟨w5.heap.size, 5, none⟩ = some (.int .u64 (U m.t.v)) ∧ W.cell? ⟨w5.heap.size, 6, none⟩ = some (.int .u64 (U m.t.m)) ∧ W.cell? ⟨w5.heap.size, 7, none⟩ = some (.int .i64 0)) ∧ w5.heap.size < W.heap.size)
    (first | with_reducible exact F | with_reducible exact HN.out.drew.g)
    (first
    | (go_at_call 8; (first | (with_reducible refine (HCT.out _ _ HN.out.a0).mono ?_) | (with_reducible refine (HCT.out _ _ HN.out.drew.a0).mono ?_)); rintro e w8 ⟨rfl, hb⟩; (first | have H' := Lib.hid (HN.out.next hb) | have H' := Lib.hid (HN.out.drew.next hb)); clear hb HN F; have HN := H'; clear H'; have F := HN.out.g)
    | (go_at_call 13; (with_reducible refine (HZ.out _).mono ?_); rintro e w9 ⟨rfl, hb⟩; (first | have H' := Lib.hid (HN.out.next hb) | have H' := Lib.hid (HN.out.drew.next hb)); clear hb HN F; have HN := H'; clear H'; have F := HN.out.g))
  all_goals
    go_wp2_with (go_at_call 12; (with_reducible refine (HL2.out _ _ HN.out.a0).mono ?_); rintro e w7 ⟨rfl, hb⟩; have H' := Lib.hid ((HN.out.next hb).new8 (.int .i64 1) (.int .u64 (U ca.ul)) (.int .u64 (U ca.uh)) (.int .i64 (S ca.sl)) (.int .i64 (S ca.sh)) (.int .u64 (U ca.t.v)) (.int .u64 (U ca.t.m)) (.int .i64 0) 33); clear hb HN F; have HN := H'; clear H'; have F := HN.out.g1)
    go_region_held3 (fun W => (W.cell? ⟨w7.heap.size, 0, none⟩ = some (.int .i64 1) ∧ W.cell? ⟨w7.heap.size, 1, none⟩ = some (.int .u64 (U ca.ul)) ∧ W.cell? ⟨w7.heap.size, 2, none⟩ = some (.int .u64 (U ca.uh)) ∧ W.cell? ⟨w7.heap.size, 3, none⟩ = some (.int .i64 (S ca.sl)) ∧ W.cell? ⟨w7.heap.size, 4, none⟩ = some (.int .i64 (S ca.sh)) ∧ W.cell? ⟨w7.heap.size, 5, none⟩ = some (.int .u64 (U ca.t.v)) ∧ W.cell? ⟨w7.heap.size, 6, none⟩ = some (.int .u64 (U ca.t.m)) ∧ W.cell? ⟨w7.heap.size, 7, none⟩ = some (.int .i64 0)) ∧ w7.heap.size < W.heap.size)
      (first | with_reducible exact F | with_reducible exact HN.out.drew.g1)
      (first
      | (go_at_call 10; (with_reducible refine (heads_any _).mono ?_); rintro e w10 ⟨rfl, hb⟩; (first | have H' := Lib.hid (HN.out.next hb) | have H' := Lib.hid (HN.out.drew.next hb)); clear hb HN F; have HN := H'; clear H'; have F := HN.out.g1)
      | (go_at_call 14; (with_reducible refine (HAN.out _).mono ?_); rintro e w11 ⟨rfl, hb⟩; (first | have H' := Lib.hid (HN.out.next hb) | have H' := Lib.hid (HN.out.drew.next hb)); clear hb HN F; have HN := H'; clear H'; have F := HN.out.g1))
    all_goals
      go_wp2
      go_ret
      exact ⟨rfl, HN.out.low⟩
theorem small_law (A : AbA) (s : Ab) (k : Kn) (low n : Int) (w : World) (hA : AbAt w A s) : Calls Try.prog 3 #[.agg #[.slice A.p1 s.regs.length A.c1, .slice A.p2 s.set.length A.c2, .slice A.p3 s.saved.length A.c3], .agg #[.int .i64 k.kind, .int .u64 (U k.num.ul), .int .u64 (U k.num.uh), .int .i64 (S k.num.sl), .int .i64 (S k.num.sh), .int .u64 (U k.num.t.v), .int .u64 (U k.num.t.m), .int .i64 k.reg], .int .i64 low, .int .i64 n] w fun e w' => e = .returned (.bool true) ∧ Below w.heap.size w w' := by
  cases hc : checkS s with
  | false => exact small_c A s k low n w hA hc
  | true => cases hk : right k with
    | false => exact small_k A s k low n w hA hc hk
    | true =>
      by_cases hx : low < 0 ∨ n < 1 ∨ 4 < n ∨ n = 3 ∨ 512 - n < low
      · exact small_o A s k low n w hA hc hk hx
      · obtain ⟨T, y, g, q, m, H⟩ := sm_ex (low := low) (n := n) hc hk (by omega) (by omega) (by omega) (by omega)
        cases g with
        | false => exact small_f A s k low n T y q m w hA hk H (by omega) (by omega) (by omega) (by omega) (by omega)
        | true => exact small_t A s k low n T y q m w hA hk H (by omega) (by omega) (by omega) (by omega) (by omega) (H.fin.resolve_left (by simp))
end Go.Proofs.Ytdipmlamjjpcoaa
