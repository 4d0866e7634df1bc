/- States: the law that what is stored whole is loaded. -/
import Derived.Test.YtdipmlamjjpcoaaTD
namespace Go.Proofs.Ytdipmlamjjpcoaa
open Go.RowKit
attribute [local go_sem] b_and b_or b_xor b_andNot b_low b_top b_most b_signed b_unsigned b_zero b_eq s_eq b_nzero b_neq s_neq b_max b_min s_max s_min
attribute [local go_sem ↓] Go.wp_at_zero Go.wp_at_succ

theorem below_set8 {B : Nat} {a W : World} {n : Nat} {u0 u1 u2 u3 u4 u5 u6 u7 : Value} (h : Below B a W) (hn : B ≤ n) : Below B a ((((((((W.setCell ⟨n, 0, none⟩ u0).setCell ⟨n, 1, none⟩ u1).setCell ⟨n, 2, none⟩ u2).setCell ⟨n, 3, none⟩ u3).setCell ⟨n, 4, none⟩ u4).setCell ⟨n, 5, none⟩ u5).setCell ⟨n, 6, none⟩ u6).setCell ⟨n, 7, none⟩ u7) :=
  (((((((h.setCell (p := ⟨n, 0, none⟩) hn _).setCell (p := ⟨n, 1, none⟩) hn _).setCell (p := ⟨n, 2, none⟩) hn _).setCell (p := ⟨n, 3, none⟩) hn _).setCell (p := ⟨n, 4, none⟩) hn _).setCell (p := ⟨n, 5, none⟩) hn _).setCell (p := ⟨n, 6, none⟩) hn _).setCell (p := ⟨n, 7, none⟩) hn _
theorem Box.set8 {W : World} {n : Nat} {v0 v1 v2 v3 v4 v5 v6 v7 u0 u1 u2 u3 u4 u5 u6 u7 : Value} (h : Box W n [v0, v1, v2, v3, v4, v5, v6, v7]) : Box ((((((((W.setCell ⟨n, 0, none⟩ u0).setCell ⟨n, 1, none⟩ u1).setCell ⟨n, 2, none⟩ u2).setCell ⟨n, 3, none⟩ u3).setCell ⟨n, 4, none⟩ u4).setCell ⟨n, 5, none⟩ u5).setCell ⟨n, 6, none⟩ u6).setCell ⟨n, 7, none⟩ u7) n [u0, u1, u2, u3, u4, u5, u6, u7] :=
  (((((((h.set (i := 0) (by simp) u0).set (i := 1) (by simp) u1).set (i := 2) (by simp) u2).set (i := 3) (by simp) u3).set (i := 4) (by simp) u4).set (i := 5) (by simp) u5).set (i := 6) (by simp) u6).set (i := 7) (by simp) u7
/-- a box of its own written anew, all else as it was -/
theorem Hs.over {w W0 w5 w6 : World} {n : Nat} (hn : W0.heap.size = n) {l : List (Nat × List Value)} {m : List (AbA × Ab)} {v0 v1 v2 v3 v4 v5 v6 v7 u0 u1 u2 u3 u4 u5 u6 u7 : Value} {t : TypeId} (h : Hs w W0 l m) (h1 : Below (W0.alloc (.cells #[v0, v1, v2, v3, v4, v5, v6, v7] t)).heap.size (W0.alloc (.cells #[v0, v1, v2, v3, v4, v5, v6, v7] t)) w5)
    (h2 : Below ((((((((w5.setCell ⟨n, 0, none⟩ u0).setCell ⟨n, 1, none⟩ u1).setCell ⟨n, 2, none⟩ u2).setCell ⟨n, 3, none⟩ u3).setCell ⟨n, 4, none⟩ u4).setCell ⟨n, 5, none⟩ u5).setCell ⟨n, 6, none⟩ u6).setCell ⟨n, 7, none⟩ u7).heap.size ((((((((w5.setCell ⟨n, 0, none⟩ u0).setCell ⟨n, 1, none⟩ u1).setCell ⟨n, 2, none⟩ u2).setCell ⟨n, 3, none⟩ u3).setCell ⟨n, 4, none⟩ u4).setCell ⟨n, 5, none⟩ u5).setCell ⟨n, 6, none⟩ u6).setCell ⟨n, 7, none⟩ u7) w6) : Hs w w6 ((n, [u0, u1, u2, u3, u4, u5, u6, u7]) :: l) m := by
  subst hn
  have hb : Below W0.heap.size W0 w6 := bnext (below_set8 (bl1 h1).1 (Nat.le_refl _)) h2
  have hx : Box w6 W0.heap.size [u0, u1, u2, u3, u4, u5, u6, u7] := (Box.set8 ((Box.new W0 [v0, v1, v2, v3, v4, v5, v6, v7] t rfl).next h1)).next h2
  have h' := h.next hb
  exact ⟨h'.low, fun p hp => by
    rcases List.mem_cons.1 hp with rfl | hp
    · exact hx
    · exact h'.box p hp, h'.ab⟩
theorem Hs.new8n {w W : World} {l : List (Nat × List Value)} {m : List (AbA × Ab)} (h : Hs w W l m) (v0 v1 v2 v3 v4 v5 v6 v7 : Value) (t : TypeId) {n : Nat} (hn : W.heap.size = n) : Hs w (W.alloc (.cells #[v0, v1, v2, v3, v4, v5, v6, v7] t)) ((n, [v0, v1, v2, v3, v4, v5, v6, v7]) :: l) m := hn ▸ h.new8 v0 v1 v2 v3 v4 v5 v6 v7 t
theorem Hs.sk {w : World} {A : AbA} {s : Ab} (k : Kn) (hA : AbAt w A s) (t t' : TypeId) :
    Hs w ((w.alloc (.cells #[.slice A.p1 s.regs.length A.c1, .slice A.p2 s.set.length A.c2, .slice A.p3 s.saved.length A.c3] t)).alloc (.cells #[.int .i64 k.kind, .int .u64 (U k.num.ul), .int .u64 (U k.num.uh), .int .i64 (S k.num.sl), .int .i64 (S k.num.sh), .int .u64 (U k.num.t.v), .int .u64 (U k.num.t.m), .int .i64 k.reg] t'))
      [(w.heap.size + 1, [.int .i64 k.kind, .int .u64 (U k.num.ul), .int .u64 (U k.num.uh), .int .i64 (S k.num.sl), .int .i64 (S k.num.sh), .int .u64 (U k.num.t.v), .int .u64 (U k.num.t.m), .int .i64 k.reg]), (w.heap.size, [.slice A.p1 s.regs.length A.c1, .slice A.p2 s.set.length A.c2, .slice A.p3 s.saved.length A.c3])] [(A, s)] := by
  have h := ((((Hs.start w).add hA).new3 (.slice A.p1 s.regs.length A.c1) (.slice A.p2 s.set.length A.c2) (.slice A.p3 s.saved.length A.c3) t).new8 (.int .i64 k.kind) (.int .u64 (U k.num.ul)) (.int .u64 (U k.num.uh)) (.int .i64 (S k.num.sl)) (.int .i64 (S k.num.sh)) (.int .u64 (U k.num.t.v)) (.int .u64 (U k.num.t.m)) (.int .i64 k.reg) t')
  rw [World.size_alloc] at h
  exact h
set_option maxRecDepth 100000 in
set_option maxHeartbeats 4000000 in
theorem back_c (A : AbA) (s : Ab) (k : Kn) (i j : Int) (w : World) (hA : AbAt w A s) (hc : checkS s = false) : Calls Try.prog 5 #[.agg #[.slice A.p1 s.regs.length A.c1, .slice A.p2 s.set.length A.c2, .slice A.p3 s.saved.length A.c3], .agg #[.int .i64 k.kind, .int .u64 (U k.num.ul), .int .u64 (U k.num.uh), .int .i64 (S k.num.sl), .int .i64 (S k.num.sh), .int .u64 (U k.num.t.v), .int .u64 (U k.num.t.m), .int .i64 k.reg], .int .i64 i, .int .i64 j] w fun e w' => e = .returned (.bool true) ∧ Below w.heap.size w w' := by
  have HN := Lib.hid (Hs.sk k hA 25 33)
  have HC0 := Lib.hid (fun W h => scheck_any A s W h)
  have HRT := Lib.hid (fun W => rright_any k W)
  have f1 := HN.out.weak.b0.three
  have f2 := HN.out.b0.eight
  clear hA
  rw [hc] at HC0
  clear hc
  go_enter Try.func5, Try.ntmps5
  go_wp2_with (first
    | (go_at_call 8; (with_reducible refine (HC0.out _ HN.out.a0).mono ?_); rintro e w1 ⟨rfl, hb⟩; have H' := Lib.hid (HN.out.next hb); clear hb HN f1 f2; have HN := H'; clear H'; have f1 := HN.out.weak.b0.three; have f2 := HN.out.b0.eight)
    | (go_at_call 10; (with_reducible refine (heads_any _).mono ?_); rintro e w3 ⟨rfl, hb⟩; have H' := Lib.hid (HN.out.next hb); clear hb HN f1 f2; have HN := H'; clear H'; have f1 := HN.out.weak.b0.three; have f2 := HN.out.b0.eight))
  go_ret
  exact ⟨rfl, HN.out.low⟩
set_option maxRecDepth 100000 in
set_option maxHeartbeats 4000000 in
theorem back_k (A : AbA) (s : Ab) (k : Kn) (i j : Int) (w : World) (hA : AbAt w A s) (hc : checkS s = true) (hk : right k = false) : Calls Try.prog 5 #[.agg #[.slice A.p1 s.regs.length A.c1, .slice A.p2 s.set.length A.c2, .slice A.p3 s.saved.length A.c3], .agg #[.int .i64 k.kind, .int .u64 (U k.num.ul), .int .u64 (U k.num.uh), .int .i64 (S k.num.sl), .int .i64 (S k.num.sh), .int .u64 (U k.num.t.v), .int .u64 (U k.num.t.m), .int .i64 k.reg], .int .i64 i, .int .i64 j] w fun e w' => e = .returned (.bool true) ∧ Below w.heap.size w w' := by
  have HN := Lib.hid (Hs.sk k hA 25 33)
  have HC0 := Lib.hid (fun W h => scheck_any A s W h)
  have HRT := Lib.hid (fun W => rright_any k W)
  have f1 := HN.out.weak.b0.three
  have f2 := HN.out.b0.eight
  clear hA
  rw [hc] at HC0
  rw [hk] at HRT
  clear hc hk
  go_enter Try.func5, Try.ntmps5
  go_wp2_with (first
    | (go_at_call 9; (with_reducible refine (HRT.out _).mono ?_); rintro e w2 ⟨rfl, hb⟩; have H' := Lib.hid (HN.out.next hb); clear hb HN f1 f2; have HN := H'; clear H'; have f1 := HN.out.weak.b0.three; have f2 := HN.out.b0.eight)
    | (go_at_call 8; (with_reducible refine (HC0.out _ HN.out.a0).mono ?_); rintro e w1 ⟨rfl, hb⟩; have H' := Lib.hid (HN.out.next hb); clear hb HN f1 f2; have HN := H'; clear H'; have f1 := HN.out.weak.b0.three; have f2 := HN.out.b0.eight)
    | (go_at_call 10; (with_reducible refine (heads_any _).mono ?_); rintro e w3 ⟨rfl, hb⟩; have H' := Lib.hid (HN.out.next hb); clear hb HN f1 f2; have HN := H'; clear H'; have f1 := HN.out.weak.b0.three; have f2 := HN.out.b0.eight))
  go_ret
  exact ⟨rfl, HN.out.low⟩
set_option maxRecDepth 100000 in
set_option maxHeartbeats 4000000 in
theorem back_o (A : AbA) (s : Ab) (k : Kn) (i j : Int) (w : World) (hA : AbAt w A s) (hc : checkS s = true) (hk : right k = true) (hx : i < 0 ∨ 63 < i ∨ j < 0 ∨ 63 < j ∨ j = i) : Calls Try.prog 5 #[.agg #[.slice A.p1 s.regs.length A.c1, .slice A.p2 s.set.length A.c2, .slice A.p3 s.saved.length A.c3], .agg #[.int .i64 k.kind, .int .u64 (U k.num.ul), .int .u64 (U k.num.uh), .int .i64 (S k.num.sl), .int .i64 (S k.num.sh), .int .u64 (U k.num.t.v), .int .u64 (U k.num.t.m), .int .i64 k.reg], .int .i64 i, .int .i64 j] w fun e w' => e = .returned (.bool true) ∧ Below w.heap.size w w' := by
  have HN := Lib.hid (Hs.sk k hA 25 33)
  have HC0 := Lib.hid (fun W h => scheck_any A s W h)
  have HRT := Lib.hid (fun W => rright_any k W)
  have f1 := HN.out.weak.b0.three
  have f2 := HN.out.b0.eight
  clear hA
  rw [hc] at HC0
  rw [hk] at HRT
  clear hc hk
  by_cases x1 : i < 0
  · clear hx
    go_enter Try.func5, Try.ntmps5
    go_wp2_with (first
      | (go_at_call 9; (with_reducible refine (HRT.out _).mono ?_); rintro e w2 ⟨rfl, hb⟩; have H' := Lib.hid (HN.out.next hb); clear hb HN f1 f2; have HN := H'; clear H'; have f1 := HN.out.weak.b0.three; have f2 := HN.out.b0.eight)
      | (go_at_call 8; (with_reducible refine (HC0.out _ HN.out.a0).mono ?_); rintro e w1 ⟨rfl, hb⟩; have H' := Lib.hid (HN.out.next hb); clear hb HN f1 f2; have HN := H'; clear H'; have f1 := HN.out.weak.b0.three; have f2 := HN.out.b0.eight)
      | (go_at_call 10; (with_reducible refine (heads_any _).mono ?_); rintro e w3 ⟨rfl, hb⟩; have H' := Lib.hid (HN.out.next hb); clear hb HN f1 f2; have HN := H'; clear H'; have f1 := HN.out.weak.b0.three; have f2 := HN.out.b0.eight))
    go_ret
    exact ⟨rfl, HN.out.low⟩
  by_cases x2 : 63 < i
  · clear hx
    go_enter Try.func5, Try.ntmps5
    go_wp2_with (first
      | (go_at_call 9; (with_reducible refine (HRT.out _).mono ?_); rintro e w2 ⟨rfl, hb⟩; have H' := Lib.hid (HN.out.next hb); clear hb HN f1 f2; have HN := H'; clear H'; have f1 := HN.out.weak.b0.three; have f2 := HN.out.b0.eight)
      | (go_at_call 8; (with_reducible refine (HC0.out _ HN.out.a0).mono ?_); rintro e w1 ⟨rfl, hb⟩; have H' := Lib.hid (HN.out.next hb); clear hb HN f1 f2; have HN := H'; clear H'; have f1 := HN.out.weak.b0.three; have f2 := HN.out.b0.eight)
      | (go_at_call 10; (with_reducible refine (heads_any _).mono ?_); rintro e w3 ⟨rfl, hb⟩; have H' := Lib.hid (HN.out.next hb); clear hb HN f1 f2; have HN := H'; clear H'; have f1 := HN.out.weak.b0.three; have f2 := HN.out.b0.eight))
    go_ret
    exact ⟨rfl, HN.out.low⟩
  by_cases x3 : j < 0
  · clear hx
    go_enter Try.func5, Try.ntmps5
    go_wp2_with (first
      | (go_at_call 9; (with_reducible refine (HRT.out _).mono ?_); rintro e w2 ⟨rfl, hb⟩; have H' := Lib.hid (HN.out.next hb); clear hb HN f1 f2; have HN := H'; clear H'; have f1 := HN.out.weak.b0.three; have f2 := HN.out.b0.eight)
      | (go_at_call 8; (with_reducible refine (HC0.out _ HN.out.a0).mono ?_); rintro e w1 ⟨rfl, hb⟩; have H' := Lib.hid (HN.out.next hb); clear hb HN f1 f2; have HN := H'; clear H'; have f1 := HN.out.weak.b0.three; have f2 := HN.out.b0.eight)
      | (go_at_call 10; (with_reducible refine (heads_any _).mono ?_); rintro e w3 ⟨rfl, hb⟩; have H' := Lib.hid (HN.out.next hb); clear hb HN f1 f2; have HN := H'; clear H'; have f1 := HN.out.weak.b0.three; have f2 := HN.out.b0.eight))
    go_ret
    exact ⟨rfl, HN.out.low⟩
  by_cases x4 : 63 < j
  · clear hx
    go_enter Try.func5, Try.ntmps5
    go_wp2_with (first
      | (go_at_call 9; (with_reducible refine (HRT.out _).mono ?_); rintro e w2 ⟨rfl, hb⟩; have H' := Lib.hid (HN.out.next hb); clear hb HN f1 f2; have HN := H'; clear H'; have f1 := HN.out.weak.b0.three; have f2 := HN.out.b0.eight)
      | (go_at_call 8; (with_reducible refine (HC0.out _ HN.out.a0).mono ?_); rintro e w1 ⟨rfl, hb⟩; have H' := Lib.hid (HN.out.next hb); clear hb HN f1 f2; have HN := H'; clear H'; have f1 := HN.out.weak.b0.three; have f2 := HN.out.b0.eight)
      | (go_at_call 10; (with_reducible refine (heads_any _).mono ?_); rintro e w3 ⟨rfl, hb⟩; have H' := Lib.hid (HN.out.next hb); clear hb HN f1 f2; have HN := H'; clear H'; have f1 := HN.out.weak.b0.three; have f2 := HN.out.b0.eight))
    go_ret
    exact ⟨rfl, HN.out.low⟩
  obtain rfl : j = i := by omega
  clear hx
  go_enter Try.func5, Try.ntmps5
  go_wp2_with (first
    | (go_at_call 9; (with_reducible refine (HRT.out _).mono ?_); rintro e w2 ⟨rfl, hb⟩; have H' := Lib.hid (HN.out.next hb); clear hb HN f1 f2; have HN := H'; clear H'; have f1 := HN.out.weak.b0.three; have f2 := HN.out.b0.eight)
    | (go_at_call 8; (with_reducible refine (HC0.out _ HN.out.a0).mono ?_); rintro e w1 ⟨rfl, hb⟩; have H' := Lib.hid (HN.out.next hb); clear hb HN f1 f2; have HN := H'; clear H'; have f1 := HN.out.weak.b0.three; have f2 := HN.out.b0.eight)
    | (go_at_call 10; (with_reducible refine (heads_any _).mono ?_); rintro e w3 ⟨rfl, hb⟩; have H' := Lib.hid (HN.out.next hb); clear hb HN f1 f2; have HN := H'; clear H'; have f1 := HN.out.weak.b0.three; have f2 := HN.out.b0.eight))
  go_ret
  exact ⟨rfl, HN.out.low⟩
/-- what the law's main part asks of the states -/
structure Bk (s T : Ab) (k y : Kn) (g : Bool) (m o : Nat) : Prop where
  cs : checkS s = true
  ct : checkS T = true
  st : storeS s (8 * (m : Int)) (8 * (m : Int)) 8 k = T
  l1 : loadS T (8 * (m : Int)) (8 * (m : Int)) 8 = (if k.kind = 0 then ⟨1, bany, 0⟩ else k, true)
  l2 : loadS T (8 * (o : Int)) (8 * (o : Int)) 8 = (y, g)
  l3 : loadS s (8 * (o : Int)) (8 * (o : Int)) 8 = (y, g)
theorem bk_ex {s : Ab} {k : Kn} {m o : Nat} (hs : checkS s = true) (hk : right k = true) (hm : m < 64) (ho : o < 64) (hne : o ≠ m) : ∃ T y g, Bk s T k y g m o := by
  have em : (8 * (m : Int)) = ((8 * m : Nat) : Int) := by omega
  have eo : (8 * (o : Int)) = ((8 * o : Nat) : Int) := by omega
  refine ⟨storeS s (8 * (m : Int)) (8 * (m : Int)) 8 k, (loadS s (8 * (o : Int)) (8 * (o : Int)) 8).1, (loadS s (8 * (o : Int)) (8 * (o : Int)) 8).2, hs, ?_, rfl, ?_, ?_, rfl⟩
  · rw [em]; exact store_check (n := 8) hs hk (by omega) (by omega)
  · rw [em]; exact back_self hs hk hm
  · rw [em, eo]; exact back_other hs hk hm ho hne
set_option maxRecDepth 100000 in
set_option maxHeartbeats 4000000 in
theorem back_1 (A : AbA) (s : Ab) (k : Kn) (T : Ab) (y : Kn) (g : Bool) (m o : Nat) (w : World) (hA : AbAt w A s) (hk : right k = true) (H : Bk s T k y g m o) (hm : m < 64) (ho : o < 64) (hne : ¬ (o : Int) = (m : Int)) (h0 : ¬ k.kind = 0) : Calls Try.prog 5 #[.agg #[.slice A.p1 s.regs.length A.c1, .slice A.p2 s.set.length A.c2, .slice A.p3 s.saved.length A.c3], .agg #[.int .i64 k.kind, .int .u64 (U k.num.ul), .int .u64 (U k.num.uh), .int .i64 (S k.num.sl), .int .i64 (S k.num.sh), .int .u64 (U k.num.t.v), .int .u64 (U k.num.t.m), .int .i64 k.reg], .int .i64 (m : Int), .int .i64 (o : Int)] w fun e w' => e = .returned (.bool true) ∧ Below w.heap.size w w' := by
  obtain ⟨n1, n2, n3⟩ := lens H.cs
  obtain ⟨k1, k2, k3⟩ := lens H.ct
  have hst := fun (W : World) (h : AbAt W A s) => sstore_any A s (8 * (m : Int)) (8 * (m : Int)) 8 k (by simp [Lit.wf, IntKind.min, IntKind.max, IntKind.signed, IntKind.bits]; omega) (by simp [Lit.wf, IntKind.min, IntKind.max, IntKind.signed, IntKind.bits]; omega) (by decide) W h
  rw [H.st, k1, k2, k3, n1, n2, n3] at hst
  have HST := Lib.hid hst
  have hl1 := fun (D : AbA) (W : World) (h : AbAt W D T) => sload_any D T (8 * (m : Int)) (8 * (m : Int)) 8 (by simp [Lit.wf, IntKind.min, IntKind.max, IntKind.signed, IntKind.bits]; omega) (by simp [Lit.wf, IntKind.min, IntKind.max, IntKind.signed, IntKind.bits]; omega) (by decide) W h
  have hl2 := fun (D : AbA) (W : World) (h : AbAt W D T) => sload_any D T (8 * (o : Int)) (8 * (o : Int)) 8 (by simp [Lit.wf, IntKind.min, IntKind.max, IntKind.signed, IntKind.bits]; omega) (by simp [Lit.wf, IntKind.min, IntKind.max, IntKind.signed, IntKind.bits]; omega) (by decide) W h
  have hl3 := fun (W : World) (h : AbAt W A s) => sload_any A s (8 * (o : Int)) (8 * (o : Int)) 8 (by simp [Lit.wf, IntKind.min, IntKind.max, IntKind.signed, IntKind.bits]; omega) (by simp [Lit.wf, IntKind.min, IntKind.max, IntKind.signed, IntKind.bits]; omega) (by decide) W h
  have hct := fun (D : AbA) (W : World) (h : AbAt W D T) => scheck_any D T W h
  rw [H.l1, k1, k2, k3, if_neg h0] at hl1
  rw [H.l2, k1, k2, k3] at hl2
  rw [H.l3, n1, n2, n3] at hl3
  rw [H.ct, k1, k2, k3] at hct
  have HL1 := Lib.hid hl1
  have HL2 := Lib.hid hl2
  have HL3 := Lib.hid hl3
  have HCT := Lib.hid hct
  have e1 := eqK k k
  rw [decide_eq_true (rfl : k = k)] at e1
  have e2 := eqK y y
  rw [decide_eq_true (rfl : y = y)] at e2
  have e3 : (g == g) = true := by simp
  have hm0 : (m : Int) ≤ 63 := by omega
  have ho0 : (o : Int) ≤ 63 := by omega
  have hmo : ¬ o = m := by omega
  have hmb : ((o : Int) == (m : Int)) = false := by simp; omega
  have HN := Lib.hid (Hs.sk k hA 25 33)
  have HC0 := Lib.hid (fun W h => scheck_any A s W h)
  have HRT := Lib.hid (fun W => rright_any k W)
  rw [n1, n2, n3] at HN HC0
  rw [n1, n2, n3]
  rw [H.cs] at HC0
  rw [hk] at HRT
  have f1 := HN.out.weak.b0.three
  have f2 := HN.out.b0.eight
  clear hA
  clear H hk n1 n2 n3 k1 k2 k3 hst hl1 hl2 hl3 hct
  go_enter Try.func5, Try.ntmps5
  go_wp2_with (first
    | (go_at_call 10; (with_reducible refine (heads_any _).mono ?_); rintro e w10 ⟨rfl, hb⟩; have H' := Lib.hid (HN.out.next hb); clear hb HN f3 f4 f5 f6 f7; have HN := H'; clear H'; skip)
    | (go_at_call 8; (with_reducible refine (HCT.out _ _ (HN.out.new8 (.int .i64 k.kind) (.int .u64 (U k.num.ul)) (.int .u64 (U k.num.uh)) (.int .i64 (S k.num.sl)) (.int .i64 (S k.num.sh)) (.int .u64 (U k.num.t.v)) (.int .u64 (U k.num.t.m)) (.int .i64 k.reg) 33).a0).mono ?_); rintro e w8 ⟨rfl, hb⟩; have H' := Lib.hid ((HN.out.new8n (.int .i64 k.kind) (.int .u64 (U k.num.ul)) (.int .u64 (U k.num.uh)) (.int .i64 (S k.num.sl)) (.int .i64 (S k.num.sh)) (.int .u64 (U k.num.t.v)) (.int .u64 (U k.num.t.m)) (.int .i64 k.reg) 33 (World.size_alloc _ _)).next hb); clear hb HN f1 f2 f3 f4 f5 f6 f8 f9; have HN := H'; clear H'; have f3 := HN.out.weak.weak.weak.weak.b0.three; have f4 := HN.out.weak.weak.weak.b0.eight; have f5 := HN.out.weak.weak.b0.eight; have f6 := HN.out.weak.b0.eight; have f7 := HN.out.b0.eight)
    | (go_at_call 12; (with_reducible refine (HL3.out _ HN.out.a1).mono ?_); rintro e w7 ⟨rfl, hb⟩; have H' := Lib.hid ((HN.out.next hb).new8 (.int .i64 y.kind) (.int .u64 (U y.num.ul)) (.int .u64 (U y.num.uh)) (.int .i64 (S y.num.sl)) (.int .i64 (S y.num.sh)) (.int .u64 (U y.num.t.v)) (.int .u64 (U y.num.t.m)) (.int .i64 y.reg) 33); have z7 := (HN.out.next hb).weak.weak.b0.lt; clear hb HN f1 f2 f3 f4 f5; have HN := H'; clear H'; have f1 := HN.out.weak.weak.weak.weak.weak.b0.three; have f2 := HN.out.weak.weak.weak.weak.b0.eight; have f3 := HN.out.weak.weak.weak.b0.three; have f4 := HN.out.weak.weak.b0.eight; have f5 := HN.out.weak.b0.eight; have f6 := HN.out.b0.eight; have f8 := (HN.out.new8 (.int .i64 k.kind) (.int .u64 (U k.num.ul)) (.int .u64 (U k.num.uh)) (.int .i64 (S k.num.sl)) (.int .i64 (S k.num.sh)) (.int .u64 (U k.num.t.v)) (.int .u64 (U k.num.t.m)) (.int .i64 k.reg) 33).weak.weak.weak.weak.weak.b0.eight; have f9 := (HN.out.new8 (.int .i64 k.kind) (.int .u64 (U k.num.ul)) (.int .u64 (U k.num.uh)) (.int .i64 (S k.num.sl)) (.int .i64 (S k.num.sh)) (.int .u64 (U k.num.t.v)) (.int .u64 (U k.num.t.m)) (.int .i64 k.reg) 33).weak.weak.weak.weak.b0.three)
    | (go_at_call 12; (with_reducible refine (HL2.out _ _ HN.out.a0).mono ?_); rintro e w6 ⟨rfl, hb⟩; have H' := Lib.hid ((HN.out.next hb).new8 (.int .i64 y.kind) (.int .u64 (U y.num.ul)) (.int .u64 (U y.num.uh)) (.int .i64 (S y.num.sl)) (.int .i64 (S y.num.sh)) (.int .u64 (U y.num.t.v)) (.int .u64 (U y.num.t.m)) (.int .i64 y.reg) 33); clear hb HN f1 f2 f3 f4; have HN := H'; clear H'; have f1 := HN.out.weak.weak.weak.weak.b0.three; have f2 := HN.out.weak.weak.weak.b0.eight; have f3 := HN.out.weak.weak.b0.three; have f4 := HN.out.weak.b0.eight; have f5 := HN.out.b0.eight)
    | (go_at_call 12; (with_reducible refine (HL1.out _ _ HN.out.a0).mono ?_); rintro e w5 ⟨rfl, hb⟩; have H' := Lib.hid ((HN.out.next hb).new8 (.int .i64 k.kind) (.int .u64 (U k.num.ul)) (.int .u64 (U k.num.uh)) (.int .i64 (S k.num.sl)) (.int .i64 (S k.num.sh)) (.int .u64 (U k.num.t.v)) (.int .u64 (U k.num.t.m)) (.int .i64 k.reg) 33); clear hb HN f1 f2 f3; have HN := H'; clear H'; have f1 := HN.out.weak.weak.weak.b0.three; have f2 := HN.out.weak.weak.b0.eight; have f3 := HN.out.weak.b0.three; have f4 := HN.out.b0.eight)
    | (go_at_call 11; (with_reducible refine (HST.out _ HN.out.a0).mono ?_); rintro e w4 ⟨⟨q1, q2, q3, g1, g2, g3⟩, rfl, hD, hb⟩; have H' := Lib.hid (((HN.out.next hb).add hD).new3 (.slice q1 11 g1) (.slice q2 512 g2) (.slice q3 64 g3) 25); clear hb HN hD f1 f2; have HN := H'; clear H'; have f1 := HN.out.weak.weak.b0.three; have f2 := HN.out.weak.b0.eight; have f3 := HN.out.b0.three)
    | (go_at_call 9; (with_reducible refine (HRT.out _).mono ?_); rintro e w2 ⟨rfl, hb⟩; have H' := Lib.hid (HN.out.next hb); clear hb HN f1 f2; have HN := H'; clear H'; have f1 := HN.out.weak.b0.three; have f2 := HN.out.b0.eight)
    | (go_at_call 8; (with_reducible refine (HC0.out _ HN.out.a0).mono ?_); rintro e w1 ⟨rfl, hb⟩; have H' := Lib.hid (HN.out.next hb); clear hb HN f1 f2; have HN := H'; clear H'; have f1 := HN.out.weak.b0.three; have f2 := HN.out.b0.eight))
  go_ret
  exact ⟨rfl, HN.out.low⟩
set_option maxRecDepth 100000 in
set_option maxHeartbeats 4000000 in
theorem back_0 (A : AbA) (s : Ab) (k : Kn) (T : Ab) (y : Kn) (g : Bool) (m o : Nat) (w : World) (hA : AbAt w A s) (hk : right k = true) (H : Bk s T k y g m o) (hm : m < 64) (ho : o < 64) (hne : ¬ (o : Int) = (m : Int)) (h0 : k.kind = 0) : Calls Try.prog 5 #[.agg #[.slice A.p1 s.regs.length A.c1, .slice A.p2 s.set.length A.c2, .slice A.p3 s.saved.length A.c3], .agg #[.int .i64 k.kind, .int .u64 (U k.num.ul), .int .u64 (U k.num.uh), .int .i64 (S k.num.sl), .int .i64 (S k.num.sh), .int .u64 (U k.num.t.v), .int .u64 (U k.num.t.m), .int .i64 k.reg], .int .i64 (m : Int), .int .i64 (o : Int)] w fun e w' => e = .returned (.bool true) ∧ Below w.heap.size w w' := by
  obtain ⟨kd, km, kr⟩ := k
  dsimp only at h0
  subst h0
  have h0 : (⟨0, km, kr⟩ : Kn).kind = 0 := rfl
  obtain ⟨n1, n2, n3⟩ := lens H.cs
  obtain ⟨k1, k2, k3⟩ := lens H.ct
  have hst := fun (W : World) (h : AbAt W A s) => sstore_any A s (8 * (m : Int)) (8 * (m : Int)) 8 ⟨0, km, kr⟩ (by simp [Lit.wf, IntKind.min, IntKind.max, IntKind.signed, IntKind.bits]; omega) (by simp [Lit.wf, IntKind.min, IntKind.max, IntKind.signed, IntKind.bits]; omega) (by decide) W h
  rw [H.st, k1, k2, k3, n1, n2, n3] at hst
  have hl1 := fun (D : AbA) (W : World) (h : AbAt W D T) => sload_any D T (8 * (m : Int)) (8 * (m : Int)) 8 (by simp [Lit.wf, IntKind.min, IntKind.max, IntKind.signed, IntKind.bits]; omega) (by simp [Lit.wf, IntKind.min, IntKind.max, IntKind.signed, IntKind.bits]; omega) (by decide) W h
  have hl2 := fun (D : AbA) (W : World) (h : AbAt W D T) => sload_any D T (8 * (o : Int)) (8 * (o : Int)) 8 (by simp [Lit.wf, IntKind.min, IntKind.max, IntKind.signed, IntKind.bits]; omega) (by simp [Lit.wf, IntKind.min, IntKind.max, IntKind.signed, IntKind.bits]; omega) (by decide) W h
  have hl3 := fun (W : World) (h : AbAt W A s) => sload_any A s (8 * (o : Int)) (8 * (o : Int)) 8 (by simp [Lit.wf, IntKind.min, IntKind.max, IntKind.signed, IntKind.bits]; omega) (by simp [Lit.wf, IntKind.min, IntKind.max, IntKind.signed, IntKind.bits]; omega) (by decide) W h
  have hct := fun (D : AbA) (W : World) (h : AbAt W D T) => scheck_any D T W h
  rw [H.l1, k1, k2, k3, if_pos h0] at hl1
  rw [H.l2, k1, k2, k3] at hl2
  rw [H.l3, n1, n2, n3] at hl3
  rw [H.ct, k1, k2, k3] at hct
  have HAN := Lib.hid (fun W => rbany_any W)
  dsimp only at hl1
  generalize bany = ca at *
  have HL1 := Lib.hid hl1
  have HL2 := Lib.hid hl2
  have HL3 := Lib.hid hl3
  have HCT := Lib.hid hct
  have e1 := eqK ⟨1, ca, 0⟩ ⟨1, ca, 0⟩
  rw [decide_eq_true (rfl : (⟨1, ca, 0⟩ : Kn) = ⟨1, ca, 0⟩)] at e1
  dsimp only at e1
  have e2 := eqK y y
  rw [decide_eq_true (rfl : y = y)] at e2
  have e3 : (g == g) = true := by simp
  have hm0 : (m : Int) ≤ 63 := by omega
  have ho0 : (o : Int) ≤ 63 := by omega
  have hmo : ¬ o = m := by omega
  have hmb : ((o : Int) == (m : Int)) = false := by simp; omega
  have HN := Lib.hid (Hs.sk ⟨0, km, kr⟩ hA 25 33)
  have HC0 := Lib.hid (fun W h => scheck_any A s W h)
  have HRT := Lib.hid (fun W => rright_any ⟨0, km, kr⟩ W)
  rw [n1, n2, n3] at HN HC0
  rw [n1, n2, n3]
  rw [H.cs] at HC0
  rw [hk] at HRT
  clear h0
  dsimp only at HN HRT hst ⊢
  have HST := Lib.hid hst
  have f1 := HN.out.weak.b0.three
  have f2 := HN.out.b0.eight
  clear hA
  clear H hk n1 n2 n3 k1 k2 k3 hst hl1 hl2 hl3 hct
  go_enter Try.func5, Try.ntmps5
  go_wp2_with (first
    | (go_at_call 10; (with_reducible refine (heads_any _).mono ?_); rintro e w10 ⟨rfl, hb⟩; have H' := Lib.hid (HN.out.next hb); clear hb HN f3 f4 f5 f6 f7; have HN := H'; clear H'; skip)
    | (go_at_call 8; (with_reducible refine (HCT.out _ _ (HN.out.next (below_set8 (bl1 K8.out).1 (Nat.le_of_eq (World.size_alloc _ _)))).a0).mono ?_); rintro e w9 ⟨rfl, hb⟩; have H' := Lib.hid (Hs.over (World.size_alloc _ _) HN.out K8.out hb); clear hb HN f1 f3 f7; have HN := H'; clear H'; have f3 := HN.out.weak.weak.weak.weak.b0.three; have f4 := HN.out.weak.weak.weak.b0.eight; have f5 := HN.out.weak.weak.b0.eight; have f6 := HN.out.weak.b0.eight; have f7 := HN.out.b0.eight)
    | (go_at_call 14; (with_reducible refine (HAN.out _).mono ?_); rintro e w8 ⟨rfl, hb⟩; have K8 := Lib.hid hb; have H' := Lib.hid ((HN.out.new8n (.int .i64 0) (.int .u64 (U km.ul)) (.int .u64 (U km.uh)) (.int .i64 (S km.sl)) (.int .i64 (S km.sh)) (.int .u64 (U km.t.v)) (.int .u64 (U km.t.m)) (.int .i64 kr) 33 (World.size_alloc _ _)).next hb); clear hb f1 f2 f3 f4 f5 f6 f8 f9; have f1 := H'.out.weak.weak.weak.weak.weak.weak.b0.three; have f3 := H'.out.weak.weak.weak.weak.b0.three; have f7 := H'.out.b0.eight; have z8 := H'.out.weak.weak.weak.weak.b0.lt)
    | (go_at_call 12; (with_reducible refine (HL3.out _ HN.out.a1).mono ?_); rintro e w7 ⟨rfl, hb⟩; have H' := Lib.hid ((HN.out.next hb).new8 (.int .i64 y.kind) (.int .u64 (U y.num.ul)) (.int .u64 (U y.num.uh)) (.int .i64 (S y.num.sl)) (.int .i64 (S y.num.sh)) (.int .u64 (U y.num.t.v)) (.int .u64 (U y.num.t.m)) (.int .i64 y.reg) 33); have z7 := (HN.out.next hb).weak.weak.b0.lt; clear hb HN f1 f2 f3 f4 f5; have HN := H'; clear H'; have f1 := HN.out.weak.weak.weak.weak.weak.b0.three; have f2 := HN.out.weak.weak.weak.weak.b0.eight; have f3 := HN.out.weak.weak.weak.b0.three; have f4 := HN.out.weak.weak.b0.eight; have f5 := HN.out.weak.b0.eight; have f6 := HN.out.b0.eight; have f8 := (HN.out.new8 (.int .i64 0) (.int .u64 (U km.ul)) (.int .u64 (U km.uh)) (.int .i64 (S km.sl)) (.int .i64 (S km.sh)) (.int .u64 (U km.t.v)) (.int .u64 (U km.t.m)) (.int .i64 kr) 33).weak.weak.weak.weak.weak.b0.eight; have f9 := (HN.out.new8 (.int .i64 0) (.int .u64 (U km.ul)) (.int .u64 (U km.uh)) (.int .i64 (S km.sl)) (.int .i64 (S km.sh)) (.int .u64 (U km.t.v)) (.int .u64 (U km.t.m)) (.int .i64 kr) 33).weak.weak.weak.weak.b0.three)
    | (go_at_call 12; (with_reducible refine (HL2.out _ _ HN.out.a0).mono ?_); rintro e w6 ⟨rfl, hb⟩; have H' := Lib.hid ((HN.out.next hb).new8 (.int .i64 y.kind) (.int .u64 (U y.num.ul)) (.int .u64 (U y.num.uh)) (.int .i64 (S y.num.sl)) (.int .i64 (S y.num.sh)) (.int .u64 (U y.num.t.v)) (.int .u64 (U y.num.t.m)) (.int .i64 y.reg) 33); clear hb HN f1 f2 f3 f4; have HN := H'; clear H'; have f1 := HN.out.weak.weak.weak.weak.b0.three; have f2 := HN.out.weak.weak.weak.b0.eight; have f3 := HN.out.weak.weak.b0.three; have f4 := HN.out.weak.b0.eight; have f5 := HN.out.b0.eight)
    | (go_at_call 12; (with_reducible refine (HL1.out _ _ HN.out.a0).mono ?_); rintro e w5 ⟨rfl, hb⟩; have H' := Lib.hid ((HN.out.next hb).new8 (.int .i64 1) (.int .u64 (U ca.ul)) (.int .u64 (U ca.uh)) (.int .i64 (S ca.sl)) (.int .i64 (S ca.sh)) (.int .u64 (U ca.t.v)) (.int .u64 (U ca.t.m)) (.int .i64 0) 33); clear hb HN f1 f2 f3; have HN := H'; clear H'; have f1 := HN.out.weak.weak.weak.b0.three; have f2 := HN.out.weak.weak.b0.eight; have f3 := HN.out.weak.b0.three; have f4 := HN.out.b0.eight)
    | (go_at_call 11; (with_reducible refine (HST.out _ HN.out.a0).mono ?_); rintro e w4 ⟨⟨q1, q2, q3, g1, g2, g3⟩, rfl, hD, hb⟩; have H' := Lib.hid (((HN.out.next hb).add hD).new3 (.slice q1 11 g1) (.slice q2 512 g2) (.slice q3 64 g3) 25); clear hb HN hD f1 f2; have HN := H'; clear H'; have f1 := HN.out.weak.weak.b0.three; have f2 := HN.out.weak.b0.eight; have f3 := HN.out.b0.three)
    | (go_at_call 9; (with_reducible refine (HRT.out _).mono ?_); rintro e w2 ⟨rfl, hb⟩; have H' := Lib.hid (HN.out.next hb); clear hb HN f1 f2; have HN := H'; clear H'; have f1 := HN.out.weak.b0.three; have f2 := HN.out.b0.eight)
    | (go_at_call 8; (with_reducible refine (HC0.out _ HN.out.a0).mono ?_); rintro e w1 ⟨rfl, hb⟩; have H' := Lib.hid (HN.out.next hb); clear hb HN f1 f2; have HN := H'; clear H'; have f1 := HN.out.weak.b0.three; have f2 := HN.out.b0.eight))
  go_ret
  exact ⟨rfl, HN.out.low⟩
theorem back_law (A : AbA) (s : Ab) (k : Kn) (i j : Int) (w : World) (hA : AbAt w A s) : Calls Try.prog 5 #[.agg #[.slice A.p1 s.regs.length A.c1, .slice A.p2 s.set.length A.c2, .slice A.p3 s.saved.length A.c3], .agg #[.int .i64 k.kind, .int .u64 (U k.num.ul), .int .u64 (U k.num.uh), .int .i64 (S k.num.sl), .int .i64 (S k.num.sh), .int .u64 (U k.num.t.v), .int .u64 (U k.num.t.m), .int .i64 k.reg], .int .i64 i, .int .i64 j] w fun e w' => e = .returned (.bool true) ∧ Below w.heap.size w w' := by
  cases hc : checkS s with
  | false => exact back_c A s k i j w hA hc
  | true => cases hk : right k with
    | false => exact back_k A s k i j w hA hc hk
    | true =>
      by_cases hx : i < 0 ∨ 63 < i ∨ j < 0 ∨ 63 < j ∨ j = i
      · exact back_o A s k i j w hA hc hk hx
      · obtain ⟨m, rfl⟩ := Int.eq_ofNat_of_zero_le (show 0 ≤ i by omega)
        obtain ⟨o, rfl⟩ := Int.eq_ofNat_of_zero_le (show 0 ≤ j by omega)
        obtain ⟨T, y, g, H⟩ := bk_ex (m := m) (o := o) hc hk (by omega) (by omega) (by omega)
        by_cases h0 : k.kind = 0
        · exact back_0 A s k T y g m o w hA hk H (by omega) (by omega) (by omega) h0
        · exact back_1 A s k T y g m o w hA hk H (by omega) (by omega) (by omega) h0
end Go.Proofs.Ytdipmlamjjpcoaa
