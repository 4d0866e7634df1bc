/- Bounds reckoned: the laws held against the document's own, on what is below 2^32, on what may not be. -/
import Derived.Test.YticjhcbkkkkckaaMA
import Derived.Test.YticjhcbkkkkckaaNT
namespace Go.Proofs.Yticjhcbkkkkckaa
open Go.RowKit
attribute [local go_sem] b_and b_or b_xor b_andNot b_low b_top b_most b_signed b_unsigned b_zero b_eq s_eq b_nzero b_neq s_neq b_max b_min s_max s_min
attribute [local go_sem ↓] Go.wp_at_zero Go.wp_at_succ

/-- so many bounds boxed, all else as it was -/
structure St (w W : World) (l : List (Nat × Bd)) : Prop where
  low : Below w.heap.size w W
  box : ∀ p, p ∈ l → Box W p.1 (bv p.2)
theorem St.start (w : World) : St w w [] := ⟨Below.refl _ _, fun p hp => by cases hp⟩
theorem St.next {w W W' : World} {l : List (Nat × Bd)} (h : St w W l) (hb : Below W.heap.size W W') : St w W' l := ⟨bnext h.low hb, fun p hp => (h.box p hp).next hb⟩
theorem St.drew {w W : World} {l : List (Nat × Bd)} (h : St w W l) : St w W.drew l := h.next (Below.refl _ _).drew
theorem St.new {w W : World} {l : List (Nat × Bd)} (h : St w W l) (c : Bd) (t : TypeId) : St w (W.alloc (.cells #[.int .u64 (U c.ul), .int .u64 (U c.uh), .int .i64 (S c.sl), .int .i64 (S c.sh), .int .u64 (U c.t.v), .int .u64 (U c.t.m)] t)) ((W.heap.size, c) :: l) :=
  ⟨h.low.alloc h.low.size _, fun p hp => by
    rcases List.mem_cons.1 hp with rfl | hp
    · exact Box.new W (bv c) t rfl
    · exact (h.box p hp).alloc _⟩
theorem St.weak {w W : World} {q : Nat × Bd} {l : List (Nat × Bd)} (h : St w W (q :: l)) : St w W l := ⟨h.low, fun p hp => h.box p (List.mem_cons_of_mem _ hp)⟩
theorem St.f1 {w W : World} {n : Nat} {a : Bd} {l : List (Nat × Bd)} (h : St w W ((n, a) :: l)) : (W.cell? ⟨n, 0, none⟩ = some (.int .u64 (U a.ul)) ∧ W.cell? ⟨n, 1, none⟩ = some (.int .u64 (U a.uh)) ∧ W.cell? ⟨n, 2, none⟩ = some (.int .i64 (S a.sl)) ∧ W.cell? ⟨n, 3, none⟩ = some (.int .i64 (S a.sh)) ∧ W.cell? ⟨n, 4, none⟩ = some (.int .u64 (U a.t.v)) ∧ W.cell? ⟨n, 5, none⟩ = some (.int .u64 (U a.t.m))) ∧ n < W.heap.size := ⟨(h.box (n, a) List.mem_cons_self).six.1, (h.box (n, a) List.mem_cons_self).lt⟩
theorem St.f2 {w W : World} {n m : Nat} {a b : Bd} {l : List (Nat × Bd)} (h : St w W ((n, a) :: (m, b) :: l)) : ((W.cell? ⟨n, 0, none⟩ = some (.int .u64 (U a.ul)) ∧ W.cell? ⟨n, 1, none⟩ = some (.int .u64 (U a.uh)) ∧ W.cell? ⟨n, 2, none⟩ = some (.int .i64 (S a.sl)) ∧ W.cell? ⟨n, 3, none⟩ = some (.int .i64 (S a.sh)) ∧ W.cell? ⟨n, 4, none⟩ = some (.int .u64 (U a.t.v)) ∧ W.cell? ⟨n, 5, none⟩ = some (.int .u64 (U a.t.m))) ∧ n < W.heap.size) ∧ (W.cell? ⟨m, 0, none⟩ = some (.int .u64 (U b.ul)) ∧ W.cell? ⟨m, 1, none⟩ = some (.int .u64 (U b.uh)) ∧ W.cell? ⟨m, 2, none⟩ = some (.int .i64 (S b.sl)) ∧ W.cell? ⟨m, 3, none⟩ = some (.int .i64 (S b.sh)) ∧ W.cell? ⟨m, 4, none⟩ = some (.int .u64 (U b.t.v)) ∧ W.cell? ⟨m, 5, none⟩ = some (.int .u64 (U b.t.m))) ∧ m < W.heap.size := ⟨h.f1, h.weak.f1⟩
theorem St.f3 {w W : World} {n m k : Nat} {a b c : Bd} {l : List (Nat × Bd)} (h : St w W ((n, a) :: (m, b) :: (k, c) :: l)) : ((W.cell? ⟨n, 0, none⟩ = some (.int .u64 (U a.ul)) ∧ W.cell? ⟨n, 1, none⟩ = some (.int .u64 (U a.uh)) ∧ W.cell? ⟨n, 2, none⟩ = some (.int .i64 (S a.sl)) ∧ W.cell? ⟨n, 3, none⟩ = some (.int .i64 (S a.sh)) ∧ W.cell? ⟨n, 4, none⟩ = some (.int .u64 (U a.t.v)) ∧ W.cell? ⟨n, 5, none⟩ = some (.int .u64 (U a.t.m))) ∧ n < W.heap.size) ∧ ((W.cell? ⟨m, 0, none⟩ = some (.int .u64 (U b.ul)) ∧ W.cell? ⟨m, 1, none⟩ = some (.int .u64 (U b.uh)) ∧ W.cell? ⟨m, 2, none⟩ = some (.int .i64 (S b.sl)) ∧ W.cell? ⟨m, 3, none⟩ = some (.int .i64 (S b.sh)) ∧ W.cell? ⟨m, 4, none⟩ = some (.int .u64 (U b.t.v)) ∧ W.cell? ⟨m, 5, none⟩ = some (.int .u64 (U b.t.m))) ∧ m < W.heap.size) ∧ (W.cell? ⟨k, 0, none⟩ = some (.int .u64 (U c.ul)) ∧ W.cell? ⟨k, 1, none⟩ = some (.int .u64 (U c.uh)) ∧ W.cell? ⟨k, 2, none⟩ = some (.int .i64 (S c.sl)) ∧ W.cell? ⟨k, 3, none⟩ = some (.int .i64 (S c.sh)) ∧ W.cell? ⟨k, 4, none⟩ = some (.int .u64 (U c.t.v)) ∧ W.cell? ⟨k, 5, none⟩ = some (.int .u64 (U c.t.m))) ∧ k < W.heap.size := ⟨h.f1, h.weak.f2⟩
theorem St.f4 {w W : World} {n m k j : Nat} {a b c d : Bd} {l : List (Nat × Bd)} (h : St w W ((n, a) :: (m, b) :: (k, c) :: (j, d) :: l)) : ((W.cell? ⟨n, 0, none⟩ = some (.int .u64 (U a.ul)) ∧ W.cell? ⟨n, 1, none⟩ = some (.int .u64 (U a.uh)) ∧ W.cell? ⟨n, 2, none⟩ = some (.int .i64 (S a.sl)) ∧ W.cell? ⟨n, 3, none⟩ = some (.int .i64 (S a.sh)) ∧ W.cell? ⟨n, 4, none⟩ = some (.int .u64 (U a.t.v)) ∧ W.cell? ⟨n, 5, none⟩ = some (.int .u64 (U a.t.m))) ∧ n < W.heap.size) ∧ ((W.cell? ⟨m, 0, none⟩ = some (.int .u64 (U b.ul)) ∧ W.cell? ⟨m, 1, none⟩ = some (.int .u64 (U b.uh)) ∧ W.cell? ⟨m, 2, none⟩ = some (.int .i64 (S b.sl)) ∧ W.cell? ⟨m, 3, none⟩ = some (.int .i64 (S b.sh)) ∧ W.cell? ⟨m, 4, none⟩ = some (.int .u64 (U b.t.v)) ∧ W.cell? ⟨m, 5, none⟩ = some (.int .u64 (U b.t.m))) ∧ m < W.heap.size) ∧ ((W.cell? ⟨k, 0, none⟩ = some (.int .u64 (U c.ul)) ∧ W.cell? ⟨k, 1, none⟩ = some (.int .u64 (U c.uh)) ∧ W.cell? ⟨k, 2, none⟩ = some (.int .i64 (S c.sl)) ∧ W.cell? ⟨k, 3, none⟩ = some (.int .i64 (S c.sh)) ∧ W.cell? ⟨k, 4, none⟩ = some (.int .u64 (U c.t.v)) ∧ W.cell? ⟨k, 5, none⟩ = some (.int .u64 (U c.t.m))) ∧ k < W.heap.size) ∧ (W.cell? ⟨j, 0, none⟩ = some (.int .u64 (U d.ul)) ∧ W.cell? ⟨j, 1, none⟩ = some (.int .u64 (U d.uh)) ∧ W.cell? ⟨j, 2, none⟩ = some (.int .i64 (S d.sl)) ∧ W.cell? ⟨j, 3, none⟩ = some (.int .i64 (S d.sh)) ∧ W.cell? ⟨j, 4, none⟩ = some (.int .u64 (U d.t.v)) ∧ W.cell? ⟨j, 5, none⟩ = some (.int .u64 (U d.t.m))) ∧ j < W.heap.size := ⟨h.f1, h.weak.f3⟩
theorem St.ab (w : World) (a b : Bd) (t t' : TypeId) : St w ((w.alloc (.cells #[.int .u64 (U a.ul), .int .u64 (U a.uh), .int .i64 (S a.sl), .int .i64 (S a.sh), .int .u64 (U a.t.v), .int .u64 (U a.t.m)] t)).alloc (.cells #[.int .u64 (U b.ul), .int .u64 (U b.uh), .int .i64 (S b.sl), .int .i64 (S b.sh), .int .u64 (U b.t.v), .int .u64 (U b.t.m)] t')) [(w.heap.size + 1, b), (w.heap.size, a)] := by
  have h := ((St.start w).new a t).new b t'
  rwa [World.size_alloc] at h
theorem eq_self (c : Bd) (w : World) : (binOp .eql 26 (.agg #[.int .u64 (U c.ul), .int .u64 (U c.uh), .int .i64 (S c.sl), .int .i64 (S c.sh), .int .u64 (U c.t.v), .int .u64 (U c.t.m)]) (.agg #[.int .u64 (U c.ul), .int .u64 (U c.uh), .int .i64 (S c.sl), .int .i64 (S c.sh), .int .u64 (U c.t.v), .int .u64 (U c.t.m)])).run Try.prog w = .ok (.bool true) w := by
  have h := eqD c c w
  rwa [decide_eq_true (rfl : c = c)] at h
theorem aluB_no {op : Int} (h : isOp op = false) (a b : Bd) (wide : Bool) : aluB op a b wide = bany := if_pos h
theorem aluB_bad {op : Int} {a b : Bd} (h : bcheck a = false ∨ bcheck b = false) (wide : Bool) : aluB op a b wide = bany := by
  unfold aluB
  cases isOp op with
  | false => exact if_pos rfl
  | true => rw [if_neg (by simp), if_pos h]
set_option maxRecDepth 100000 in
set_option maxHeartbeats 2000000 in
theorem reckons_law (op : Int) (hw : (Lit.int .i64 op).wf = true) (a b : Bd) (wide : Bool) (w : World) : Calls Try.prog 3 #[.int .i64 op, .agg #[.int .u64 (U a.ul), .int .u64 (U a.uh), .int .i64 (S a.sl), .int .i64 (S a.sh), .int .u64 (U a.t.v), .int .u64 (U a.t.m)], .agg #[.int .u64 (U b.ul), .int .u64 (U b.uh), .int .i64 (S b.sl), .int .i64 (S b.sh), .int .u64 (U b.t.v), .int .u64 (U b.t.m)], .bool wide] w fun e w' => e = .returned (.bool true) ∧ Below w.heap.size w w' := by
  have HN := Lib.hid (St.ab w a b 26 26)
  have F := HN.out.f2
  have HK := Lib.hid (fun W => aalu_any op hw a b wide W)
  have HR := Lib.hid (fun W => rAlu_any op a b wide W)
  generalize aluB op a b wide = k at *
  generalize isOp op = g at *
  have e1 := eq_self k
  have e2 : (g == g) = true := by simp
  go_enter Try.func3, Try.ntmps3
  go_wp2_with (first
    | (go_at_call 8; (with_reducible refine (HK.out _).mono ?_); rintro e w1 ⟨rfl, hb⟩; have H' := Lib.hid ((HN.out.next hb).new k 26); clear hb HN F; have HN := H'; clear H'; have F := HN.out.f3)
    | (go_at_call 9; (with_reducible refine (HR.out _).mono ?_); rintro e w2 ⟨rfl, hb⟩; have H' := Lib.hid ((HN.out.next hb).new k 26); clear hb HN F; have HN := H'; clear H'; have F := HN.out.f4)
    | (go_at_call 10; (with_reducible refine (heads_any _).mono ?_); rintro e w9 ⟨rfl, hb⟩; have H' := Lib.hid (HN.out.next hb); clear hb HN F; have HN := H'; clear H'; have F := HN.out.f4))
  go_ret
  exact ⟨rfl, HN.out.low⟩
set_option maxRecDepth 100000 in
set_option maxHeartbeats 2000000 in
theorem right_yes (op : Int) (hw : (Lit.int .i64 op).wf = true) (a b : Bd) (wide : Bool) (ha : bcheck a = true) (hb : bcheck b = true) (w : World) : Calls Try.prog 7 #[.int .i64 op, .agg #[.int .u64 (U a.ul), .int .u64 (U a.uh), .int .i64 (S a.sl), .int .i64 (S a.sh), .int .u64 (U a.t.v), .int .u64 (U a.t.m)], .agg #[.int .u64 (U b.ul), .int .u64 (U b.uh), .int .i64 (S b.sl), .int .i64 (S b.sh), .int .u64 (U b.t.v), .int .u64 (U b.t.m)], .bool wide] w fun e w' => e = .returned (.bool true) ∧ Below w.heap.size w w' := by
  have HN := Lib.hid (St.ab w a b 26 26)
  have F := HN.out.f2
  have HK := Lib.hid (fun W => aalu_any op hw a b wide W)
  have hk := aluB_check op a b wide
  generalize aluB op a b wide = k at *
  have HC := Lib.hid (fun W => rbcheck_any k W)
  have HX := Lib.hid (fun W => rbcheck_any a W)
  have HY := Lib.hid (fun W => rbcheck_any b W)
  rw [ha] at HX
  rw [hb] at HY
  rw [hk] at HC
  generalize isOp op = g at *
  clear hk ha hb
  go_enter Try.func7, Try.ntmps7
  go_wp2_with (first
    | (go_at_call 8; (with_reducible refine (HK.out _).mono ?_); rintro e w1 ⟨rfl, hb⟩; have H' := Lib.hid ((HN.out.next hb).new k 26); clear hb HN F; have HN := H'; clear H'; have F := HN.out.f3)
    | (go_at_call 12; (with_reducible refine (HC.out _).mono ?_); rintro e w4 ⟨rfl, hb⟩; have H' := Lib.hid (HN.out.next hb); clear hb HN F; have HN := H'; clear H'; have F := HN.out.f3)
    | (go_at_call 12; (with_reducible refine (HY.out _).mono ?_); rintro e w3 ⟨rfl, hb⟩; have H' := Lib.hid (HN.out.next hb); clear hb HN F; have HN := H'; clear H'; have F := HN.out.f3)
    | (go_at_call 12; (with_reducible refine (HX.out _).mono ?_); rintro e w2 ⟨rfl, hb⟩; have H' := Lib.hid (HN.out.next hb); clear hb HN F; have HN := H'; clear H'; have F := HN.out.f3)
    | (go_at_call 10; (with_reducible refine (heads_any _).mono ?_); rintro e w9 ⟨rfl, hb⟩; have H' := Lib.hid (HN.out.next hb); clear hb HN F; have HN := H'; clear H'; have F := HN.out.f3))
  go_ret
  exact ⟨rfl, HN.out.low⟩
set_option maxRecDepth 100000 in
set_option maxHeartbeats 2000000 in
theorem right_a (op : Int) (hw : (Lit.int .i64 op).wf = true) (a b : Bd) (wide : Bool) (ha : bcheck a = false) (w : World) : Calls Try.prog 7 #[.int .i64 op, .agg #[.int .u64 (U a.ul), .int .u64 (U a.uh), .int .i64 (S a.sl), .int .i64 (S a.sh), .int .u64 (U a.t.v), .int .u64 (U a.t.m)], .agg #[.int .u64 (U b.ul), .int .u64 (U b.uh), .int .i64 (S b.sl), .int .i64 (S b.sh), .int .u64 (U b.t.v), .int .u64 (U b.t.m)], .bool wide] w fun e w' => e = .returned (.bool true) ∧ Below w.heap.size w w' := by
  have HN := Lib.hid (St.ab w a b 26 26)
  have F := HN.out.f2
  have HK := Lib.hid (fun W => aalu_any op hw a b wide W)
  rw [aluB_bad (.inl ha)] at HK
  have HX := Lib.hid (fun W => rbcheck_any a W)
  have HY := Lib.hid (fun W => rbcheck_any b W)
  obtain ⟨v, h0⟩ := ralu_zero op rfl
  have H0 := Lib.hid h0
  have HA := Lib.hid (fun W => rbany_any W)
  have e1 := eq_self bany
  generalize bany = k at *
  generalize isOp op = g at *
  have e2 : (g == g) = true := by simp
  rw [ha] at HX
  clear ha h0
  go_enter Try.func7, Try.ntmps7
  go_wp2_with (first
    | (go_at_call 8; (with_reducible refine (HK.out _).mono ?_); rintro e w1 ⟨rfl, hb⟩; have H' := Lib.hid ((HN.out.next hb).new k 26); clear hb HN F; have HN := H'; clear H'; have F := HN.out.f3)
    | (go_at_call 12; (with_reducible refine (HX.out _).mono ?_); rintro e w2 ⟨rfl, hb⟩; have H' := Lib.hid (HN.out.next hb); clear hb HN F; have HN := H'; clear H'; have F := HN.out.f3)
    | (go_at_call 11; (with_reducible refine (H0.out _).mono ?_); rintro e w6 ⟨rfl, rfl⟩))
  go_region_held3 (fun W => ((W.cell? ⟨w1.heap.size, 0, none⟩ = some (.int .u64 (U k.ul)) ∧ W.cell? ⟨w1.heap.size, 1, none⟩ = some (.int .u64 (U k.uh)) ∧ W.cell? ⟨w1.heap.size, 2, none⟩ = some (.int .i64 (S k.sl)) ∧ W.cell? ⟨w1.heap.size, 3, none⟩ = some (.int .i64 (S k.sh)) ∧ W.cell? ⟨w1.heap.size, 4, none⟩ = some (.int .u64 (U k.t.v)) ∧ W.cell? ⟨w1.heap.size, 5, none⟩ = some (.int .u64 (U k.t.m))) ∧ w1.heap.size < W.heap.size) ∧ ((W.cell? ⟨(w.heap.size + 1), 0, none⟩ = some (.int .u64 (U b.ul)) ∧ W.cell? ⟨(w.heap.size + 1), 1, none⟩ = some (.int .u64 (U b.uh)) ∧ W.cell? ⟨(w.heap.size + 1), 2, none⟩ = some (.int .i64 (S b.sl)) ∧ W.cell? ⟨(w.heap.size + 1), 3, none⟩ = some (.int .i64 (S b.sh)) ∧ W.cell? ⟨(w.heap.size + 1), 4, none⟩ = some (.int .u64 (U b.t.v)) ∧ W.cell? ⟨(w.heap.size + 1), 5, none⟩ = some (.int .u64 (U b.t.m))) ∧ (w.heap.size + 1) < W.heap.size) ∧ (W.cell? ⟨w.heap.size, 0, none⟩ = some (.int .u64 (U a.ul)) ∧ W.cell? ⟨w.heap.size, 1, none⟩ = some (.int .u64 (U a.uh)) ∧ W.cell? ⟨w.heap.size, 2, none⟩ = some (.int .i64 (S a.sl)) ∧ W.cell? ⟨w.heap.size, 3, none⟩ = some (.int .i64 (S a.sh)) ∧ W.cell? ⟨w.heap.size, 4, none⟩ = some (.int .u64 (U a.t.v)) ∧ W.cell? ⟨w.heap.size, 5, none⟩ = some (.int .u64 (U a.t.m))) ∧ w.heap.size < W.heap.size)
    (first | with_reducible exact F | with_reducible exact HN.out.drew.f3)
    (first
    | (go_at_call 15; (with_reducible refine (HA.out _).mono ?_); rintro e w5 ⟨rfl, hb⟩; (first | have H' := Lib.hid (HN.out.next hb) | have H' := Lib.hid (HN.out.drew.next hb)); clear hb HN F; have HN := H'; clear H'; have F := HN.out.f3)
    | (go_at_call 10; (with_reducible refine (heads_any _).mono ?_); rintro e w9 ⟨rfl, hb⟩; (first | have H' := Lib.hid (HN.out.next hb) | have H' := Lib.hid (HN.out.drew.next hb)); clear hb HN F; have HN := H'; clear H'; have F := HN.out.f3))
  all_goals
    go_wp2
    go_ret
    exact ⟨rfl, HN.out.low⟩
set_option maxRecDepth 100000 in
set_option maxHeartbeats 2000000 in
theorem right_b (op : Int) (hw : (Lit.int .i64 op).wf = true) (a b : Bd) (wide : Bool) (ha : bcheck a = true) (hb : bcheck b = false) (w : World) : Calls Try.prog 7 #[.int .i64 op, .agg #[.int .u64 (U a.ul), .int .u64 (U a.uh), .int .i64 (S a.sl), .int .i64 (S a.sh), .int .u64 (U a.t.v), .int .u64 (U a.t.m)], .agg #[.int .u64 (U b.ul), .int .u64 (U b.uh), .int .i64 (S b.sl), .int .i64 (S b.sh), .int .u64 (U b.t.v), .int .u64 (U b.t.m)], .bool wide] w fun e w' => e = .returned (.bool true) ∧ Below w.heap.size w w' := by
  have HN := Lib.hid (St.ab w a b 26 26)
  have F := HN.out.f2
  have HK := Lib.hid (fun W => aalu_any op hw a b wide W)
  rw [aluB_bad (.inr hb)] at HK
  have HX := Lib.hid (fun W => rbcheck_any a W)
  have HY := Lib.hid (fun W => rbcheck_any b W)
  obtain ⟨v, h0⟩ := ralu_zero op rfl
  have H0 := Lib.hid h0
  have HA := Lib.hid (fun W => rbany_any W)
  have e1 := eq_self bany
  generalize bany = k at *
  generalize isOp op = g at *
  have e2 : (g == g) = true := by simp
  rw [ha] at HX
  rw [hb] at HY
  clear ha hb h0
  go_enter Try.func7, Try.ntmps7
  go_wp2_with (first
    | (go_at_call 8; (with_reducible refine (HK.out _).mono ?_); rintro e w1 ⟨rfl, hb⟩; have H' := Lib.hid ((HN.out.next hb).new k 26); clear hb HN F; have HN := H'; clear H'; have F := HN.out.f3)
    | (go_at_call 12; (with_reducible refine (HY.out _).mono ?_); rintro e w3 ⟨rfl, hb⟩; have H' := Lib.hid (HN.out.next hb); clear hb HN F; have HN := H'; clear H'; have F := HN.out.f3)
    | (go_at_call 12; (with_reducible refine (HX.out _).mono ?_); rintro e w2 ⟨rfl, hb⟩; have H' := Lib.hid (HN.out.next hb); clear hb HN F; have HN := H'; clear H'; have F := HN.out.f3)
    | (go_at_call 11; (with_reducible refine (H0.out _).mono ?_); rintro e w6 ⟨rfl, rfl⟩))
  go_region_held3 (fun W => ((W.cell? ⟨w1.heap.size, 0, none⟩ = some (.int .u64 (U k.ul)) ∧ W.cell? ⟨w1.heap.size, 1, none⟩ = some (.int .u64 (U k.uh)) ∧ W.cell? ⟨w1.heap.size, 2, none⟩ = some (.int .i64 (S k.sl)) ∧ W.cell? ⟨w1.heap.size, 3, none⟩ = some (.int .i64 (S k.sh)) ∧ W.cell? ⟨w1.heap.size, 4, none⟩ = some (.int .u64 (U k.t.v)) ∧ W.cell? ⟨w1.heap.size, 5, none⟩ = some (.int .u64 (U k.t.m))) ∧ w1.heap.size < W.heap.size) ∧ ((W.cell? ⟨(w.heap.size + 1), 0, none⟩ = some (.int .u64 (U b.ul)) ∧ W.cell? ⟨(w.heap.size + 1), 1, none⟩ = some (.int .u64 (U b.uh)) ∧ W.cell? ⟨(w.heap.size + 1), 2, none⟩ = some (.int .i64 (S b.sl)) ∧ W.cell? ⟨(w.heap.size + 1), 3, none⟩ = some (.int .i64 (S b.sh)) ∧ W.cell? ⟨(w.heap.size + 1), 4, none⟩ = some (.int .u64 (U b.t.v)) ∧ W.cell? ⟨(w.heap.size + 1), 5, none⟩ = some (.int .u64 (U b.t.m))) ∧ (w.heap.size + 1) < W.heap.size) ∧ (W.cell? ⟨w.heap.size, 0, none⟩ = some (.int .u64 (U a.ul)) ∧ W.cell? ⟨w.heap.size, 1, none⟩ = some (.int .u64 (U a.uh)) ∧ W.cell? ⟨w.heap.size, 2, none⟩ = some (.int .i64 (S a.sl)) ∧ W.cell? ⟨w.heap.size, 3, none⟩ = some (.int .i64 (S a.sh)) ∧ W.cell? ⟨w.heap.size, 4, none⟩ = some (.int .u64 (U a.t.v)) ∧ W.cell? ⟨w.heap.size, 5, none⟩ = some (.int .u64 (U a.t.m))) ∧ w.heap.size < W.heap.size)
    (first | with_reducible exact F | with_reducible exact HN.out.drew.f3)
    (first
    | (go_at_call 15; (with_reducible refine (HA.out _).mono ?_); rintro e w5 ⟨rfl, hb⟩; (first | have H' := Lib.hid (HN.out.next hb) | have H' := Lib.hid (HN.out.drew.next hb)); clear hb HN F; have HN := H'; clear H'; have F := HN.out.f3)
    | (go_at_call 10; (with_reducible refine (heads_any _).mono ?_); rintro e w9 ⟨rfl, hb⟩; (first | have H' := Lib.hid (HN.out.next hb) | have H' := Lib.hid (HN.out.drew.next hb)); clear hb HN F; have HN := H'; clear H'; have F := HN.out.f3))
  all_goals
    go_wp2
    go_ret
    exact ⟨rfl, HN.out.low⟩
theorem right_law (op : Int) (hw : (Lit.int .i64 op).wf = true) (a b : Bd) (wide : Bool) (w : World) : Calls Try.prog 7 #[.int .i64 op, .agg #[.int .u64 (U a.ul), .int .u64 (U a.uh), .int .i64 (S a.sl), .int .i64 (S a.sh), .int .u64 (U a.t.v), .int .u64 (U a.t.m)], .agg #[.int .u64 (U b.ul), .int .u64 (U b.uh), .int .i64 (S b.sl), .int .i64 (S b.sh), .int .u64 (U b.t.v), .int .u64 (U b.t.m)], .bool wide] w fun e w' => e = .returned (.bool true) ∧ Below w.heap.size w w' := by
  cases ha : bcheck a with
  | false => exact right_a op hw a b wide ha w
  | true => cases hb : bcheck b with
    | false => exact right_b op hw a b wide ha hb w
    | true => exact right_yes op hw a b wide ha hb w
set_option maxRecDepth 100000 in
set_option maxHeartbeats 2000000 in
theorem low_no (op : Int) (hw : (Lit.int .i64 op).wf = true) (a b : Bd) (ho : isOp op = false) (w : World) : Calls Try.prog 6 #[.int .i64 op, .agg #[.int .u64 (U a.ul), .int .u64 (U a.uh), .int .i64 (S a.sl), .int .i64 (S a.sh), .int .u64 (U a.t.v), .int .u64 (U a.t.m)], .agg #[.int .u64 (U b.ul), .int .u64 (U b.uh), .int .i64 (S b.sl), .int .i64 (S b.sh), .int .u64 (U b.t.v), .int .u64 (U b.t.m)]] w fun e w' => e = .returned (.bool true) ∧ Below w.heap.size w w' := by
  have HN := Lib.hid (St.ab w a b 26 26)
  have F := HN.out.f2
  have HK := Lib.hid (fun W => aalu_any op hw a b false W)
  have HX := Lib.hid (fun W => rbcheck_any a W)
  have HY := Lib.hid (fun W => rbcheck_any b W)
  have HA := Lib.hid (fun W => rbany_any W)
  have e1 := eq_self bany
  rw [aluB_no ho, ho] at HK
  generalize bany = k at *
  clear ho
  go_enter Try.func6, Try.ntmps6
  go_wp2_with (first
    | (go_at_call 8; (with_reducible refine (HK.out _).mono ?_); rintro e w1 ⟨rfl, hb⟩; have H' := Lib.hid ((HN.out.next hb).new k 26); clear hb HN F; have HN := H'; clear H'; have F := HN.out.f3))
  go_region_held3 (fun W => ((W.cell? ⟨w1.heap.size, 0, none⟩ = some (.int .u64 (U k.ul)) ∧ W.cell? ⟨w1.heap.size, 1, none⟩ = some (.int .u64 (U k.uh)) ∧ W.cell? ⟨w1.heap.size, 2, none⟩ = some (.int .i64 (S k.sl)) ∧ W.cell? ⟨w1.heap.size, 3, none⟩ = some (.int .i64 (S k.sh)) ∧ W.cell? ⟨w1.heap.size, 4, none⟩ = some (.int .u64 (U k.t.v)) ∧ W.cell? ⟨w1.heap.size, 5, none⟩ = some (.int .u64 (U k.t.m))) ∧ w1.heap.size < W.heap.size) ∧ ((W.cell? ⟨(w.heap.size + 1), 0, none⟩ = some (.int .u64 (U b.ul)) ∧ W.cell? ⟨(w.heap.size + 1), 1, none⟩ = some (.int .u64 (U b.uh)) ∧ W.cell? ⟨(w.heap.size + 1), 2, none⟩ = some (.int .i64 (S b.sl)) ∧ W.cell? ⟨(w.heap.size + 1), 3, none⟩ = some (.int .i64 (S b.sh)) ∧ W.cell? ⟨(w.heap.size + 1), 4, none⟩ = some (.int .u64 (U b.t.v)) ∧ W.cell? ⟨(w.heap.size + 1), 5, none⟩ = some (.int .u64 (U b.t.m))) ∧ (w.heap.size + 1) < W.heap.size) ∧ (W.cell? ⟨w.heap.size, 0, none⟩ = some (.int .u64 (U a.ul)) ∧ W.cell? ⟨w.heap.size, 1, none⟩ = some (.int .u64 (U a.uh)) ∧ W.cell? ⟨w.heap.size, 2, none⟩ = some (.int .i64 (S a.sl)) ∧ W.cell? ⟨w.heap.size, 3, none⟩ = some (.int .i64 (S a.sh)) ∧ W.cell? ⟨w.heap.size, 4, none⟩ = some (.int .u64 (U a.t.v)) ∧ W.cell? ⟨w.heap.size, 5, none⟩ = some (.int .u64 (U a.t.m))) ∧ w.heap.size < W.heap.size)
    (first | with_reducible exact F | with_reducible exact HN.out.drew.f3)
    (first
    | (go_at_call 15; (with_reducible refine (HA.out _).mono ?_); rintro e w5 ⟨rfl, hb⟩; (first | have H' := Lib.hid (HN.out.next hb) | have H' := Lib.hid (HN.out.drew.next hb)); clear hb HN F; have HN := H'; clear H'; have F := HN.out.f3)
    | (go_at_call 10; (with_reducible refine (heads_any _).mono ?_); rintro e w9 ⟨rfl, hb⟩; (first | have H' := Lib.hid (HN.out.next hb) | have H' := Lib.hid (HN.out.drew.next hb)); clear hb HN F; have HN := H'; clear H'; have F := HN.out.f3))
  all_goals
    go_wp2
    go_ret
    exact ⟨rfl, HN.out.low⟩
set_option maxRecDepth 100000 in
set_option maxHeartbeats 2000000 in
theorem low_a (op : Int) (hw : (Lit.int .i64 op).wf = true) (a b : Bd) (ho : isOp op = true) (ha : bcheck a = false) (w : World) : Calls Try.prog 6 #[.int .i64 op, .agg #[.int .u64 (U a.ul), .int .u64 (U a.uh), .int .i64 (S a.sl), .int .i64 (S a.sh), .int .u64 (U a.t.v), .int .u64 (U a.t.m)], .agg #[.int .u64 (U b.ul), .int .u64 (U b.uh), .int .i64 (S b.sl), .int .i64 (S b.sh), .int .u64 (U b.t.v), .int .u64 (U b.t.m)]] w fun e w' => e = .returned (.bool true) ∧ Below w.heap.size w w' := by
  have HN := Lib.hid (St.ab w a b 26 26)
  have F := HN.out.f2
  have HK := Lib.hid (fun W => aalu_any op hw a b false W)
  have HX := Lib.hid (fun W => rbcheck_any a W)
  have HY := Lib.hid (fun W => rbcheck_any b W)
  have HA := Lib.hid (fun W => rbany_any W)
  have e1 := eq_self bany
  rw [aluB_bad (.inl ha), ho] at HK
  rw [ha] at HX
  generalize bany = k at *
  clear ho ha
  go_enter Try.func6, Try.ntmps6
  go_wp2_with (first
    | (go_at_call 8; (with_reducible refine (HK.out _).mono ?_); rintro e w1 ⟨rfl, hb⟩; have H' := Lib.hid ((HN.out.next hb).new k 26); clear hb HN F; have HN := H'; clear H'; have F := HN.out.f3)
    | (go_at_call 12; (with_reducible refine (HX.out _).mono ?_); rintro e w2 ⟨rfl, hb⟩; have H' := Lib.hid (HN.out.next hb); clear hb HN F; have HN := H'; clear H'; have F := HN.out.f3))
  go_region_held3 (fun W => ((W.cell? ⟨w1.heap.size, 0, none⟩ = some (.int .u64 (U k.ul)) ∧ W.cell? ⟨w1.heap.size, 1, none⟩ = some (.int .u64 (U k.uh)) ∧ W.cell? ⟨w1.heap.size, 2, none⟩ = some (.int .i64 (S k.sl)) ∧ W.cell? ⟨w1.heap.size, 3, none⟩ = some (.int .i64 (S k.sh)) ∧ W.cell? ⟨w1.heap.size, 4, none⟩ = some (.int .u64 (U k.t.v)) ∧ W.cell? ⟨w1.heap.size, 5, none⟩ = some (.int .u64 (U k.t.m))) ∧ w1.heap.size < W.heap.size) ∧ ((W.cell? ⟨(w.heap.size + 1), 0, none⟩ = some (.int .u64 (U b.ul)) ∧ W.cell? ⟨(w.heap.size + 1), 1, none⟩ = some (.int .u64 (U b.uh)) ∧ W.cell? ⟨(w.heap.size + 1), 2, none⟩ = some (.int .i64 (S b.sl)) ∧ W.cell? ⟨(w.heap.size + 1), 3, none⟩ = some (.int .i64 (S b.sh)) ∧ W.cell? ⟨(w.heap.size + 1), 4, none⟩ = some (.int .u64 (U b.t.v)) ∧ W.cell? ⟨(w.heap.size + 1), 5, none⟩ = some (.int .u64 (U b.t.m))) ∧ (w.heap.size + 1) < W.heap.size) ∧ (W.cell? ⟨w.heap.size, 0, none⟩ = some (.int .u64 (U a.ul)) ∧ W.cell? ⟨w.heap.size, 1, none⟩ = some (.int .u64 (U a.uh)) ∧ W.cell? ⟨w.heap.size, 2, none⟩ = some (.int .i64 (S a.sl)) ∧ W.cell? ⟨w.heap.size, 3, none⟩ = some (.int .i64 (S a.sh)) ∧ W.cell? ⟨w.heap.size, 4, none⟩ = some (.int .u64 (U a.t.v)) ∧ W.cell? ⟨w.heap.size, 5, none⟩ = some (.int .u64 (U a.t.m))) ∧ w.heap.size < W.heap.size)
    (first | with_reducible exact F | with_reducible exact HN.out.drew.f3)
    (first
    | (go_at_call 15; (with_reducible refine (HA.out _).mono ?_); rintro e w5 ⟨rfl, hb⟩; (first | have H' := Lib.hid (HN.out.next hb) | have H' := Lib.hid (HN.out.drew.next hb)); clear hb HN F; have HN := H'; clear H'; have F := HN.out.f3)
    | (go_at_call 10; (with_reducible refine (heads_any _).mono ?_); rintro e w9 ⟨rfl, hb⟩; (first | have H' := Lib.hid (HN.out.next hb) | have H' := Lib.hid (HN.out.drew.next hb)); clear hb HN F; have HN := H'; clear H'; have F := HN.out.f3))
  all_goals
    go_wp2
    go_ret
    exact ⟨rfl, HN.out.low⟩
set_option maxRecDepth 100000 in
set_option maxHeartbeats 2000000 in
theorem low_b (op : Int) (hw : (Lit.int .i64 op).wf = true) (a b : Bd) (ho : isOp op = true) (ha : bcheck a = true) (hb : bcheck b = false) (w : World) : Calls Try.prog 6 #[.int .i64 op, .agg #[.int .u64 (U a.ul), .int .u64 (U a.uh), .int .i64 (S a.sl), .int .i64 (S a.sh), .int .u64 (U a.t.v), .int .u64 (U a.t.m)], .agg #[.int .u64 (U b.ul), .int .u64 (U b.uh), .int .i64 (S b.sl), .int .i64 (S b.sh), .int .u64 (U b.t.v), .int .u64 (U b.t.m)]] w fun e w' => e = .returned (.bool true) ∧ Below w.heap.size w w' := by
  have HN := Lib.hid (St.ab w a b 26 26)
  have F := HN.out.f2
  have HK := Lib.hid (fun W => aalu_any op hw a b false W)
  have HX := Lib.hid (fun W => rbcheck_any a W)
  have HY := Lib.hid (fun W => rbcheck_any b W)
  have HA := Lib.hid (fun W => rbany_any W)
  have e1 := eq_self bany
  rw [aluB_bad (.inr hb), ho] at HK
  rw [ha] at HX
  rw [hb] at HY
  generalize bany = k at *
  clear ho ha hb
  go_enter Try.func6, Try.ntmps6
  go_wp2_with (first
    | (go_at_call 8; (with_reducible refine (HK.out _).mono ?_); rintro e w1 ⟨rfl, hb⟩; have H' := Lib.hid ((HN.out.next hb).new k 26); clear hb HN F; have HN := H'; clear H'; have F := HN.out.f3)
    | (go_at_call 12; (with_reducible refine (HY.out _).mono ?_); rintro e w3 ⟨rfl, hb⟩; have H' := Lib.hid (HN.out.next hb); clear hb HN F; have HN := H'; clear H'; have F := HN.out.f3)
    | (go_at_call 12; (with_reducible refine (HX.out _).mono ?_); rintro e w2 ⟨rfl, hb⟩; have H' := Lib.hid (HN.out.next hb); clear hb HN F; have HN := H'; clear H'; have F := HN.out.f3))
  go_region_held3 (fun W => ((W.cell? ⟨w1.heap.size, 0, none⟩ = some (.int .u64 (U k.ul)) ∧ W.cell? ⟨w1.heap.size, 1, none⟩ = some (.int .u64 (U k.uh)) ∧ W.cell? ⟨w1.heap.size, 2, none⟩ = some (.int .i64 (S k.sl)) ∧ W.cell? ⟨w1.heap.size, 3, none⟩ = some (.int .i64 (S k.sh)) ∧ W.cell? ⟨w1.heap.size, 4, none⟩ = some (.int .u64 (U k.t.v)) ∧ W.cell? ⟨w1.heap.size, 5, none⟩ = some (.int .u64 (U k.t.m))) ∧ w1.heap.size < W.heap.size) ∧ ((W.cell? ⟨(w.heap.size + 1), 0, none⟩ = some (.int .u64 (U b.ul)) ∧ W.cell? ⟨(w.heap.size + 1), 1, none⟩ = some (.int .u64 (U b.uh)) ∧ W.cell? ⟨(w.heap.size + 1), 2, none⟩ = some (.int .i64 (S b.sl)) ∧ W.cell? ⟨(w.heap.size + 1), 3, none⟩ = some (.int .i64 (S b.sh)) ∧ W.cell? ⟨(w.heap.size + 1), 4, none⟩ = some (.int .u64 (U b.t.v)) ∧ W.cell? ⟨(w.heap.size + 1), 5, none⟩ = some (.int .u64 (U b.t.m))) ∧ (w.heap.size + 1) < W.heap.size) ∧ (W.cell? ⟨w.heap.size, 0, none⟩ = some (.int .u64 (U a.ul)) ∧ W.cell? ⟨w.heap.size, 1, none⟩ = some (.int .u64 (U a.uh)) ∧ W.cell? ⟨w.heap.size, 2, none⟩ = some (.int .i64 (S a.sl)) ∧ W.cell? ⟨w.heap.size, 3, none⟩ = some (.int .i64 (S a.sh)) ∧ W.cell? ⟨w.heap.size, 4, none⟩ = some (.int .u64 (U a.t.v)) ∧ W.cell? ⟨w.heap.size, 5, none⟩ = some (.int .u64 (U a.t.m))) ∧ w.heap.size < W.heap.size)
    (first | with_reducible exact F | with_reducible exact HN.out.drew.f3)
    (first
    | (go_at_call 15; (with_reducible refine (HA.out _).mono ?_); rintro e w5 ⟨rfl, hb⟩; (first | have H' := Lib.hid (HN.out.next hb) | have H' := Lib.hid (HN.out.drew.next hb)); clear hb HN F; have HN := H'; clear H'; have F := HN.out.f3)
    | (go_at_call 10; (with_reducible refine (heads_any _).mono ?_); rintro e w9 ⟨rfl, hb⟩; (first | have H' := Lib.hid (HN.out.next hb) | have H' := Lib.hid (HN.out.drew.next hb)); clear hb HN F; have HN := H'; clear H'; have F := HN.out.f3))
  all_goals
    go_wp2
    go_ret
    exact ⟨rfl, HN.out.low⟩
set_option maxRecDepth 100000 in
set_option maxHeartbeats 2000000 in
theorem low_yes (op : Int) (hw : (Lit.int .i64 op).wf = true) (a b : Bd) (ho : isOp op = true) (ha : bcheck a = true) (hb : bcheck b = true) (w : World) : Calls Try.prog 6 #[.int .i64 op, .agg #[.int .u64 (U a.ul), .int .u64 (U a.uh), .int .i64 (S a.sl), .int .i64 (S a.sh), .int .u64 (U a.t.v), .int .u64 (U a.t.m)], .agg #[.int .u64 (U b.ul), .int .u64 (U b.uh), .int .i64 (S b.sl), .int .i64 (S b.sh), .int .u64 (U b.t.v), .int .u64 (U b.t.m)]] w fun e w' => e = .returned (.bool true) ∧ Below w.heap.size w w' := by
  have HN := Lib.hid (St.ab w a b 26 26)
  have F := HN.out.f2
  have HK := Lib.hid (fun W => aalu_any op hw a b false W)
  have HX := Lib.hid (fun W => rbcheck_any a W)
  have HY := Lib.hid (fun W => rbcheck_any b W)
  have HA := Lib.hid (fun W => rbany_any W)
  have e1 := eq_self bany
  have hl := aluB_low ho ha hb
  generalize aluB op a b false = k at *
  have h1 : U k.uh ≤ 4294967295 := by unfold U; omega
  have h2 : 0 ≤ S k.sl := hl.2
  rw [ho] at HK
  rw [ha] at HX
  rw [hb] at HY
  clear ho ha hb hl
  go_enter Try.func6, Try.ntmps6
  go_wp2_with (first
    | (go_at_call 8; (with_reducible refine (HK.out _).mono ?_); rintro e w1 ⟨rfl, hb⟩; have H' := Lib.hid ((HN.out.next hb).new k 26); clear hb HN F; have HN := H'; clear H'; have F := HN.out.f3)
    | (go_at_call 12; (with_reducible refine (HY.out _).mono ?_); rintro e w3 ⟨rfl, hb⟩; have H' := Lib.hid (HN.out.next hb); clear hb HN F; have HN := H'; clear H'; have F := HN.out.f3)
    | (go_at_call 12; (with_reducible refine (HX.out _).mono ?_); rintro e w2 ⟨rfl, hb⟩; have H' := Lib.hid (HN.out.next hb); clear hb HN F; have HN := H'; clear H'; have F := HN.out.f3)
    | (go_at_call 10; (with_reducible refine (heads_any _).mono ?_); rintro e w9 ⟨rfl, hb⟩; have H' := Lib.hid (HN.out.next hb); clear hb HN F; have HN := H'; clear H'; have F := HN.out.f3))
  go_ret
  exact ⟨rfl, HN.out.low⟩
theorem low_law (op : Int) (hw : (Lit.int .i64 op).wf = true) (a b : Bd) (w : World) : Calls Try.prog 6 #[.int .i64 op, .agg #[.int .u64 (U a.ul), .int .u64 (U a.uh), .int .i64 (S a.sl), .int .i64 (S a.sh), .int .u64 (U a.t.v), .int .u64 (U a.t.m)], .agg #[.int .u64 (U b.ul), .int .u64 (U b.uh), .int .i64 (S b.sl), .int .i64 (S b.sh), .int .u64 (U b.t.v), .int .u64 (U b.t.m)]] w fun e w' => e = .returned (.bool true) ∧ Below w.heap.size w w' := by
  cases ho : isOp op with
  | false => exact low_no op hw a b ho w
  | true => cases ha : bcheck a with
    | false => exact low_a op hw a b ho ha w
    | true => cases hb : bcheck b with
      | false => exact low_b op hw a b ho ha hb w
      | true => exact low_yes op hw a b ho ha hb w
end Go.Proofs.Yticjhcbkkkkckaa
