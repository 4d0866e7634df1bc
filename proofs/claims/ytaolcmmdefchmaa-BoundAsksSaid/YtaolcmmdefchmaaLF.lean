/- Bounds: the law on known numbers. -/
import Derived.Test.YtaolcmmdefchmaaLE
namespace Go.Proofs.Ytaolcmmdefchmaa
open Go.RowKit
attribute [local go_sem] b_and b_or b_xor b_andNot b_low b_top b_most b_signed b_unsigned b_zero b_eq s_eq b_nzero b_neq s_neq b_max b_min s_max s_min
attribute [local go_sem ↓] Go.wp_at_zero Go.wp_at_succ

/-- so many bounds boxed, all else as it was -/
structure St (w W : World) (l : List (Nat × Bd)) : Prop where
  low : Below w.heap.size w W
  box : ∀ p, p ∈ l → Box W p.1 (bv p.2)
theorem St.start (w : World) : St w w [] := ⟨Below.refl _ _, fun p hp => by cases hp⟩
theorem St.next {w W W' : World} {l : List (Nat × Bd)} (h : St w W l) (hb : Below W.heap.size W W') : St w W' l := ⟨bnext h.low hb, fun p hp => (h.box p hp).next hb⟩
theorem St.drew {w W : World} {l : List (Nat × Bd)} (h : St w W l) : St w W.drew l := h.next (Below.refl _ _).drew
theorem St.new {w W : World} {l : List (Nat × Bd)} (h : St w W l) (c : Bd) (t : TypeId) : St w (W.alloc (.cells #[.int .u64 (U c.ul), .int .u64 (U c.uh), .int .i64 (S c.sl), .int .i64 (S c.sh), .int .u64 (U c.t.v), .int .u64 (U c.t.m)] t)) ((W.heap.size, c) :: l) :=
  ⟨h.low.alloc h.low.size _, fun p hp => by
    rcases List.mem_cons.1 hp with rfl | hp
    · exact Box.new W (bv c) t rfl
    · exact (h.box p hp).alloc _⟩
theorem St.weak {w W : World} {q : Nat × Bd} {l : List (Nat × Bd)} (h : St w W (q :: l)) : St w W l := ⟨h.low, fun p hp => h.box p (List.mem_cons_of_mem _ hp)⟩
theorem St.f1 {w W : World} {n : Nat} {a : Bd} {l : List (Nat × Bd)} (h : St w W ((n, a) :: l)) : (W.cell? ⟨n, 0, none⟩ = some (.int .u64 (U a.ul)) ∧ W.cell? ⟨n, 1, none⟩ = some (.int .u64 (U a.uh)) ∧ W.cell? ⟨n, 2, none⟩ = some (.int .i64 (S a.sl)) ∧ W.cell? ⟨n, 3, none⟩ = some (.int .i64 (S a.sh)) ∧ W.cell? ⟨n, 4, none⟩ = some (.int .u64 (U a.t.v)) ∧ W.cell? ⟨n, 5, none⟩ = some (.int .u64 (U a.t.m))) ∧ n < W.heap.size := ⟨(h.box (n, a) List.mem_cons_self).six.1, (h.box (n, a) List.mem_cons_self).lt⟩
theorem St.f2 {w W : World} {n m : Nat} {a b : Bd} {l : List (Nat × Bd)} (h : St w W ((n, a) :: (m, b) :: l)) : ((W.cell? ⟨n, 0, none⟩ = some (.int .u64 (U a.ul)) ∧ W.cell? ⟨n, 1, none⟩ = some (.int .u64 (U a.uh)) ∧ W.cell? ⟨n, 2, none⟩ = some (.int .i64 (S a.sl)) ∧ W.cell? ⟨n, 3, none⟩ = some (.int .i64 (S a.sh)) ∧ W.cell? ⟨n, 4, none⟩ = some (.int .u64 (U a.t.v)) ∧ W.cell? ⟨n, 5, none⟩ = some (.int .u64 (U a.t.m))) ∧ n < W.heap.size) ∧ (W.cell? ⟨m, 0, none⟩ = some (.int .u64 (U b.ul)) ∧ W.cell? ⟨m, 1, none⟩ = some (.int .u64 (U b.uh)) ∧ W.cell? ⟨m, 2, none⟩ = some (.int .i64 (S b.sl)) ∧ W.cell? ⟨m, 3, none⟩ = some (.int .i64 (S b.sh)) ∧ W.cell? ⟨m, 4, none⟩ = some (.int .u64 (U b.t.v)) ∧ W.cell? ⟨m, 5, none⟩ = some (.int .u64 (U b.t.m))) ∧ m < W.heap.size := ⟨h.f1, h.weak.f1⟩
theorem St.f3 {w W : World} {n m k : Nat} {a b c : Bd} {l : List (Nat × Bd)} (h : St w W ((n, a) :: (m, b) :: (k, c) :: l)) : ((W.cell? ⟨n, 0, none⟩ = some (.int .u64 (U a.ul)) ∧ W.cell? ⟨n, 1, none⟩ = some (.int .u64 (U a.uh)) ∧ W.cell? ⟨n, 2, none⟩ = some (.int .i64 (S a.sl)) ∧ W.cell? ⟨n, 3, none⟩ = some (.int .i64 (S a.sh)) ∧ W.cell? ⟨n, 4, none⟩ = some (.int .u64 (U a.t.v)) ∧ W.cell? ⟨n, 5, none⟩ = some (.int .u64 (U a.t.m))) ∧ n < W.heap.size) ∧ ((W.cell? ⟨m, 0, none⟩ = some (.int .u64 (U b.ul)) ∧ W.cell? ⟨m, 1, none⟩ = some (.int .u64 (U b.uh)) ∧ W.cell? ⟨m, 2, none⟩ = some (.int .i64 (S b.sl)) ∧ W.cell? ⟨m, 3, none⟩ = some (.int .i64 (S b.sh)) ∧ W.cell? ⟨m, 4, none⟩ = some (.int .u64 (U b.t.v)) ∧ W.cell? ⟨m, 5, none⟩ = some (.int .u64 (U b.t.m))) ∧ m < W.heap.size) ∧ (W.cell? ⟨k, 0, none⟩ = some (.int .u64 (U c.ul)) ∧ W.cell? ⟨k, 1, none⟩ = some (.int .u64 (U c.uh)) ∧ W.cell? ⟨k, 2, none⟩ = some (.int .i64 (S c.sl)) ∧ W.cell? ⟨k, 3, none⟩ = some (.int .i64 (S c.sh)) ∧ W.cell? ⟨k, 4, none⟩ = some (.int .u64 (U c.t.v)) ∧ W.cell? ⟨k, 5, none⟩ = some (.int .u64 (U c.t.m))) ∧ k < W.heap.size := ⟨h.f1, h.weak.f2⟩
theorem St.f4 {w W : World} {n m k j : Nat} {a b c d : Bd} {l : List (Nat × Bd)} (h : St w W ((n, a) :: (m, b) :: (k, c) :: (j, d) :: l)) : ((W.cell? ⟨n, 0, none⟩ = some (.int .u64 (U a.ul)) ∧ W.cell? ⟨n, 1, none⟩ = some (.int .u64 (U a.uh)) ∧ W.cell? ⟨n, 2, none⟩ = some (.int .i64 (S a.sl)) ∧ W.cell? ⟨n, 3, none⟩ = some (.int .i64 (S a.sh)) ∧ W.cell? ⟨n, 4, none⟩ = some (.int .u64 (U a.t.v)) ∧ W.cell? ⟨n, 5, none⟩ = some (.int .u64 (U a.t.m))) ∧ n < W.heap.size) ∧ ((W.cell? ⟨m, 0, none⟩ = some (.int .u64 (U b.ul)) ∧ W.cell? ⟨m, 1, none⟩ = some (.int .u64 (U b.uh)) ∧ W.cell? ⟨m, 2, none⟩ = some (.int .i64 (S b.sl)) ∧ W.cell? ⟨m, 3, none⟩ = some (.int .i64 (S b.sh)) ∧ W.cell? ⟨m, 4, none⟩ = some (.int .u64 (U b.t.v)) ∧ W.cell? ⟨m, 5, none⟩ = some (.int .u64 (U b.t.m))) ∧ m < W.heap.size) ∧ ((W.cell? ⟨k, 0, none⟩ = some (.int .u64 (U c.ul)) ∧ W.cell? ⟨k, 1, none⟩ = some (.int .u64 (U c.uh)) ∧ W.cell? ⟨k, 2, none⟩ = some (.int .i64 (S c.sl)) ∧ W.cell? ⟨k, 3, none⟩ = some (.int .i64 (S c.sh)) ∧ W.cell? ⟨k, 4, none⟩ = some (.int .u64 (U c.t.v)) ∧ W.cell? ⟨k, 5, none⟩ = some (.int .u64 (U c.t.m))) ∧ k < W.heap.size) ∧ (W.cell? ⟨j, 0, none⟩ = some (.int .u64 (U d.ul)) ∧ W.cell? ⟨j, 1, none⟩ = some (.int .u64 (U d.uh)) ∧ W.cell? ⟨j, 2, none⟩ = some (.int .i64 (S d.sl)) ∧ W.cell? ⟨j, 3, none⟩ = some (.int .i64 (S d.sh)) ∧ W.cell? ⟨j, 4, none⟩ = some (.int .u64 (U d.t.v)) ∧ W.cell? ⟨j, 5, none⟩ = some (.int .u64 (U d.t.m))) ∧ j < W.heap.size := ⟨h.f1, h.weak.f3⟩
theorem bvalue_const (x : B) : bvalue (bconst x) = (x, true) := by unfold bvalue bconst; rw [if_pos rfl]
set_option maxRecDepth 100000 in
set_option maxHeartbeats 4000000 in
theorem const_law (x y : B) (w : World) : Calls Try.prog 3 #[.int .u64 (U x), .int .u64 (U y)] w fun e w' => e = .returned (.bool true) ∧ Below w.heap.size w w' := by
  have HN := Lib.hid (St.start w)
  have HC := Lib.hid (fun W => bconst_any x W)
  have HV := Lib.hid (fun W => bvalue_any (bconst x) W)
  rw [bvalue_const] at HV
  have HT := Lib.hid (fun W => btidy_any (bconst x) W)
  rw [tidy_const] at HT
  simp only [tidyV] at HT
  have HO := Lib.hid (fun W => btidy_any (bone x) W)
  rw [tidy_one] at HO
  simp only [tidyV, bone] at HO
  have HA := Lib.hid (fun W => bany_any W)
  have HW := Lib.hid (fun W => bwithin_any bany (bconst x) W)
  rw [any_within] at HW
  have HJ := Lib.hid (fun W => bjoin_any (bconst x) (bconst x) W)
  rw [join_const] at HJ
  have hi := const_in x y
  have he := eqD (bconst x) (bconst x)
  rw [decide_eq_true (rfl : bconst x = bconst x)] at he
  generalize bconst x = c at *
  generalize bany = ca at *
  go_enter Try.func3, Try.ntmps3
  go_wp2_with (first
    | (go_at_call 10; (with_reducible refine (HC.out _).mono ?_); rintro e w1 ⟨rfl, hb⟩; have H' := Lib.hid ((HN.out.next hb).new c 26); clear hb HN HC; have HN := H'; clear H'; have F := HN.out.f1)
    | (go_at_call 11; (with_reducible refine (HV.out _).mono ?_); rintro e w2 ⟨rfl, hb⟩; have H' := Lib.hid (HN.out.next hb); clear hb HN F HV; have HN := H'; clear H'; have F := HN.out.f1)
    | (go_at_call 12; (with_reducible refine (HT.out _).mono ?_); rintro e w3 ⟨rfl, hb⟩; have H' := Lib.hid ((HN.out.next hb).new c 26); clear hb HN F HT; have HN := H'; clear H'; have F := HN.out.f2)
    | (go_at_call 13; (with_reducible refine (HA.out _).mono ?_); rintro e w4 ⟨rfl, hb⟩; have H' := Lib.hid ((HN.out.next hb)); clear hb HN F; have HN := H'; clear H')
    | (go_at_call 12; (with_reducible refine (HO.out _).mono ?_); rintro e w5 ⟨rfl, hb⟩; have H' := Lib.hid ((HN.out.next (bl1 hb).1).new c 26); clear hb HN HO; have HN := H'; clear H'; have F := HN.out.f3))
  go_region_held3 (fun W => ((W.cell? ⟨w5.heap.size, 0, none⟩ = some (.int .u64 (U c.ul)) ∧ W.cell? ⟨w5.heap.size, 1, none⟩ = some (.int .u64 (U c.uh)) ∧ W.cell? ⟨w5.heap.size, 2, none⟩ = some (.int .i64 (S c.sl)) ∧ W.cell? ⟨w5.heap.size, 3, none⟩ = some (.int .i64 (S c.sh)) ∧ W.cell? ⟨w5.heap.size, 4, none⟩ = some (.int .u64 (U c.t.v)) ∧ W.cell? ⟨w5.heap.size, 5, none⟩ = some (.int .u64 (U c.t.m))) ∧ w5.heap.size < W.heap.size) ∧ ((W.cell? ⟨w3.heap.size, 0, none⟩ = some (.int .u64 (U c.ul)) ∧ W.cell? ⟨w3.heap.size, 1, none⟩ = some (.int .u64 (U c.uh)) ∧ W.cell? ⟨w3.heap.size, 2, none⟩ = some (.int .i64 (S c.sl)) ∧ W.cell? ⟨w3.heap.size, 3, none⟩ = some (.int .i64 (S c.sh)) ∧ W.cell? ⟨w3.heap.size, 4, none⟩ = some (.int .u64 (U c.t.v)) ∧ W.cell? ⟨w3.heap.size, 5, none⟩ = some (.int .u64 (U c.t.m))) ∧ w3.heap.size < W.heap.size) ∧ (W.cell? ⟨w1.heap.size, 0, none⟩ = some (.int .u64 (U c.ul)) ∧ W.cell? ⟨w1.heap.size, 1, none⟩ = some (.int .u64 (U c.uh)) ∧ W.cell? ⟨w1.heap.size, 2, none⟩ = some (.int .i64 (S c.sl)) ∧ W.cell? ⟨w1.heap.size, 3, none⟩ = some (.int .i64 (S c.sh)) ∧ W.cell? ⟨w1.heap.size, 4, none⟩ = some (.int .u64 (U c.t.v)) ∧ W.cell? ⟨w1.heap.size, 5, none⟩ = some (.int .u64 (U c.t.m))) ∧ w1.heap.size < W.heap.size)
    (first | with_reducible exact F | with_reducible exact HN.out.drew.f3)
    (first
    | (go_at_call 14; (with_reducible refine (bin_any _ _ _).mono ?_); rintro e w9 ⟨rfl, hb⟩; (first | have H' := Lib.hid (HN.out.next hb) | have H' := Lib.hid (HN.out.drew.next hb)); clear hb HN F; have HN := H'; clear H'; have F := HN.out.f3)
    | (go_at_call 13; (with_reducible refine (HA.out _).mono ?_); rintro e w9 ⟨rfl, hb⟩; (first | have H' := Lib.hid (HN.out.next hb) | have H' := Lib.hid (HN.out.drew.next hb)); clear hb HN F; have HN := H'; clear H'; have F := HN.out.f3)
    | (go_at_call 15; (with_reducible refine (HW.out _).mono ?_); rintro e w9 ⟨rfl, hb⟩; (first | have H' := Lib.hid (HN.out.next hb) | have H' := Lib.hid (HN.out.drew.next hb)); clear hb HN F; have HN := H'; clear H'; have F := HN.out.f3)
    | (go_at_call 16; (with_reducible refine (HJ.out _).mono ?_); rintro e w9 ⟨rfl, hb⟩; (first | have H' := Lib.hid (HN.out.next hb) | have H' := Lib.hid (HN.out.drew.next hb)); clear hb HN F; have HN := H'; clear H'; have F := HN.out.f3)
    | (go_at_call 17; (with_reducible refine (heads_any _).mono ?_); rintro e w9 ⟨rfl, hb⟩; (first | have H' := Lib.hid (HN.out.next hb) | have H' := Lib.hid (HN.out.drew.next hb)); clear hb HN F; have HN := H'; clear H'; have F := HN.out.f3))
  all_goals
    go_wp2
    go_ret
    exact ⟨rfl, HN.out.low⟩
end Go.Proofs.Ytaolcmmdefchmaa
