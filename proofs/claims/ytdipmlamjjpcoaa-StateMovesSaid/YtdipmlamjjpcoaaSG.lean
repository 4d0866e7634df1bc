/- States: the document's own answer on what is loaded. -/
import Derived.Test.YtdipmlamjjpcoaaGS
namespace Go.Proofs.Ytdipmlamjjpcoaa
open Go.RowKit
attribute [local go_sem] b_and b_or b_xor b_andNot b_low b_top b_most b_signed b_unsigned b_zero b_eq s_eq b_nzero b_neq s_neq b_max b_min s_max s_min
attribute [local go_sem ↓] Go.wp_at_zero Go.wp_at_succ

theorem Box.eight {W : World} {n : Nat} {v0 v1 v2 v3 v4 v5 v6 v7 : Value} (h : Box W n [v0, v1, v2, v3, v4, v5, v6, v7]) :
    (W.cell? ⟨n, 0, none⟩ = some v0 ∧ W.cell? ⟨n, 1, none⟩ = some v1 ∧ W.cell? ⟨n, 2, none⟩ = some v2 ∧ W.cell? ⟨n, 3, none⟩ = some v3 ∧ W.cell? ⟨n, 4, none⟩ = some v4 ∧ W.cell? ⟨n, 5, none⟩ = some v5 ∧ W.cell? ⟨n, 6, none⟩ = some v6 ∧ W.cell? ⟨n, 7, none⟩ = some v7) ∧ (∀ i, W.frozen? ⟨n, i, none⟩ = false) ∧ n < W.heap.size :=
  ⟨⟨h.cell 0 _ rfl, h.cell 1 _ rfl, h.cell 2 _ rfl, h.cell 3 _ rfl, h.cell 4 _ rfl, h.cell 5 _ rfl, h.cell 6 _ rfl, h.cell 7 _ rfl⟩, h.frozen, h.lt⟩
theorem Box.three {W : World} {n : Nat} {v0 v1 v2 : Value} (h : Box W n [v0, v1, v2]) :
    (W.cell? ⟨n, 0, none⟩ = some v0 ∧ W.cell? ⟨n, 1, none⟩ = some v1 ∧ W.cell? ⟨n, 2, none⟩ = some v2) ∧ (∀ i, W.frozen? ⟨n, i, none⟩ = false) ∧ n < W.heap.size :=
  ⟨⟨h.cell 0 _ rfl, h.cell 1 _ rfl, h.cell 2 _ rfl⟩, h.frozen, h.lt⟩
def zk : List Value := [.int .i64 0, .int .u64 0, .int .u64 0, .int .i64 0, .int .i64 0, .int .u64 0, .int .u64 0, .int .i64 0]
/-- a state in its box, the answer's place still empty -/
structure Lo (w W : World) (v0 v1 v2 : Value) : Prop where
  low : Below w.heap.size w W
  bx : Box W w.heap.size [v0, v1, v2]
  fr : Box W (w.heap.size + 1) zk
theorem Lo.next {w W W' : World} {v0 v1 v2 : Value} (h : Lo w W v0 v1 v2) (hb : Below W.heap.size W W') : Lo w W' v0 v1 v2 := ⟨bnext h.low hb, h.bx.next hb, h.fr.next hb⟩
theorem Lo.new (w : World) (v0 v1 v2 : Value) (t t' : TypeId) : Lo w ((w.alloc (.cells #[v0, v1, v2] t)).alloc (.cells #[.int .i64 0, .int .u64 0, .int .u64 0, .int .i64 0, .int .i64 0, .int .u64 0, .int .u64 0, .int .i64 0] t')) v0 v1 v2 :=
  ⟨b2, (Box.new w [v0, v1, v2] t rfl).alloc _, Box.new (w.alloc _) zk t' (World.size_alloc _ _)⟩
theorem Lo.f {w W : World} {v0 v1 v2 : Value} (h : Lo w W v0 v1 v2) :
    ((W.cell? ⟨w.heap.size, 0, none⟩ = some v0 ∧ W.cell? ⟨w.heap.size, 1, none⟩ = some v1 ∧ W.cell? ⟨w.heap.size, 2, none⟩ = some v2) ∧ (∀ i, W.frozen? ⟨w.heap.size, i, none⟩ = false) ∧ w.heap.size < W.heap.size) ∧
    (W.cell? ⟨w.heap.size + 1, 0, none⟩ = some (.int .i64 0) ∧ W.cell? ⟨w.heap.size + 1, 1, none⟩ = some (.int .u64 0) ∧ W.cell? ⟨w.heap.size + 1, 2, none⟩ = some (.int .u64 0) ∧ W.cell? ⟨w.heap.size + 1, 3, none⟩ = some (.int .i64 0) ∧ W.cell? ⟨w.heap.size + 1, 4, none⟩ = some (.int .i64 0) ∧ W.cell? ⟨w.heap.size + 1, 5, none⟩ = some (.int .u64 0) ∧ W.cell? ⟨w.heap.size + 1, 6, none⟩ = some (.int .u64 0) ∧ W.cell? ⟨w.heap.size + 1, 7, none⟩ = some (.int .i64 0)) ∧ (∀ i, W.frozen? ⟨w.heap.size + 1, i, none⟩ = false) ∧ w.heap.size + 1 < W.heap.size := ⟨h.bx.three, h.fr.eight⟩
theorem load_none {s : Ab} {low high n : Int} (h : placesS s low high n = false ∨ readyS s low (high + n) = false) : loadS s low high n = (kzero, false) := by
  unfold loadS
  rw [if_neg]
  rw [Bool.and_eq_true]
  rintro ⟨h1, h2⟩
  rcases h with h | h
  · rw [h] at h1; cases h1
  · rw [h] at h2; cases h2
theorem load_yes {s : Ab} {low high n : Int} (h1 : placesS s low high n = true) (h2 : readyS s low (high + n) = true) : loadS s low high n = (if wholeB s low high n = true then rg s.saved (low.toNat / 8) else ⟨1, size11 n, 0⟩, true) := by
  unfold loadS
  rw [if_pos (by rw [h1, h2]; rfl)]
theorem whole_no {s : Ab} {low high n : Int} (h : ¬ (low = high ∧ n = 8 ∧ low % 8 = 0)) : wholeB s low high n = false := by
  unfold wholeB; rw [decide_eq_false h, Bool.false_and]
set_option maxRecDepth 100000 in
set_option maxHeartbeats 1000000 in
theorem rload_no1 (A : AbA) (s : Ab) (low high n : Int) (w : World) (h : AbAt w A s) (hp : placesS s low high n = false) : Calls Try.prog 16 #[.agg #[.slice A.p1 s.regs.length A.c1, .slice A.p2 s.set.length A.c2, .slice A.p3 s.saved.length A.c3], .int .i64 low, .int .i64 high, .int .i64 n] w fun e w' => e = .returned (.tuple #[.agg #[.int .i64 kzero.kind, .int .u64 (U kzero.num.ul), .int .u64 (U kzero.num.uh), .int .i64 (S kzero.num.sl), .int .i64 (S kzero.num.sh), .int .u64 (U kzero.num.t.v), .int .u64 (U kzero.num.t.m), .int .i64 kzero.reg], .bool false]) ∧ Below w.heap.size w w' := by
  have HP := Lib.hid (fun (W : World) (hb : Below w.heap.size w W) => rplaces_any A s low high n W (h.below hb))
  have HR := Lib.hid (fun (W : World) (hb : Below w.heap.size w W) => rready_any A s low (high + n) W (h.below hb))
  rw [hp] at HP
  clear hp HR h
  generalize s.regs.length = N1 at *
  generalize s.set.length = N2 at *
  generalize s.saved.length = N3 at *
  show Calls Try.prog 16 _ _ fun e w' => e = .returned (.tuple #[.agg #[.int .i64 0, .int .u64 0, .int .u64 0, .int .i64 0, .int .i64 0, .int .u64 0, .int .u64 0, .int .i64 0], .bool false]) ∧ _
  go_enter Try.func16, Try.ntmps16
  go_wp2_with (first
    | (go_at_call 41; (with_reducible refine (HP.out _ b2).mono ?_); rintro e w1 ⟨rfl, hb⟩; have HN := Lib.hid ((Lo.new w _ _ _ _ _).next hb); clear hb; have F := HN.out.f))
  exact bodyPost_ret (v := .tuple #[.agg #[.int .i64 0, .int .u64 0, .int .u64 0, .int .i64 0, .int .i64 0, .int .u64 0, .int .u64 0, .int .i64 0], .bool false]) (by simp [results, Try.results16, go_sem, F]) rfl ⟨rfl, by repeat (first | with_reducible exact HN.out.low | with_reducible refine Below.setCell ?_ (by first | (simp; omega) | simp) _)⟩
set_option maxRecDepth 100000 in
set_option maxHeartbeats 1000000 in
theorem rload_no2 (A : AbA) (s : Ab) (low high n : Int) (w : World) (h : AbAt w A s) (hp : placesS s low high n = true) (hr : readyS s low (high + n) = false) : Calls Try.prog 16 #[.agg #[.slice A.p1 s.regs.length A.c1, .slice A.p2 s.set.length A.c2, .slice A.p3 s.saved.length A.c3], .int .i64 low, .int .i64 high, .int .i64 n] w fun e w' => e = .returned (.tuple #[.agg #[.int .i64 kzero.kind, .int .u64 (U kzero.num.ul), .int .u64 (U kzero.num.uh), .int .i64 (S kzero.num.sl), .int .i64 (S kzero.num.sh), .int .u64 (U kzero.num.t.v), .int .u64 (U kzero.num.t.m), .int .i64 kzero.reg], .bool false]) ∧ Below w.heap.size w w' := by
  have HP := Lib.hid (fun (W : World) (hb : Below w.heap.size w W) => rplaces_any A s low high n W (h.below hb))
  have HR := Lib.hid (fun (W : World) (hb : Below w.heap.size w W) => rready_any A s low (high + n) W (h.below hb))
  obtain ⟨hc, q1, q2, q3, q4, q5⟩ := places_iff.1 hp
  rw [hp] at HP
  rw [hr] at HR
  clear hp hr hc h
  generalize s.regs.length = N1 at *
  generalize s.set.length = N2 at *
  generalize s.saved.length = N3 at *
  show Calls Try.prog 16 _ _ fun e w' => e = .returned (.tuple #[.agg #[.int .i64 0, .int .u64 0, .int .u64 0, .int .i64 0, .int .i64 0, .int .u64 0, .int .u64 0, .int .i64 0], .bool false]) ∧ _
  go_enter Try.func16, Try.ntmps16
  go_wp2_with (first
    | (go_at_call 22; (with_reducible refine (HR.out _ HN.out.low).mono ?_); rintro e w2 ⟨rfl, hb⟩; have H' := Lib.hid (HN.out.next hb); clear hb HN F; have HN := H'; clear H'; have F := HN.out.f)
    | (go_at_call 41; (with_reducible refine (HP.out _ b2).mono ?_); rintro e w1 ⟨rfl, hb⟩; have HN := Lib.hid ((Lo.new w _ _ _ _ _).next hb); clear hb; have F := HN.out.f))
  exact bodyPost_ret (v := .tuple #[.agg #[.int .i64 0, .int .u64 0, .int .u64 0, .int .i64 0, .int .i64 0, .int .u64 0, .int .u64 0, .int .i64 0], .bool false]) (by simp [results, Try.results16, go_sem, F]) rfl ⟨rfl, by repeat (first | with_reducible exact HN.out.low | with_reducible refine Below.setCell ?_ (by first | (simp; omega) | simp) _)⟩
set_option maxRecDepth 100000 in
set_option maxHeartbeats 1000000 in
theorem rload_n1 (A : AbA) (s : Ab) (low high n : Int) (w : World) (h : AbAt w A s) (hp : placesS s low high n = true) (hr : readyS s low (high + n) = true) (h1 : ¬ low = high) (m : Bd) (hm : size11 n = m) : Calls Try.prog 16 #[.agg #[.slice A.p1 s.regs.length A.c1, .slice A.p2 s.set.length A.c2, .slice A.p3 s.saved.length A.c3], .int .i64 low, .int .i64 high, .int .i64 n] w fun e w' => e = .returned (.tuple #[.agg #[.int .i64 1, .int .u64 (U m.ul), .int .u64 (U m.uh), .int .i64 (S m.sl), .int .i64 (S m.sh), .int .u64 (U m.t.v), .int .u64 (U m.t.m), .int .i64 0], .bool true]) ∧ Below w.heap.size w w' := by
  have HP := Lib.hid (fun (W : World) (hb : Below w.heap.size w W) => rplaces_any A s low high n W (h.below hb))
  have HR := Lib.hid (fun (W : World) (hb : Below w.heap.size w W) => rready_any A s low (high + n) W (h.below hb))
  obtain ⟨hc, q1, q2, q3, q4, q5⟩ := places_iff.1 hp
  have HZ := Lib.hid (fun W => rbsize_any n W)
  rw [show bsize n = m from hm] at HZ
  rw [hp] at HP
  rw [hr] at HR
  clear hp hr hc h hm
  generalize s.regs.length = N1 at *
  generalize s.set.length = N2 at *
  generalize s.saved.length = N3 at *
  go_enter Try.func16, Try.ntmps16
  go_wp2_with (first
    | (go_at_call 13; (with_reducible refine (HZ.out _).mono ?_); rintro e w3 ⟨rfl, hb⟩; have H' := Lib.hid (HN.out.next hb); clear hb HN F; have HN := H'; clear H'; have F := HN.out.f)
    | (go_at_call 22; (with_reducible refine (HR.out _ HN.out.low).mono ?_); rintro e w2 ⟨rfl, hb⟩; have H' := Lib.hid (HN.out.next hb); clear hb HN F; have HN := H'; clear H'; have F := HN.out.f)
    | (go_at_call 41; (with_reducible refine (HP.out _ b2).mono ?_); rintro e w1 ⟨rfl, hb⟩; have HN := Lib.hid ((Lo.new w _ _ _ _ _).next hb); clear hb; have F := HN.out.f))
  exact bodyPost_ret (v := .tuple #[.agg #[.int .i64 1, .int .u64 (U m.ul), .int .u64 (U m.uh), .int .i64 (S m.sl), .int .i64 (S m.sh), .int .u64 (U m.t.v), .int .u64 (U m.t.m), .int .i64 0], .bool true]) (by simp [results, Try.results16, go_sem, F]) rfl ⟨rfl, by repeat (first | with_reducible exact HN.out.low | with_reducible refine Below.setCell ?_ (by first | (simp; omega) | simp) _)⟩
set_option maxRecDepth 100000 in
set_option maxHeartbeats 1000000 in
theorem rload_n2 (A : AbA) (s : Ab) (low n : Int) (w : World) (h : AbAt w A s) (hp : placesS s low low n = true) (hr : readyS s low (low + n) = true) (h1 : ¬ n = 8) (m : Bd) (hm : size11 n = m) : Calls Try.prog 16 #[.agg #[.slice A.p1 s.regs.length A.c1, .slice A.p2 s.set.length A.c2, .slice A.p3 s.saved.length A.c3], .int .i64 low, .int .i64 low, .int .i64 n] w fun e w' => e = .returned (.tuple #[.agg #[.int .i64 1, .int .u64 (U m.ul), .int .u64 (U m.uh), .int .i64 (S m.sl), .int .i64 (S m.sh), .int .u64 (U m.t.v), .int .u64 (U m.t.m), .int .i64 0], .bool true]) ∧ Below w.heap.size w w' := by
  have HP := Lib.hid (fun (W : World) (hb : Below w.heap.size w W) => rplaces_any A s low low n W (h.below hb))
  have HR := Lib.hid (fun (W : World) (hb : Below w.heap.size w W) => rready_any A s low (low + n) W (h.below hb))
  obtain ⟨hc, q1, q2, q3, q4, q5⟩ := places_iff.1 hp
  have HZ := Lib.hid (fun W => rbsize_any n W)
  rw [show bsize n = m from hm] at HZ
  rw [hp] at HP
  rw [hr] at HR
  clear hp hr hc h hm
  generalize s.regs.length = N1 at *
  generalize s.set.length = N2 at *
  generalize s.saved.length = N3 at *
  go_enter Try.func16, Try.ntmps16
  go_wp2_with (first
    | (go_at_call 13; (with_reducible refine (HZ.out _).mono ?_); rintro e w3 ⟨rfl, hb⟩; have H' := Lib.hid (HN.out.next hb); clear hb HN F; have HN := H'; clear H'; have F := HN.out.f)
    | (go_at_call 22; (with_reducible refine (HR.out _ HN.out.low).mono ?_); rintro e w2 ⟨rfl, hb⟩; have H' := Lib.hid (HN.out.next hb); clear hb HN F; have HN := H'; clear H'; have F := HN.out.f)
    | (go_at_call 41; (with_reducible refine (HP.out _ b2).mono ?_); rintro e w1 ⟨rfl, hb⟩; have HN := Lib.hid ((Lo.new w _ _ _ _ _).next hb); clear hb; have F := HN.out.f))
  exact bodyPost_ret (v := .tuple #[.agg #[.int .i64 1, .int .u64 (U m.ul), .int .u64 (U m.uh), .int .i64 (S m.sl), .int .i64 (S m.sh), .int .u64 (U m.t.v), .int .u64 (U m.t.m), .int .i64 0], .bool true]) (by simp [results, Try.results16, go_sem, F]) rfl ⟨rfl, by repeat (first | with_reducible exact HN.out.low | with_reducible refine Below.setCell ?_ (by first | (simp; omega) | simp) _)⟩
set_option maxRecDepth 100000 in
set_option maxHeartbeats 1000000 in
theorem rload_n3 (A : AbA) (s : Ab) (low : Int) (w : World) (h : AbAt w A s) (hp : placesS s low low 8 = true) (hr : readyS s low (low + 8) = true) (_h1 : ¬ low.tmod 8 = 0) (h2 : ¬ low % 8 = 0) (m : Bd) (hm : size11 8 = m) : Calls Try.prog 16 #[.agg #[.slice A.p1 s.regs.length A.c1, .slice A.p2 s.set.length A.c2, .slice A.p3 s.saved.length A.c3], .int .i64 low, .int .i64 low, .int .i64 8] w fun e w' => e = .returned (.tuple #[.agg #[.int .i64 1, .int .u64 (U m.ul), .int .u64 (U m.uh), .int .i64 (S m.sl), .int .i64 (S m.sh), .int .u64 (U m.t.v), .int .u64 (U m.t.m), .int .i64 0], .bool true]) ∧ Below w.heap.size w w' := by
  have HP := Lib.hid (fun (W : World) (hb : Below w.heap.size w W) => rplaces_any A s low low 8 W (h.below hb))
  have HR := Lib.hid (fun (W : World) (hb : Below w.heap.size w W) => rready_any A s low (low + 8) W (h.below hb))
  obtain ⟨hc, q1, q2, q3, q4, q5⟩ := places_iff.1 hp
  have HZ := Lib.hid (fun W => rbsize_any 8 W)
  rw [show bsize 8 = m from hm] at HZ
  rw [hp] at HP
  rw [hr] at HR
  clear hp hr hc h hm
  generalize s.regs.length = N1 at *
  generalize s.set.length = N2 at *
  generalize s.saved.length = N3 at *
  go_enter Try.func16, Try.ntmps16
  go_wp2_with (first
    | (go_at_call 13; (with_reducible refine (HZ.out _).mono ?_); rintro e w3 ⟨rfl, hb⟩; have H' := Lib.hid (HN.out.next hb); clear hb HN F; have HN := H'; clear H'; have F := HN.out.f)
    | (go_at_call 22; (with_reducible refine (HR.out _ HN.out.low).mono ?_); rintro e w2 ⟨rfl, hb⟩; have H' := Lib.hid (HN.out.next hb); clear hb HN F; have HN := H'; clear H'; have F := HN.out.f)
    | (go_at_call 41; (with_reducible refine (HP.out _ b2).mono ?_); rintro e w1 ⟨rfl, hb⟩; have HN := Lib.hid ((Lo.new w _ _ _ _ _).next hb); clear hb; have F := HN.out.f))
  exact bodyPost_ret (v := .tuple #[.agg #[.int .i64 1, .int .u64 (U m.ul), .int .u64 (U m.uh), .int .i64 (S m.sl), .int .i64 (S m.sh), .int .u64 (U m.t.v), .int .u64 (U m.t.m), .int .i64 0], .bool true]) (by simp [results, Try.results16, go_sem, F]) rfl ⟨rfl, by repeat (first | with_reducible exact HN.out.low | with_reducible refine Below.setCell ?_ (by first | (simp; omega) | simp) _)⟩
end Go.Proofs.Ytdipmlamjjpcoaa
