/- Known bits: contracts of package tnum and of the document's own answer for it (but for Range). -/
import Derived.Test.YtdipmlamjjpcoaaWA
import Derived.Below
import Derived.Deep.RegionHeld3
import Derived.Deep.DrawnRows
import Derived.Laws.StructEq
namespace Go.Proofs.Ytdipmlamjjpcoaa
open Go.RowKit
attribute [local go_sem] b_and b_or b_xor b_andNot b_low b_top b_most b_signed b_unsigned b_zero b_eq s_eq b_nzero b_neq s_neq b_max b_min s_max s_min
attribute [local go_sem ↓] Go.wp_at_zero Go.wp_at_succ

theorem b1 {w : World} {o : Obj} : Below w.heap.size w (w.alloc o) := (Below.refl _ _).alloc (Nat.le_refl _) _
theorem b2 {w : World} {o1 o2 : Obj} : Below w.heap.size w ((w.alloc o1).alloc o2) := b1.alloc (by simp) _
theorem b3 {w : World} {o1 o2 o3 : Obj} : Below w.heap.size w (((w.alloc o1).alloc o2).alloc o3) := b2.alloc (by simp; omega) _
theorem bnext {w w1 w2 : World} (h : Below w.heap.size w w1) (h2 : Below w1.heap.size w1 w2) : Below w.heap.size w w2 := h.trans (h2.mono h.size)
theorem bdrew {w w1 : World} (h : Below w.drew.heap.size w.drew w1) : Below w.heap.size w w1 := ⟨h.os, h.tape, h.output, h.size, h.block⟩
theorem bdrewA {w w1 : World} {o : Obj} (h : Below (w.alloc o).drew.heap.size (w.alloc o).drew w1) : Below (w.alloc o).heap.size (w.alloc o) w1 := ⟨h.os, h.tape, h.output, h.size, h.block⟩
theorem bdrewA2 {w w1 : World} {o o2 : Obj} (h : Below ((w.alloc o).alloc o2).drew.heap.size ((w.alloc o).alloc o2).drew w1) : Below ((w.alloc o).alloc o2).heap.size ((w.alloc o).alloc o2) w1 := ⟨h.os, h.tape, h.output, h.size, h.block⟩
theorem bdrewA3 {w w1 : World} {o o2 o3 : Obj} (h : Below (((w.alloc o).alloc o2).alloc o3).drew.heap.size (((w.alloc o).alloc o2).alloc o3).drew w1) : Below (((w.alloc o).alloc o2).alloc o3).heap.size (((w.alloc o).alloc o2).alloc o3) w1 := ⟨h.os, h.tape, h.output, h.size, h.block⟩
theorem bdrewN {B : Nat} {a w : World} (h : Below B a w) (n : Nat) : Below B a (w.drewN n) := ⟨h.os, h.tape, h.output, h.size, h.block⟩
theorem bcell {W w1 : World} (hb : Below W.heap.size W w1) : (∀ b o, b < W.heap.size → w1.cell? ⟨b, o, none⟩ = W.cell? ⟨b, o, none⟩) ∧ (∀ b o, b < W.heap.size → w1.frozen? ⟨b, o, none⟩ = W.frozen? ⟨b, o, none⟩) :=
  ⟨fun b o h => hb.cell (p := ⟨b, o, none⟩) h, fun b o h => hb.frozen (p := ⟨b, o, none⟩) h⟩
theorem bl1 {w w1 : World} {o1 : Obj} (h : Below (w.alloc o1).heap.size (w.alloc o1) w1) : Below w.heap.size w w1 ∧ w.heap.size < w1.heap.size := by
  refine ⟨b1.trans (h.mono (by simp)), ?_⟩
  have := h.size; simp at this; omega
theorem bl2 {w w1 : World} {o1 o2 : Obj} (h : Below ((w.alloc o1).alloc o2).heap.size ((w.alloc o1).alloc o2) w1) : Below w.heap.size w w1 ∧ w.heap.size + 1 < w1.heap.size := by
  refine ⟨b2.trans (h.mono (by simp; omega)), ?_⟩
  have := h.size; simp at this; omega
theorem bl3 {w w1 : World} {o1 o2 o3 : Obj} (h : Below (((w.alloc o1).alloc o2).alloc o3).heap.size (((w.alloc o1).alloc o2).alloc o3) w1) : Below w.heap.size w w1 ∧ w.heap.size + 2 < w1.heap.size := by
  refine ⟨b3.trans (h.mono (by simp; omega)), ?_⟩
  have := h.size; simp at this; omega

/-- two words in a block, two blocks of them -/
abbrev Two (n : Nat) (a b : Tn) (W : World) : Prop := W.cell? ⟨n, 0, none⟩ = some (.int .u64 (U a.v)) ∧ W.cell? ⟨n, 1, none⟩ = some (.int .u64 (U a.m)) ∧ W.cell? ⟨n + 1, 0, none⟩ = some (.int .u64 (U b.v)) ∧ W.cell? ⟨n + 1, 1, none⟩ = some (.int .u64 (U b.m))
theorem two_below {n : Nat} {a b : Tn} {W W' : World} (h : Two n a b W) (z : n + 1 < W.heap.size) (hB : Below W.heap.size W W') : Two n a b W' :=
  ⟨(hB.cell (p := ⟨n, 0, none⟩) (by show n < _; omega)).trans h.1, (hB.cell (p := ⟨n, 1, none⟩) (by show n < _; omega)).trans h.2.1, (hB.cell (p := ⟨n + 1, 0, none⟩) z).trans h.2.2.1, (hB.cell (p := ⟨n + 1, 1, none⟩) z).trans h.2.2.2⟩
theorem two_set {n : Nat} {a b : Tn} {W : World} {q : Addr} {u : Value} (h : Two n a b W) (hq : n + 1 < q.block) : Two n a b (W.setCell q u) :=
  ⟨(World.cell?_setCell_other _ _ _ _ (fun e => by subst e; exact absurd hq (by show ¬ (n + 1 < n); omega))).trans h.1, (World.cell?_setCell_other _ _ _ _ (fun e => by subst e; exact absurd hq (by show ¬ (n + 1 < n); omega))).trans h.2.1,
    (World.cell?_setCell_other _ _ _ _ (fun e => by subst e; exact absurd hq (by show ¬ (n + 1 < n + 1); omega))).trans h.2.2.1, (World.cell?_setCell_other _ _ _ _ (fun e => by subst e; exact absurd hq (by show ¬ (n + 1 < n + 1); omega))).trans h.2.2.2⟩
theorem two_set2 {n i j : Nat} {a b : Tn} {W : World} {u u' : Value} (h : Two n a b W) : Two n a b ((W.setCell ⟨n + 1 + 1, i, none⟩ u).setCell ⟨n + 1 + 1, j, none⟩ u') :=
  two_set (two_set h (by show n + 1 < n + 1 + 1; omega)) (by show n + 1 < n + 1 + 1; omega)
theorem heap_new (w : World) (o : Obj) : (w.alloc o).heap[w.heap.size]? = some o := by
  unfold World.alloc; exact Array.getElem?_push_size
theorem Tn.eq_iff {x y : Tn} : x = y ↔ x.v = y.v ∧ x.m = y.m := by
  cases x; cases y; simp
theorem Bd.eq_iff {x y : Bd} : x = y ↔ x.ul = y.ul ∧ x.uh = y.uh ∧ x.sl = y.sl ∧ x.sh = y.sh ∧ x.t.v = y.t.v ∧ x.t.m = y.t.m := by
  cases x; cases y; simp [Tn.eq_iff]
theorem eqT (x y : Tn) (w : World) : (binOp .eql 29 (.agg #[.int .u64 (U x.v), .int .u64 (U x.m)]) (.agg #[.int .u64 (U y.v), .int .u64 (U y.m)])).run Try.prog w = .ok (.bool (decide (x = y))) w := by
  simp [go_sem]
  repeat' split
  all_goals simp_all [Tn.eq_iff]
theorem eqD (x y : Bd) (w : World) : (binOp .eql 31 (.agg #[.int .u64 (U x.ul), .int .u64 (U x.uh), .int .i64 (S x.sl), .int .i64 (S x.sh), .int .u64 (U x.t.v), .int .u64 (U x.t.m)]) (.agg #[.int .u64 (U y.ul), .int .u64 (U y.uh), .int .i64 (S y.sl), .int .i64 (S y.sh), .int .u64 (U y.t.v), .int .u64 (U y.t.m)])).run Try.prog w = .ok (.bool (decide (x = y))) w := by
  simp [go_sem]
  repeat' split
  all_goals simp_all [Bd.eq_iff]
theorem partly_any (v m : B) (w : World) : Calls Try.prog 72 #[.int .u64 (U v), .int .u64 (U m)] w fun e w' => e = .returned (.agg #[.int .u64 (U (tof v m).v), .int .u64 (U (tof v m).m)]) ∧ Below w.heap.size w w' := by
  go_enter Try.func72, Try.ntmps72
  go_wp2
  exact bodyPost_ret (v := .agg #[.int .u64 (U (tof v m).v), .int .u64 (U (tof v m).m)]) (by simp [results, Try.results72, go_sem, tof]) rfl ⟨rfl, b1⟩
theorem tconst_any (x : B) (w : World) : Calls Try.prog 71 #[.int .u64 (U x)] w fun e w' => e = .returned (.agg #[.int .u64 (U (tconst x).v), .int .u64 (U (tconst x).m)]) ∧ Below w.heap.size w w' := by
  go_enter Try.func71, Try.ntmps71
  go_wp2
  exact bodyPost_ret (v := .agg #[.int .u64 (U (tconst x).v), .int .u64 (U (tconst x).m)]) (by simp [results, Try.results71, go_sem, tconst, U_0]) rfl ⟨rfl, b1⟩
theorem rtconst_any (x : B) (w : World) : Calls Try.prog 54 #[.int .u64 (U x)] w fun e w' => e = .returned (.agg #[.int .u64 (U (tconst x).v), .int .u64 (U (tconst x).m)]) ∧ Below w.heap.size w w' := by
  go_enter Try.func54, Try.ntmps54
  go_wp2
  exact bodyPost_ret (v := .agg #[.int .u64 (U (tconst x).v), .int .u64 (U (tconst x).m)]) (by simp [results, Try.results54, go_sem, tconst, U_0]) rfl ⟨rfl, b1⟩
theorem tany_any (w : World) : Calls Try.prog 69 #[] w fun e w' => e = .returned (.agg #[.int .u64 (U banyT.v), .int .u64 (U banyT.m)]) ∧ Below w.heap.size w w' := by
  go_enter Try.func69, Try.ntmps69
  go_wp2
  exact bodyPost_ret (v := .agg #[.int .u64 (U banyT.v), .int .u64 (U banyT.m)]) (by simp [results, Try.results69, go_sem, U_any.1, U_any.2]) rfl ⟨rfl, b1⟩
theorem rtany_any (w : World) : Calls Try.prog 40 #[] w fun e w' => e = .returned (.agg #[.int .u64 (U banyT.v), .int .u64 (U banyT.m)]) ∧ Below w.heap.size w w' := by
  go_enter Try.func40, Try.ntmps40
  go_wp2
  exact bodyPost_ret (v := .agg #[.int .u64 (U banyT.v), .int .u64 (U banyT.m)]) (by simp [results, Try.results40, go_sem, U_any.1, U_any.2]) rfl ⟨rfl, b1⟩
theorem rtcheck_any (t : Tn) (w : World) : Calls Try.prog 52 #[.agg #[.int .u64 (U t.v), .int .u64 (U t.m)]] w fun e w' => e = .returned (.bool (tcheck t)) ∧ Below w.heap.size w w' := by
  go_enter Try.func52, Try.ntmps52
  go_wp2
  go_ret
  exact ⟨rfl, b1⟩
theorem cell_new (w : World) {cs : Array Value} {t : TypeId} {fr : Nat × Nat} {i : Nat} {v : Value} (h : cs[i]? = some v) : (w.alloc (.cells cs t fr)).cell? ⟨w.heap.size, i, none⟩ = some v := by
  simp only [World.cell?, heap_new]
  exact h
theorem two_new (w : World) (a b : Tn) (t t' : TypeId) : Two w.heap.size a b ((w.alloc (.cells #[.int .u64 (U a.v), .int .u64 (U a.m)] t)).alloc (.cells #[.int .u64 (U b.v), .int .u64 (U b.m)] t')) := by
  have e : (w.alloc (.cells #[.int .u64 (U a.v), .int .u64 (U a.m)] t)).heap.size = w.heap.size + 1 := World.size_alloc _ _
  refine ⟨?_, ?_, ?_, ?_⟩
  · rw [World.cell?_alloc_lt _ _ _ (by rw [e]; show w.heap.size < _; omega)]; exact cell_new _ rfl
  · rw [World.cell?_alloc_lt _ _ _ (by rw [e]; show w.heap.size < _; omega)]; exact cell_new _ rfl
  · rw [← e]; exact cell_new _ rfl
  · rw [← e]; exact cell_new _ rfl
theorem two_new3 (w : World) (a b : Tn) (t t' : TypeId) (o : Obj) : Two w.heap.size a b (((w.alloc (.cells #[.int .u64 (U a.v), .int .u64 (U a.m)] t)).alloc (.cells #[.int .u64 (U b.v), .int .u64 (U b.m)] t')).alloc o) :=
  two_below (two_new w a b t t') (by simp) ((Below.refl _ _).alloc (Nat.le_refl _) _)
theorem tcheck_is (t : Tn) : decide (t = tof t.v t.m) = tcheck t := by
  rw [Bool.eq_iff_iff, decide_eq_true_iff, Tn.eq_iff, tcheck_bit]
  constructor
  · rintro ⟨h, -⟩ i hi
    have := bat h i
    rw [tof_v hi] at this
    revert this
    cases t.v.getLsbD i <;> cases t.m.getLsbD i <;> simp
  · intro h
    refine ⟨bext fun i hi => ?_, rfl⟩
    have := h i hi
    rw [tof_v hi]
    revert this
    cases t.v.getLsbD i <;> cases t.m.getLsbD i <;> simp
theorem twithin_is (a b : Tn) : decide (a = tof b.v (a.m ||| b.m)) = twithin a b := by
  rw [Bool.eq_iff_iff, decide_eq_true_iff, Tn.eq_iff, twithin_bit]
  constructor
  · rintro ⟨h, k⟩ i hi
    have h1 := bat h i
    have h2 := bat k i
    rw [tof_v hi, BitVec.getLsbD_or] at h1
    rw [tof_m, BitVec.getLsbD_or] at h2
    revert h1 h2
    cases a.v.getLsbD i <;> cases a.m.getLsbD i <;> cases b.v.getLsbD i <;> cases b.m.getLsbD i <;> simp
  · intro h
    refine ⟨bext fun i hi => ?_, bext fun i hi => ?_⟩
    · have h1 := h i hi
      rw [tof_v hi, BitVec.getLsbD_or]
      revert h1
      cases a.v.getLsbD i <;> cases a.m.getLsbD i <;> cases b.v.getLsbD i <;> cases b.m.getLsbD i <;> simp
    · have h1 := h i hi
      rw [tof_m, BitVec.getLsbD_or]
      revert h1
      cases a.v.getLsbD i <;> cases a.m.getLsbD i <;> cases b.v.getLsbD i <;> cases b.m.getLsbD i <;> simp
theorem tcheck_any (t : Tn) (w : World) : Calls Try.prog 68 #[.agg #[.int .u64 (U t.v), .int .u64 (U t.m)]] w fun e w' => e = .returned (.bool (tcheck t)) ∧ Below w.heap.size w w' := by
  rw [← tcheck_is]
  have he := eqT t (tof t.v t.m)
  go_enter Try.func68, Try.ntmps68
  go_wp2_with fail
  go_region_held3 (fun W => W.cell? ⟨w.heap.size, 0, none⟩ = some (.int .u64 (U t.v)) ∧ W.cell? ⟨w.heap.size, 1, none⟩ = some (.int .u64 (U t.m)))
    (go_keep)
    (first | (go_at_call 72; refine (partly_any _ _ _).mono ?_; rintro e w1 ⟨rfl, hb⟩; have B1 := Lib.hid (bl1 (bdrewA hb)); have K1 := bcell hb; clear hb))
  go_wp2
  go_ret
  exact ⟨rfl, B1.out.1⟩
theorem twithin_any (a b : Tn) (w : World) : Calls Try.prog 70 #[.agg #[.int .u64 (U a.v), .int .u64 (U a.m)], .agg #[.int .u64 (U b.v), .int .u64 (U b.m)]] w fun e w' => e = .returned (.bool (twithin a b)) ∧ Below w.heap.size w w' := by
  rw [← twithin_is]
  have he := eqT a (tof b.v (a.m ||| b.m))
  go_enter Try.func70, Try.ntmps70
  go_wp2_with fail
  go_region_held3 (fun W => W.cell? ⟨w.heap.size, 0, none⟩ = some (.int .u64 (U a.v)) ∧ W.cell? ⟨w.heap.size, 1, none⟩ = some (.int .u64 (U a.m)) ∧ W.cell? ⟨w.heap.size + 1, 0, none⟩ = some (.int .u64 (U b.v)) ∧ W.cell? ⟨w.heap.size + 1, 1, none⟩ = some (.int .u64 (U b.m)))
    (first | with_reducible exact K1 | go_keep)
    (first | (go_at_call 72; refine (partly_any _ _ _).mono ?_; rintro e w1 ⟨rfl, hb⟩; have B1 := Lib.hid (bl2 (bdrewA2 hb)); have K1 := two_below (two_new w a b _ _) (by simp) (bdrewA2 hb); unfold Two at K1; clear hb))
  go_wp2
  go_ret
  exact ⟨rfl, B1.out.1⟩
theorem tin_is (t : Tn) (x : B) : twithin t (tconst x) = tin t x := by
  simp [twithin, tin, tconst]
theorem tin_any (t : Tn) (x : B) (w : World) : Calls Try.prog 64 #[.agg #[.int .u64 (U t.v), .int .u64 (U t.m)], .int .u64 (U x)] w fun e w' => e = .returned (.bool (tin t x)) ∧ Below w.heap.size w w' := by
  rw [← tin_is]
  have HC := Lib.hid (fun W => tconst_any x W)
  have HW := Lib.hid (fun W => twithin_any t (tconst x) W)
  generalize tconst x = y at *
  go_enter Try.func64, Try.ntmps64
  go_wp2_with fail
  go_region_held3 (fun W => W.cell? ⟨w.heap.size, 0, none⟩ = some (.int .u64 (U t.v)) ∧ W.cell? ⟨w.heap.size, 1, none⟩ = some (.int .u64 (U t.m)))
    (go_keep)
    (first
    | (go_at_call 71; refine (HC.out _).mono ?_; rintro e w1 ⟨rfl, hb⟩; have B1 := Lib.hid (bl1 (bdrewA hb)); have K1 := bcell hb; clear hb)
    | (go_at_call 70; refine (HW.out _).mono ?_; rintro e w2 ⟨rfl, hb⟩; have B2 := Lib.hid (bnext B1.out.1 hb); have z1 := B1.out.2; have K2 := bcell hb; clear hb))
  go_wp2
  go_ret
  exact ⟨rfl, B2.out⟩
end Go.Proofs.Ytdipmlamjjpcoaa
