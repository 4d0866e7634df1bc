/- Package arith: Alu, no operation, bounds that may not be; of 64 bits. -/
import Derived.Test.YticjhcbkkkkckaaOJ
import Derived.Test.YticjhcbkkkkckaaOK
import Derived.Test.YticjhcbkkkkckaaNS
import Derived.Deep.RegionHeld3
import Derived.Deep.DeepCutAuto
namespace Go.Proofs.Yticjhcbkkkkckaa
open Go.RowKit Go.Maps
attribute [local go_sem] b_and b_or b_xor b_andNot b_low b_top b_most b_signed b_unsigned b_zero b_eq s_eq b_nzero b_neq s_neq b_max b_min s_max s_min
attribute [local go_sem ↓] Go.wp_at_zero Go.wp_at_succ

theorem Nw.drew {w W : World} {a b : Bd} (h : Nw w W a b) : Nw w W.drew a b := h.next (Below.refl _ _).drew
theorem Nw.ab {w W : World} {a b : Bd} (h : Nw w W a b) : (W.cell? ⟨w.heap.size, 0, none⟩ = some (.int .u64 (U a.ul)) ∧ W.cell? ⟨w.heap.size, 1, none⟩ = some (.int .u64 (U a.uh)) ∧ W.cell? ⟨w.heap.size, 2, none⟩ = some (.int .i64 (S a.sl)) ∧ W.cell? ⟨w.heap.size, 3, none⟩ = some (.int .i64 (S a.sh)) ∧ W.cell? ⟨w.heap.size, 4, none⟩ = some (.int .u64 (U a.t.v)) ∧ W.cell? ⟨w.heap.size, 5, none⟩ = some (.int .u64 (U a.t.m))) ∧ (W.cell? ⟨(w.heap.size + 1), 0, none⟩ = some (.int .u64 (U b.ul)) ∧ W.cell? ⟨(w.heap.size + 1), 1, none⟩ = some (.int .u64 (U b.uh)) ∧ W.cell? ⟨(w.heap.size + 1), 2, none⟩ = some (.int .i64 (S b.sl)) ∧ W.cell? ⟨(w.heap.size + 1), 3, none⟩ = some (.int .i64 (S b.sh)) ∧ W.cell? ⟨(w.heap.size + 1), 4, none⟩ = some (.int .u64 (U b.t.v)) ∧ W.cell? ⟨(w.heap.size + 1), 5, none⟩ = some (.int .u64 (U b.t.m))) ∧ w.heap.size < W.heap.size ∧ w.heap.size + 1 < W.heap.size := ⟨h.fa.six.1, h.fb.six.1, h.fa.lt, h.fb.lt⟩
theorem Nw.far {w W : World} {a b : Bd} {v0 v1 v2 v3 v4 v5 : Value} (h : Nw w W a b) : (((((((W.setCell ⟨w.heap.size + 1 + 1, 0, none⟩ v0).setCell ⟨w.heap.size + 1 + 1, 1, none⟩ v1).setCell ⟨w.heap.size + 1 + 1, 2, none⟩ v2).setCell ⟨w.heap.size + 1 + 1, 3, none⟩ v3).setCell ⟨w.heap.size + 1 + 1, 4, none⟩ v4).setCell ⟨w.heap.size + 1 + 1, 5, none⟩ v5).cell? ⟨w.heap.size, 0, none⟩ = some (.int .u64 (U a.ul)) ∧ ((((((W.setCell ⟨w.heap.size + 1 + 1, 0, none⟩ v0).setCell ⟨w.heap.size + 1 + 1, 1, none⟩ v1).setCell ⟨w.heap.size + 1 + 1, 2, none⟩ v2).setCell ⟨w.heap.size + 1 + 1, 3, none⟩ v3).setCell ⟨w.heap.size + 1 + 1, 4, none⟩ v4).setCell ⟨w.heap.size + 1 + 1, 5, none⟩ v5).cell? ⟨w.heap.size, 1, none⟩ = some (.int .u64 (U a.uh)) ∧ ((((((W.setCell ⟨w.heap.size + 1 + 1, 0, none⟩ v0).setCell ⟨w.heap.size + 1 + 1, 1, none⟩ v1).setCell ⟨w.heap.size + 1 + 1, 2, none⟩ v2).setCell ⟨w.heap.size + 1 + 1, 3, none⟩ v3).setCell ⟨w.heap.size + 1 + 1, 4, none⟩ v4).setCell ⟨w.heap.size + 1 + 1, 5, none⟩ v5).cell? ⟨w.heap.size, 2, none⟩ = some (.int .i64 (S a.sl)) ∧ ((((((W.setCell ⟨w.heap.size + 1 + 1, 0, none⟩ v0).setCell ⟨w.heap.size + 1 + 1, 1, none⟩ v1).setCell ⟨w.heap.size + 1 + 1, 2, none⟩ v2).setCell ⟨w.heap.size + 1 + 1, 3, none⟩ v3).setCell ⟨w.heap.size + 1 + 1, 4, none⟩ v4).setCell ⟨w.heap.size + 1 + 1, 5, none⟩ v5).cell? ⟨w.heap.size, 3, none⟩ = some (.int .i64 (S a.sh)) ∧ ((((((W.setCell ⟨w.heap.size + 1 + 1, 0, none⟩ v0).setCell ⟨w.heap.size + 1 + 1, 1, none⟩ v1).setCell ⟨w.heap.size + 1 + 1, 2, none⟩ v2).setCell ⟨w.heap.size + 1 + 1, 3, none⟩ v3).setCell ⟨w.heap.size + 1 + 1, 4, none⟩ v4).setCell ⟨w.heap.size + 1 + 1, 5, none⟩ v5).cell? ⟨w.heap.size, 4, none⟩ = some (.int .u64 (U a.t.v)) ∧ ((((((W.setCell ⟨w.heap.size + 1 + 1, 0, none⟩ v0).setCell ⟨w.heap.size + 1 + 1, 1, none⟩ v1).setCell ⟨w.heap.size + 1 + 1, 2, none⟩ v2).setCell ⟨w.heap.size + 1 + 1, 3, none⟩ v3).setCell ⟨w.heap.size + 1 + 1, 4, none⟩ v4).setCell ⟨w.heap.size + 1 + 1, 5, none⟩ v5).cell? ⟨w.heap.size, 5, none⟩ = some (.int .u64 (U a.t.m))) ∧ (((((((W.setCell ⟨w.heap.size + 1 + 1, 0, none⟩ v0).setCell ⟨w.heap.size + 1 + 1, 1, none⟩ v1).setCell ⟨w.heap.size + 1 + 1, 2, none⟩ v2).setCell ⟨w.heap.size + 1 + 1, 3, none⟩ v3).setCell ⟨w.heap.size + 1 + 1, 4, none⟩ v4).setCell ⟨w.heap.size + 1 + 1, 5, none⟩ v5).cell? ⟨(w.heap.size + 1), 0, none⟩ = some (.int .u64 (U b.ul)) ∧ ((((((W.setCell ⟨w.heap.size + 1 + 1, 0, none⟩ v0).setCell ⟨w.heap.size + 1 + 1, 1, none⟩ v1).setCell ⟨w.heap.size + 1 + 1, 2, none⟩ v2).setCell ⟨w.heap.size + 1 + 1, 3, none⟩ v3).setCell ⟨w.heap.size + 1 + 1, 4, none⟩ v4).setCell ⟨w.heap.size + 1 + 1, 5, none⟩ v5).cell? ⟨(w.heap.size + 1), 1, none⟩ = some (.int .u64 (U b.uh)) ∧ ((((((W.setCell ⟨w.heap.size + 1 + 1, 0, none⟩ v0).setCell ⟨w.heap.size + 1 + 1, 1, none⟩ v1).setCell ⟨w.heap.size + 1 + 1, 2, none⟩ v2).setCell ⟨w.heap.size + 1 + 1, 3, none⟩ v3).setCell ⟨w.heap.size + 1 + 1, 4, none⟩ v4).setCell ⟨w.heap.size + 1 + 1, 5, none⟩ v5).cell? ⟨(w.heap.size + 1), 2, none⟩ = some (.int .i64 (S b.sl)) ∧ ((((((W.setCell ⟨w.heap.size + 1 + 1, 0, none⟩ v0).setCell ⟨w.heap.size + 1 + 1, 1, none⟩ v1).setCell ⟨w.heap.size + 1 + 1, 2, none⟩ v2).setCell ⟨w.heap.size + 1 + 1, 3, none⟩ v3).setCell ⟨w.heap.size + 1 + 1, 4, none⟩ v4).setCell ⟨w.heap.size + 1 + 1, 5, none⟩ v5).cell? ⟨(w.heap.size + 1), 3, none⟩ = some (.int .i64 (S b.sh)) ∧ ((((((W.setCell ⟨w.heap.size + 1 + 1, 0, none⟩ v0).setCell ⟨w.heap.size + 1 + 1, 1, none⟩ v1).setCell ⟨w.heap.size + 1 + 1, 2, none⟩ v2).setCell ⟨w.heap.size + 1 + 1, 3, none⟩ v3).setCell ⟨w.heap.size + 1 + 1, 4, none⟩ v4).setCell ⟨w.heap.size + 1 + 1, 5, none⟩ v5).cell? ⟨(w.heap.size + 1), 4, none⟩ = some (.int .u64 (U b.t.v)) ∧ ((((((W.setCell ⟨w.heap.size + 1 + 1, 0, none⟩ v0).setCell ⟨w.heap.size + 1 + 1, 1, none⟩ v1).setCell ⟨w.heap.size + 1 + 1, 2, none⟩ v2).setCell ⟨w.heap.size + 1 + 1, 3, none⟩ v3).setCell ⟨w.heap.size + 1 + 1, 4, none⟩ v4).setCell ⟨w.heap.size + 1 + 1, 5, none⟩ v5).cell? ⟨(w.heap.size + 1), 5, none⟩ = some (.int .u64 (U b.t.m))) ∧ w.heap.size < ((((((W.setCell ⟨w.heap.size + 1 + 1, 0, none⟩ v0).setCell ⟨w.heap.size + 1 + 1, 1, none⟩ v1).setCell ⟨w.heap.size + 1 + 1, 2, none⟩ v2).setCell ⟨w.heap.size + 1 + 1, 3, none⟩ v3).setCell ⟨w.heap.size + 1 + 1, 4, none⟩ v4).setCell ⟨w.heap.size + 1 + 1, 5, none⟩ v5).heap.size ∧ w.heap.size + 1 < ((((((W.setCell ⟨w.heap.size + 1 + 1, 0, none⟩ v0).setCell ⟨w.heap.size + 1 + 1, 1, none⟩ v1).setCell ⟨w.heap.size + 1 + 1, 2, none⟩ v2).setCell ⟨w.heap.size + 1 + 1, 3, none⟩ v3).setCell ⟨w.heap.size + 1 + 1, 4, none⟩ v4).setCell ⟨w.heap.size + 1 + 1, 5, none⟩ v5).heap.size :=
  have fa := h.fa.far6 (n := w.heap.size + 1 + 1) (u0 := v0) (u1 := v1) (u2 := v2) (u3 := v3) (u4 := v4) (u5 := v5) (by omega)
  have fb := h.fb.far6 (n := w.heap.size + 1 + 1) (u0 := v0) (u1 := v1) (u2 := v2) (u3 := v3) (u4 := v4) (u5 := v5) (by omega)
  ⟨fa.six.1, fb.six.1, fa.lt, fb.lt⟩
theorem Nw.alloc {w W : World} {a b : Bd} (h : Nw w W a b) (o : Obj) : Nw w (W.alloc o) a b := h.next ((Below.refl _ _).alloc (Nat.le_refl _) o)
theorem Nw.farN {w W : World} {a b : Bd} {n : Nat} {v0 v1 v2 v3 v4 v5 : Value} (h : Nw w W a b) (hn : w.heap.size + 1 + 1 < n) : Nw w ((((((W.setCell ⟨n, 0, none⟩ v0).setCell ⟨n, 1, none⟩ v1).setCell ⟨n, 2, none⟩ v2).setCell ⟨n, 3, none⟩ v3).setCell ⟨n, 4, none⟩ v4).setCell ⟨n, 5, none⟩ v5) a b :=
  have k : w.heap.size ≤ n := by omega
  ⟨(((((h.low.setCell (by exact k) v0).setCell (by exact k) v1).setCell (by exact k) v2).setCell (by exact k) v3).setCell (by exact k) v4).setCell (by exact k) v5, h.fa.far6 (by omega), h.fb.far6 (by omega), h.fr.far6 (by omega)⟩
/-- the cut behind what is below 2^32: it lies in a box of its own -/
def RelA (w : World) (a b r : Bd) (s : Value) (W : World) : Prop := ∃ n, s = .pointer (some ⟨n, 0, none⟩) ∧ Nw w W a b ∧ w.heap.size + 1 + 1 < n ∧ Box W n (bv r)
theorem relA_new {w W : World} {a b : Bd} (h : Nw w W a b) (r : Bd) (t : TypeId) : RelA w a b r (.pointer (some ⟨W.heap.size, 0, none⟩)) (W.alloc (.cells #[.int .u64 (U r.ul), .int .u64 (U r.uh), .int .i64 (S r.sl), .int .i64 (S r.sh), .int .u64 (U r.t.v), .int .u64 (U r.t.m)] t)) :=
  ⟨_, rfl, h.alloc _, h.fr.lt, Box.new W (bv r) t rfl⟩
theorem relA_set {w W : World} {a b : Bd} {n : Nat} (h : Nw w W a b) (hx : Box W n [.int .u64 0, .int .u64 0, .int .i64 0, .int .i64 0, .int .u64 0, .int .u64 0]) (hn : w.heap.size + 1 + 1 < n) (r : Bd) : RelA w a b r (.pointer (some ⟨n, 0, none⟩)) (((((((W.setCell ⟨n, 0, none⟩ (.int .u64 (U r.ul))).setCell ⟨n, 1, none⟩ (.int .u64 (U r.uh))).setCell ⟨n, 2, none⟩ (.int .i64 (S r.sl))).setCell ⟨n, 3, none⟩ (.int .i64 (S r.sh))).setCell ⟨n, 4, none⟩ (.int .u64 (U r.t.v))).setCell ⟨n, 5, none⟩ (.int .u64 (U r.t.m)))) :=
  ⟨n, rfl, h.farN hn, hn, hx.set6⟩
set_option maxRecDepth 100000 in
set_option maxHeartbeats 1000000 in
theorem alu_no (op : Int) (hw : (Lit.int .i64 op).wf = true) (ho : isOp op = false) (a b : Bd) (full : Bool) (w : World) : Calls Try.prog 8 #[.int .i64 op, .agg #[.int .u64 (U a.ul), .int .u64 (U a.uh), .int .i64 (S a.sl), .int .i64 (S a.sh), .int .u64 (U a.t.v), .int .u64 (U a.t.m)], .agg #[.int .u64 (U b.ul), .int .u64 (U b.uh), .int .i64 (S b.sl), .int .i64 (S b.sh), .int .u64 (U b.t.v), .int .u64 (U b.t.m)], .bool full] w fun e w' => e = .returned (.tuple #[.agg #[.int .u64 (U bany.ul), .int .u64 (U bany.uh), .int .i64 (S bany.sl), .int .i64 (S bany.sh), .int .u64 (U bany.t.v), .int .u64 (U bany.t.m)], .bool false]) ∧ Below w.heap.size w w' := by
  have HT := Lib.hid (fun W => table_any W)
  have HA := Lib.hid (fun W => bany_any W)
  generalize bany = ca at *
  have HN := Lib.hid (Nw.start w a b 26 26 26)
  have F := HN.out.f
  go_enter Try.func8, Try.ntmps8
  go_wp2_with (first
    | (go_at_call 16; (with_reducible refine (HT.out _).mono ?_); rintro e w1 ⟨rfl, hb, hm⟩; have R := tb_look hm op hw; rw [ho] at R; rw [World.size_alloc, World.size_alloc, World.size_alloc] at R; generalize wayV op = v at R; have H' := Lib.hid (HN.out.next hb); clear hb hm HN F; have HN := H'; clear H'; have F := HN.out.f)
    | (go_at_call 17; (with_reducible refine (HA.out _).mono ?_); rintro e w2 ⟨rfl, hb⟩; have H' := Lib.hid (HN.out.next hb); clear hb HN F; have HN := H'; clear H'; have F := HN.out.f))
  exact bodyPost_ret (v := .tuple #[.agg #[.int .u64 (U ca.ul), .int .u64 (U ca.uh), .int .i64 (S ca.sl), .int .i64 (S ca.sh), .int .u64 (U ca.t.v), .int .u64 (U ca.t.m)], .bool false]) (by simp [results, Try.results8, go_sem, F]) rfl ⟨rfl, by repeat (first | with_reducible exact HN.out.low | with_reducible refine Below.setCell ?_ (by simp; omega) _)⟩
set_option maxRecDepth 100000 in
set_option maxHeartbeats 1000000 in
theorem alu_bad1 (op : Int) (hw : (Lit.int .i64 op).wf = true) (ho : isOp op = true) (a b : Bd) (h : bcheck a = false) (full : Bool) (w : World) : Calls Try.prog 8 #[.int .i64 op, .agg #[.int .u64 (U a.ul), .int .u64 (U a.uh), .int .i64 (S a.sl), .int .i64 (S a.sh), .int .u64 (U a.t.v), .int .u64 (U a.t.m)], .agg #[.int .u64 (U b.ul), .int .u64 (U b.uh), .int .i64 (S b.sl), .int .i64 (S b.sh), .int .u64 (U b.t.v), .int .u64 (U b.t.m)], .bool full] w fun e w' => e = .returned (.tuple #[.agg #[.int .u64 (U bany.ul), .int .u64 (U bany.uh), .int .i64 (S bany.sl), .int .i64 (S bany.sh), .int .u64 (U bany.t.v), .int .u64 (U bany.t.m)], .bool true]) ∧ Below w.heap.size w w' := by
  have HT := Lib.hid (fun W => table_any W)
  have HA := Lib.hid (fun W => bany_any W)
  have HX := Lib.hid (fun W => bcheck_any a W)
  rw [h] at HX
  generalize bany = ca at *
  have HN := Lib.hid (Nw.start w a b 26 26 26)
  have F := HN.out.f
  go_enter Try.func8, Try.ntmps8
  go_wp2_with (first
    | (go_at_call 16; (with_reducible refine (HT.out _).mono ?_); rintro e w1 ⟨rfl, hb, hm⟩; have R := tb_look hm op hw; rw [ho] at R; rw [World.size_alloc, World.size_alloc, World.size_alloc] at R; generalize wayV op = v at R; have H' := Lib.hid (HN.out.next hb); clear hb hm HN F; have HN := H'; clear H'; have F := HN.out.f)
    | (go_at_call 17; (with_reducible refine (HA.out _).mono ?_); rintro e w2 ⟨rfl, hb⟩; have H' := Lib.hid (HN.out.next hb); clear hb HN F; have HN := H'; clear H'; have F := HN.out.f)
    | (go_at_call 18; (with_reducible refine (HX.out _).mono ?_); rintro e w3 ⟨rfl, hb⟩; have H' := Lib.hid (HN.out.next hb); clear hb HN F; have HN := H'; clear H'; have F := HN.out.f))
  exact bodyPost_ret (v := .tuple #[.agg #[.int .u64 (U ca.ul), .int .u64 (U ca.uh), .int .i64 (S ca.sl), .int .i64 (S ca.sh), .int .u64 (U ca.t.v), .int .u64 (U ca.t.m)], .bool true]) (by simp [results, Try.results8, go_sem, F]) rfl ⟨rfl, by repeat (first | with_reducible exact HN.out.low | with_reducible refine Below.setCell ?_ (by simp; omega) _)⟩
set_option maxRecDepth 100000 in
set_option maxHeartbeats 1000000 in
theorem alu_bad2 (op : Int) (hw : (Lit.int .i64 op).wf = true) (ho : isOp op = true) (a b : Bd) (h1 : bcheck a = true) (h : bcheck b = false) (full : Bool) (w : World) : Calls Try.prog 8 #[.int .i64 op, .agg #[.int .u64 (U a.ul), .int .u64 (U a.uh), .int .i64 (S a.sl), .int .i64 (S a.sh), .int .u64 (U a.t.v), .int .u64 (U a.t.m)], .agg #[.int .u64 (U b.ul), .int .u64 (U b.uh), .int .i64 (S b.sl), .int .i64 (S b.sh), .int .u64 (U b.t.v), .int .u64 (U b.t.m)], .bool full] w fun e w' => e = .returned (.tuple #[.agg #[.int .u64 (U bany.ul), .int .u64 (U bany.uh), .int .i64 (S bany.sl), .int .i64 (S bany.sh), .int .u64 (U bany.t.v), .int .u64 (U bany.t.m)], .bool true]) ∧ Below w.heap.size w w' := by
  have HT := Lib.hid (fun W => table_any W)
  have HA := Lib.hid (fun W => bany_any W)
  have HX := Lib.hid (fun W => bcheck_any a W)
  rw [h1] at HX
  have HY := Lib.hid (fun W => bcheck_any b W)
  rw [h] at HY
  generalize bany = ca at *
  have HN := Lib.hid (Nw.start w a b 26 26 26)
  have F := HN.out.f
  go_enter Try.func8, Try.ntmps8
  go_wp2_with (first
    | (go_at_call 16; (with_reducible refine (HT.out _).mono ?_); rintro e w1 ⟨rfl, hb, hm⟩; have R := tb_look hm op hw; rw [ho] at R; rw [World.size_alloc, World.size_alloc, World.size_alloc] at R; generalize wayV op = v at R; have H' := Lib.hid (HN.out.next hb); clear hb hm HN F; have HN := H'; clear H'; have F := HN.out.f)
    | (go_at_call 17; (with_reducible refine (HA.out _).mono ?_); rintro e w2 ⟨rfl, hb⟩; have H' := Lib.hid (HN.out.next hb); clear hb HN F; have HN := H'; clear H'; have F := HN.out.f)
    | (go_at_call 18; (with_reducible refine (HY.out _).mono ?_); rintro e w3 ⟨rfl, hb⟩; have H' := Lib.hid (HN.out.next hb); clear hb HN F; have HN := H'; clear H'; have F := HN.out.f)
    | (go_at_call 18; (with_reducible refine (HX.out _).mono ?_); rintro e w2 ⟨rfl, hb⟩; have H' := Lib.hid (HN.out.next hb); clear hb HN F; have HN := H'; clear H'; have F := HN.out.f))
  exact bodyPost_ret (v := .tuple #[.agg #[.int .u64 (U ca.ul), .int .u64 (U ca.uh), .int .i64 (S ca.sl), .int .i64 (S ca.sh), .int .u64 (U ca.t.v), .int .u64 (U ca.t.m)], .bool true]) (by simp [results, Try.results8, go_sem, F]) rfl ⟨rfl, by repeat (first | with_reducible exact HN.out.low | with_reducible refine Below.setCell ?_ (by simp; omega) _)⟩
set_option maxRecDepth 100000 in
set_option maxHeartbeats 1000000 in
theorem alu_t0 (a b : Bd) (ha : bcheck a = true) (hb : bcheck b = true) (w : World) : Calls Try.prog 8 #[.int .i64 0, .agg #[.int .u64 (U a.ul), .int .u64 (U a.uh), .int .i64 (S a.sl), .int .i64 (S a.sh), .int .u64 (U a.t.v), .int .u64 (U a.t.m)], .agg #[.int .u64 (U b.ul), .int .u64 (U b.uh), .int .i64 (S b.sl), .int .i64 (S b.sh), .int .u64 (U b.t.v), .int .u64 (U b.t.m)], .bool true] w fun e w' => e = .returned (.tuple #[.agg #[.int .u64 (U (tidyA (reckB 0 a b true)).ul), .int .u64 (U (tidyA (reckB 0 a b true)).uh), .int .i64 (S (tidyA (reckB 0 a b true)).sl), .int .i64 (S (tidyA (reckB 0 a b true)).sh), .int .u64 (U (tidyA (reckB 0 a b true)).t.v), .int .u64 (U (tidyA (reckB 0 a b true)).t.m)], .bool true]) ∧ Below w.heap.size w w' := by
  have HT := Lib.hid (fun W => table_any W)
  have HX := Lib.hid (fun W => bcheck_any a W)
  have HY := Lib.hid (fun W => bcheck_any b W)
  rw [ha] at HX
  rw [hb] at HY
  have HW := Lib.hid (fun W => reck_0 a b true W)
  have HI := Lib.hid (fun W => tidyP_any (reckB 0 a b true) W)
  generalize tidyA (reckB 0 a b true) = t at *
  generalize reckB 0 a b true = x at *
  have HN := Lib.hid (Nw.start w a b 26 26 26)
  have F := HN.out.f
  clear ha hb
  go_enter Try.func8, Try.ntmps8
  go_wp2_with (first
    | (go_at_call 16; (with_reducible refine (HT.out _).mono ?_); rintro e w1 ⟨rfl, hb, hm⟩; have R := tb_look hm 0 (by decide); rw [show isOp 0 = true from rfl, show wayV 0 = .func (.func 30) #[] #[] from rfl] at R; rw [World.size_alloc, World.size_alloc, World.size_alloc] at R; have H' := Lib.hid (HN.out.next hb); clear hb hm HN F; have HN := H'; clear H'; have F := HN.out.f)
    | (go_at_call 19; (with_reducible refine (HI.out _).mono ?_); rintro e w5 ⟨rfl, hb⟩; have H' := Lib.hid (HN.out.next hb); clear hb HN F; have HN := H'; clear H'; have F := HN.out.f)
    | (go_at_call 30; (with_reducible refine (HW.out _).mono ?_); rintro e w4 ⟨rfl, hb⟩; have H' := Lib.hid (HN.out.next hb); clear hb HN F; have HN := H'; clear H'; have F := HN.out.f)
    | (go_at_call 18; (with_reducible refine (HY.out _).mono ?_); rintro e w3 ⟨rfl, hb⟩; have H' := Lib.hid (HN.out.next hb); clear hb HN F; have HN := H'; clear H'; have F := HN.out.f)
    | (go_at_call 18; (with_reducible refine (HX.out _).mono ?_); rintro e w2 ⟨rfl, hb⟩; have H' := Lib.hid (HN.out.next hb); clear hb HN F; have HN := H'; clear H'; have F := HN.out.f))
  exact bodyPost_ret (v := .tuple #[.agg #[.int .u64 (U t.ul), .int .u64 (U t.uh), .int .i64 (S t.sl), .int .i64 (S t.sh), .int .u64 (U t.t.v), .int .u64 (U t.t.m)], .bool true]) (by simp [results, Try.results8, go_sem, F]) rfl ⟨rfl, by repeat (first | with_reducible exact HN.out.low | with_reducible refine Below.setCell ?_ (by simp; omega) _)⟩
set_option maxRecDepth 100000 in
set_option maxHeartbeats 1000000 in
theorem alu_t16 (a b : Bd) (ha : bcheck a = true) (hb : bcheck b = true) (w : World) : Calls Try.prog 8 #[.int .i64 16, .agg #[.int .u64 (U a.ul), .int .u64 (U a.uh), .int .i64 (S a.sl), .int .i64 (S a.sh), .int .u64 (U a.t.v), .int .u64 (U a.t.m)], .agg #[.int .u64 (U b.ul), .int .u64 (U b.uh), .int .i64 (S b.sl), .int .i64 (S b.sh), .int .u64 (U b.t.v), .int .u64 (U b.t.m)], .bool true] w fun e w' => e = .returned (.tuple #[.agg #[.int .u64 (U (tidyA (reckB 16 a b true)).ul), .int .u64 (U (tidyA (reckB 16 a b true)).uh), .int .i64 (S (tidyA (reckB 16 a b true)).sl), .int .i64 (S (tidyA (reckB 16 a b true)).sh), .int .u64 (U (tidyA (reckB 16 a b true)).t.v), .int .u64 (U (tidyA (reckB 16 a b true)).t.m)], .bool true]) ∧ Below w.heap.size w w' := by
  have HT := Lib.hid (fun W => table_any W)
  have HX := Lib.hid (fun W => bcheck_any a W)
  have HY := Lib.hid (fun W => bcheck_any b W)
  rw [ha] at HX
  rw [hb] at HY
  have HW := Lib.hid (fun W => reck_16 a b true W)
  have HI := Lib.hid (fun W => tidyP_any (reckB 16 a b true) W)
  generalize tidyA (reckB 16 a b true) = t at *
  generalize reckB 16 a b true = x at *
  have HN := Lib.hid (Nw.start w a b 26 26 26)
  have F := HN.out.f
  clear ha hb
  go_enter Try.func8, Try.ntmps8
  go_wp2_with (first
    | (go_at_call 16; (with_reducible refine (HT.out _).mono ?_); rintro e w1 ⟨rfl, hb, hm⟩; have R := tb_look hm 16 (by decide); rw [show isOp 16 = true from rfl, show wayV 16 = .func (.func 31) #[] #[] from rfl] at R; rw [World.size_alloc, World.size_alloc, World.size_alloc] at R; have H' := Lib.hid (HN.out.next hb); clear hb hm HN F; have HN := H'; clear H'; have F := HN.out.f)
    | (go_at_call 19; (with_reducible refine (HI.out _).mono ?_); rintro e w5 ⟨rfl, hb⟩; have H' := Lib.hid (HN.out.next hb); clear hb HN F; have HN := H'; clear H'; have F := HN.out.f)
    | (go_at_call 31; (with_reducible refine (HW.out _).mono ?_); rintro e w4 ⟨rfl, hb⟩; have H' := Lib.hid (HN.out.next hb); clear hb HN F; have HN := H'; clear H'; have F := HN.out.f)
    | (go_at_call 18; (with_reducible refine (HY.out _).mono ?_); rintro e w3 ⟨rfl, hb⟩; have H' := Lib.hid (HN.out.next hb); clear hb HN F; have HN := H'; clear H'; have F := HN.out.f)
    | (go_at_call 18; (with_reducible refine (HX.out _).mono ?_); rintro e w2 ⟨rfl, hb⟩; have H' := Lib.hid (HN.out.next hb); clear hb HN F; have HN := H'; clear H'; have F := HN.out.f))
  exact bodyPost_ret (v := .tuple #[.agg #[.int .u64 (U t.ul), .int .u64 (U t.uh), .int .i64 (S t.sl), .int .i64 (S t.sh), .int .u64 (U t.t.v), .int .u64 (U t.t.m)], .bool true]) (by simp [results, Try.results8, go_sem, F]) rfl ⟨rfl, by repeat (first | with_reducible exact HN.out.low | with_reducible refine Below.setCell ?_ (by simp; omega) _)⟩
set_option maxRecDepth 100000 in
set_option maxHeartbeats 1000000 in
theorem alu_t32 (a b : Bd) (ha : bcheck a = true) (hb : bcheck b = true) (w : World) : Calls Try.prog 8 #[.int .i64 32, .agg #[.int .u64 (U a.ul), .int .u64 (U a.uh), .int .i64 (S a.sl), .int .i64 (S a.sh), .int .u64 (U a.t.v), .int .u64 (U a.t.m)], .agg #[.int .u64 (U b.ul), .int .u64 (U b.uh), .int .i64 (S b.sl), .int .i64 (S b.sh), .int .u64 (U b.t.v), .int .u64 (U b.t.m)], .bool true] w fun e w' => e = .returned (.tuple #[.agg #[.int .u64 (U (tidyA (reckB 32 a b true)).ul), .int .u64 (U (tidyA (reckB 32 a b true)).uh), .int .i64 (S (tidyA (reckB 32 a b true)).sl), .int .i64 (S (tidyA (reckB 32 a b true)).sh), .int .u64 (U (tidyA (reckB 32 a b true)).t.v), .int .u64 (U (tidyA (reckB 32 a b true)).t.m)], .bool true]) ∧ Below w.heap.size w w' := by
  have HT := Lib.hid (fun W => table_any W)
  have HX := Lib.hid (fun W => bcheck_any a W)
  have HY := Lib.hid (fun W => bcheck_any b W)
  rw [ha] at HX
  rw [hb] at HY
  have HW := Lib.hid (fun W => reck_32 a b true W)
  have HI := Lib.hid (fun W => tidyP_any (reckB 32 a b true) W)
  generalize tidyA (reckB 32 a b true) = t at *
  generalize reckB 32 a b true = x at *
  have HN := Lib.hid (Nw.start w a b 26 26 26)
  have F := HN.out.f
  clear ha hb
  go_enter Try.func8, Try.ntmps8
  go_wp2_with (first
    | (go_at_call 16; (with_reducible refine (HT.out _).mono ?_); rintro e w1 ⟨rfl, hb, hm⟩; have R := tb_look hm 32 (by decide); rw [show isOp 32 = true from rfl, show wayV 32 = .func (.func 32) #[] #[] from rfl] at R; rw [World.size_alloc, World.size_alloc, World.size_alloc] at R; have H' := Lib.hid (HN.out.next hb); clear hb hm HN F; have HN := H'; clear H'; have F := HN.out.f)
    | (go_at_call 19; (with_reducible refine (HI.out _).mono ?_); rintro e w5 ⟨rfl, hb⟩; have H' := Lib.hid (HN.out.next hb); clear hb HN F; have HN := H'; clear H'; have F := HN.out.f)
    | (go_at_call 32; (with_reducible refine (HW.out _).mono ?_); rintro e w4 ⟨rfl, hb⟩; have H' := Lib.hid (HN.out.next hb); clear hb HN F; have HN := H'; clear H'; have F := HN.out.f)
    | (go_at_call 18; (with_reducible refine (HY.out _).mono ?_); rintro e w3 ⟨rfl, hb⟩; have H' := Lib.hid (HN.out.next hb); clear hb HN F; have HN := H'; clear H'; have F := HN.out.f)
    | (go_at_call 18; (with_reducible refine (HX.out _).mono ?_); rintro e w2 ⟨rfl, hb⟩; have H' := Lib.hid (HN.out.next hb); clear hb HN F; have HN := H'; clear H'; have F := HN.out.f))
  exact bodyPost_ret (v := .tuple #[.agg #[.int .u64 (U t.ul), .int .u64 (U t.uh), .int .i64 (S t.sl), .int .i64 (S t.sh), .int .u64 (U t.t.v), .int .u64 (U t.t.m)], .bool true]) (by simp [results, Try.results8, go_sem, F]) rfl ⟨rfl, by repeat (first | with_reducible exact HN.out.low | with_reducible refine Below.setCell ?_ (by simp; omega) _)⟩
set_option maxRecDepth 100000 in
set_option maxHeartbeats 1000000 in
theorem alu_t48 (a b : Bd) (ha : bcheck a = true) (hb : bcheck b = true) (w : World) : Calls Try.prog 8 #[.int .i64 48, .agg #[.int .u64 (U a.ul), .int .u64 (U a.uh), .int .i64 (S a.sl), .int .i64 (S a.sh), .int .u64 (U a.t.v), .int .u64 (U a.t.m)], .agg #[.int .u64 (U b.ul), .int .u64 (U b.uh), .int .i64 (S b.sl), .int .i64 (S b.sh), .int .u64 (U b.t.v), .int .u64 (U b.t.m)], .bool true] w fun e w' => e = .returned (.tuple #[.agg #[.int .u64 (U (tidyA (reckB 48 a b true)).ul), .int .u64 (U (tidyA (reckB 48 a b true)).uh), .int .i64 (S (tidyA (reckB 48 a b true)).sl), .int .i64 (S (tidyA (reckB 48 a b true)).sh), .int .u64 (U (tidyA (reckB 48 a b true)).t.v), .int .u64 (U (tidyA (reckB 48 a b true)).t.m)], .bool true]) ∧ Below w.heap.size w w' := by
  have HT := Lib.hid (fun W => table_any W)
  have HX := Lib.hid (fun W => bcheck_any a W)
  have HY := Lib.hid (fun W => bcheck_any b W)
  rw [ha] at HX
  rw [hb] at HY
  have HW := Lib.hid (fun W => reck_48 a b true W)
  have HI := Lib.hid (fun W => tidyP_any (reckB 48 a b true) W)
  generalize tidyA (reckB 48 a b true) = t at *
  generalize reckB 48 a b true = x at *
  have HN := Lib.hid (Nw.start w a b 26 26 26)
  have F := HN.out.f
  clear ha hb
  go_enter Try.func8, Try.ntmps8
  go_wp2_with (first
    | (go_at_call 16; (with_reducible refine (HT.out _).mono ?_); rintro e w1 ⟨rfl, hb, hm⟩; have R := tb_look hm 48 (by decide); rw [show isOp 48 = true from rfl, show wayV 48 = .func (.func 33) #[] #[] from rfl] at R; rw [World.size_alloc, World.size_alloc, World.size_alloc] at R; have H' := Lib.hid (HN.out.next hb); clear hb hm HN F; have HN := H'; clear H'; have F := HN.out.f)
    | (go_at_call 19; (with_reducible refine (HI.out _).mono ?_); rintro e w5 ⟨rfl, hb⟩; have H' := Lib.hid (HN.out.next hb); clear hb HN F; have HN := H'; clear H'; have F := HN.out.f)
    | (go_at_call 33; (with_reducible refine (HW.out _).mono ?_); rintro e w4 ⟨rfl, hb⟩; have H' := Lib.hid (HN.out.next hb); clear hb HN F; have HN := H'; clear H'; have F := HN.out.f)
    | (go_at_call 18; (with_reducible refine (HY.out _).mono ?_); rintro e w3 ⟨rfl, hb⟩; have H' := Lib.hid (HN.out.next hb); clear hb HN F; have HN := H'; clear H'; have F := HN.out.f)
    | (go_at_call 18; (with_reducible refine (HX.out _).mono ?_); rintro e w2 ⟨rfl, hb⟩; have H' := Lib.hid (HN.out.next hb); clear hb HN F; have HN := H'; clear H'; have F := HN.out.f))
  exact bodyPost_ret (v := .tuple #[.agg #[.int .u64 (U t.ul), .int .u64 (U t.uh), .int .i64 (S t.sl), .int .i64 (S t.sh), .int .u64 (U t.t.v), .int .u64 (U t.t.m)], .bool true]) (by simp [results, Try.results8, go_sem, F]) rfl ⟨rfl, by repeat (first | with_reducible exact HN.out.low | with_reducible refine Below.setCell ?_ (by simp; omega) _)⟩
set_option maxRecDepth 100000 in
set_option maxHeartbeats 1000000 in
theorem alu_t64 (a b : Bd) (ha : bcheck a = true) (hb : bcheck b = true) (w : World) : Calls Try.prog 8 #[.int .i64 64, .agg #[.int .u64 (U a.ul), .int .u64 (U a.uh), .int .i64 (S a.sl), .int .i64 (S a.sh), .int .u64 (U a.t.v), .int .u64 (U a.t.m)], .agg #[.int .u64 (U b.ul), .int .u64 (U b.uh), .int .i64 (S b.sl), .int .i64 (S b.sh), .int .u64 (U b.t.v), .int .u64 (U b.t.m)], .bool true] w fun e w' => e = .returned (.tuple #[.agg #[.int .u64 (U (tidyA (reckB 64 a b true)).ul), .int .u64 (U (tidyA (reckB 64 a b true)).uh), .int .i64 (S (tidyA (reckB 64 a b true)).sl), .int .i64 (S (tidyA (reckB 64 a b true)).sh), .int .u64 (U (tidyA (reckB 64 a b true)).t.v), .int .u64 (U (tidyA (reckB 64 a b true)).t.m)], .bool true]) ∧ Below w.heap.size w w' := by
  have HT := Lib.hid (fun W => table_any W)
  have HX := Lib.hid (fun W => bcheck_any a W)
  have HY := Lib.hid (fun W => bcheck_any b W)
  rw [ha] at HX
  rw [hb] at HY
  have HW := Lib.hid (fun W => reck_64 a b true W)
  have HI := Lib.hid (fun W => tidyP_any (reckB 64 a b true) W)
  generalize tidyA (reckB 64 a b true) = t at *
  generalize reckB 64 a b true = x at *
  have HN := Lib.hid (Nw.start w a b 26 26 26)
  have F := HN.out.f
  clear ha hb
  go_enter Try.func8, Try.ntmps8
  go_wp2_with (first
    | (go_at_call 16; (with_reducible refine (HT.out _).mono ?_); rintro e w1 ⟨rfl, hb, hm⟩; have R := tb_look hm 64 (by decide); rw [show isOp 64 = true from rfl, show wayV 64 = .func (.func 36) #[] #[] from rfl] at R; rw [World.size_alloc, World.size_alloc, World.size_alloc] at R; have H' := Lib.hid (HN.out.next hb); clear hb hm HN F; have HN := H'; clear H'; have F := HN.out.f)
    | (go_at_call 19; (with_reducible refine (HI.out _).mono ?_); rintro e w5 ⟨rfl, hb⟩; have H' := Lib.hid (HN.out.next hb); clear hb HN F; have HN := H'; clear H'; have F := HN.out.f)
    | (go_at_call 36; (with_reducible refine (HW.out _).mono ?_); rintro e w4 ⟨rfl, hb⟩; have H' := Lib.hid (HN.out.next hb); clear hb HN F; have HN := H'; clear H'; have F := HN.out.f)
    | (go_at_call 18; (with_reducible refine (HY.out _).mono ?_); rintro e w3 ⟨rfl, hb⟩; have H' := Lib.hid (HN.out.next hb); clear hb HN F; have HN := H'; clear H'; have F := HN.out.f)
    | (go_at_call 18; (with_reducible refine (HX.out _).mono ?_); rintro e w2 ⟨rfl, hb⟩; have H' := Lib.hid (HN.out.next hb); clear hb HN F; have HN := H'; clear H'; have F := HN.out.f))
  exact bodyPost_ret (v := .tuple #[.agg #[.int .u64 (U t.ul), .int .u64 (U t.uh), .int .i64 (S t.sl), .int .i64 (S t.sh), .int .u64 (U t.t.v), .int .u64 (U t.t.m)], .bool true]) (by simp [results, Try.results8, go_sem, F]) rfl ⟨rfl, by repeat (first | with_reducible exact HN.out.low | with_reducible refine Below.setCell ?_ (by simp; omega) _)⟩
set_option maxRecDepth 100000 in
set_option maxHeartbeats 1000000 in
theorem alu_t80 (a b : Bd) (ha : bcheck a = true) (hb : bcheck b = true) (w : World) : Calls Try.prog 8 #[.int .i64 80, .agg #[.int .u64 (U a.ul), .int .u64 (U a.uh), .int .i64 (S a.sl), .int .i64 (S a.sh), .int .u64 (U a.t.v), .int .u64 (U a.t.m)], .agg #[.int .u64 (U b.ul), .int .u64 (U b.uh), .int .i64 (S b.sl), .int .i64 (S b.sh), .int .u64 (U b.t.v), .int .u64 (U b.t.m)], .bool true] w fun e w' => e = .returned (.tuple #[.agg #[.int .u64 (U (tidyA (reckB 80 a b true)).ul), .int .u64 (U (tidyA (reckB 80 a b true)).uh), .int .i64 (S (tidyA (reckB 80 a b true)).sl), .int .i64 (S (tidyA (reckB 80 a b true)).sh), .int .u64 (U (tidyA (reckB 80 a b true)).t.v), .int .u64 (U (tidyA (reckB 80 a b true)).t.m)], .bool true]) ∧ Below w.heap.size w w' := by
  have HT := Lib.hid (fun W => table_any W)
  have HX := Lib.hid (fun W => bcheck_any a W)
  have HY := Lib.hid (fun W => bcheck_any b W)
  rw [ha] at HX
  rw [hb] at HY
  have HW := Lib.hid (fun W => reck_80 a b true W)
  have HI := Lib.hid (fun W => tidyP_any (reckB 80 a b true) W)
  generalize tidyA (reckB 80 a b true) = t at *
  generalize reckB 80 a b true = x at *
  have HN := Lib.hid (Nw.start w a b 26 26 26)
  have F := HN.out.f
  clear ha hb
  go_enter Try.func8, Try.ntmps8
  go_wp2_with (first
    | (go_at_call 16; (with_reducible refine (HT.out _).mono ?_); rintro e w1 ⟨rfl, hb, hm⟩; have R := tb_look hm 80 (by decide); rw [show isOp 80 = true from rfl, show wayV 80 = .func (.func 35) #[] #[] from rfl] at R; rw [World.size_alloc, World.size_alloc, World.size_alloc] at R; have H' := Lib.hid (HN.out.next hb); clear hb hm HN F; have HN := H'; clear H'; have F := HN.out.f)
    | (go_at_call 19; (with_reducible refine (HI.out _).mono ?_); rintro e w5 ⟨rfl, hb⟩; have H' := Lib.hid (HN.out.next hb); clear hb HN F; have HN := H'; clear H'; have F := HN.out.f)
    | (go_at_call 35; (with_reducible refine (HW.out _).mono ?_); rintro e w4 ⟨rfl, hb⟩; have H' := Lib.hid (HN.out.next hb); clear hb HN F; have HN := H'; clear H'; have F := HN.out.f)
    | (go_at_call 18; (with_reducible refine (HY.out _).mono ?_); rintro e w3 ⟨rfl, hb⟩; have H' := Lib.hid (HN.out.next hb); clear hb HN F; have HN := H'; clear H'; have F := HN.out.f)
    | (go_at_call 18; (with_reducible refine (HX.out _).mono ?_); rintro e w2 ⟨rfl, hb⟩; have H' := Lib.hid (HN.out.next hb); clear hb HN F; have HN := H'; clear H'; have F := HN.out.f))
  exact bodyPost_ret (v := .tuple #[.agg #[.int .u64 (U t.ul), .int .u64 (U t.uh), .int .i64 (S t.sl), .int .i64 (S t.sh), .int .u64 (U t.t.v), .int .u64 (U t.t.m)], .bool true]) (by simp [results, Try.results8, go_sem, F]) rfl ⟨rfl, by repeat (first | with_reducible exact HN.out.low | with_reducible refine Below.setCell ?_ (by simp; omega) _)⟩
set_option maxRecDepth 100000 in
set_option maxHeartbeats 1000000 in
theorem alu_t96 (a b : Bd) (ha : bcheck a = true) (hb : bcheck b = true) (w : World) : Calls Try.prog 8 #[.int .i64 96, .agg #[.int .u64 (U a.ul), .int .u64 (U a.uh), .int .i64 (S a.sl), .int .i64 (S a.sh), .int .u64 (U a.t.v), .int .u64 (U a.t.m)], .agg #[.int .u64 (U b.ul), .int .u64 (U b.uh), .int .i64 (S b.sl), .int .i64 (S b.sh), .int .u64 (U b.t.v), .int .u64 (U b.t.m)], .bool true] w fun e w' => e = .returned (.tuple #[.agg #[.int .u64 (U (tidyA (reckB 96 a b true)).ul), .int .u64 (U (tidyA (reckB 96 a b true)).uh), .int .i64 (S (tidyA (reckB 96 a b true)).sl), .int .i64 (S (tidyA (reckB 96 a b true)).sh), .int .u64 (U (tidyA (reckB 96 a b true)).t.v), .int .u64 (U (tidyA (reckB 96 a b true)).t.m)], .bool true]) ∧ Below w.heap.size w w' := by
  have HT := Lib.hid (fun W => table_any W)
  have HX := Lib.hid (fun W => bcheck_any a W)
  have HY := Lib.hid (fun W => bcheck_any b W)
  rw [ha] at HX
  rw [hb] at HY
  have HW := Lib.hid (fun W => reck_96 a b true W)
  have HI := Lib.hid (fun W => tidyP_any (reckB 96 a b true) W)
  generalize tidyA (reckB 96 a b true) = t at *
  generalize reckB 96 a b true = x at *
  have HN := Lib.hid (Nw.start w a b 26 26 26)
  have F := HN.out.f
  clear ha hb
  go_enter Try.func8, Try.ntmps8
  go_wp2_with (first
    | (go_at_call 16; (with_reducible refine (HT.out _).mono ?_); rintro e w1 ⟨rfl, hb, hm⟩; have R := tb_look hm 96 (by decide); rw [show isOp 96 = true from rfl, show wayV 96 = .func (.func 38) #[] #[] from rfl] at R; rw [World.size_alloc, World.size_alloc, World.size_alloc] at R; have H' := Lib.hid (HN.out.next hb); clear hb hm HN F; have HN := H'; clear H'; have F := HN.out.f)
    | (go_at_call 19; (with_reducible refine (HI.out _).mono ?_); rintro e w5 ⟨rfl, hb⟩; have H' := Lib.hid (HN.out.next hb); clear hb HN F; have HN := H'; clear H'; have F := HN.out.f)
    | (go_at_call 38; (with_reducible refine (HW.out _).mono ?_); rintro e w4 ⟨rfl, hb⟩; have H' := Lib.hid (HN.out.next hb); clear hb HN F; have HN := H'; clear H'; have F := HN.out.f)
    | (go_at_call 18; (with_reducible refine (HY.out _).mono ?_); rintro e w3 ⟨rfl, hb⟩; have H' := Lib.hid (HN.out.next hb); clear hb HN F; have HN := H'; clear H'; have F := HN.out.f)
    | (go_at_call 18; (with_reducible refine (HX.out _).mono ?_); rintro e w2 ⟨rfl, hb⟩; have H' := Lib.hid (HN.out.next hb); clear hb HN F; have HN := H'; clear H'; have F := HN.out.f))
  exact bodyPost_ret (v := .tuple #[.agg #[.int .u64 (U t.ul), .int .u64 (U t.uh), .int .i64 (S t.sl), .int .i64 (S t.sh), .int .u64 (U t.t.v), .int .u64 (U t.t.m)], .bool true]) (by simp [results, Try.results8, go_sem, F]) rfl ⟨rfl, by repeat (first | with_reducible exact HN.out.low | with_reducible refine Below.setCell ?_ (by simp; omega) _)⟩
set_option maxRecDepth 100000 in
set_option maxHeartbeats 1000000 in
theorem alu_t112 (a b : Bd) (ha : bcheck a = true) (hb : bcheck b = true) (w : World) : Calls Try.prog 8 #[.int .i64 112, .agg #[.int .u64 (U a.ul), .int .u64 (U a.uh), .int .i64 (S a.sl), .int .i64 (S a.sh), .int .u64 (U a.t.v), .int .u64 (U a.t.m)], .agg #[.int .u64 (U b.ul), .int .u64 (U b.uh), .int .i64 (S b.sl), .int .i64 (S b.sh), .int .u64 (U b.t.v), .int .u64 (U b.t.m)], .bool true] w fun e w' => e = .returned (.tuple #[.agg #[.int .u64 (U (tidyA (reckB 112 a b true)).ul), .int .u64 (U (tidyA (reckB 112 a b true)).uh), .int .i64 (S (tidyA (reckB 112 a b true)).sl), .int .i64 (S (tidyA (reckB 112 a b true)).sh), .int .u64 (U (tidyA (reckB 112 a b true)).t.v), .int .u64 (U (tidyA (reckB 112 a b true)).t.m)], .bool true]) ∧ Below w.heap.size w w' := by
  have HT := Lib.hid (fun W => table_any W)
  have HX := Lib.hid (fun W => bcheck_any a W)
  have HY := Lib.hid (fun W => bcheck_any b W)
  rw [ha] at HX
  rw [hb] at HY
  have HW := Lib.hid (fun W => reck_112 a b true W)
  have HI := Lib.hid (fun W => tidyP_any (reckB 112 a b true) W)
  generalize tidyA (reckB 112 a b true) = t at *
  generalize reckB 112 a b true = x at *
  have HN := Lib.hid (Nw.start w a b 26 26 26)
  have F := HN.out.f
  clear ha hb
  go_enter Try.func8, Try.ntmps8
  go_wp2_with (first
    | (go_at_call 16; (with_reducible refine (HT.out _).mono ?_); rintro e w1 ⟨rfl, hb, hm⟩; have R := tb_look hm 112 (by decide); rw [show isOp 112 = true from rfl, show wayV 112 = .func (.func 39) #[] #[] from rfl] at R; rw [World.size_alloc, World.size_alloc, World.size_alloc] at R; have H' := Lib.hid (HN.out.next hb); clear hb hm HN F; have HN := H'; clear H'; have F := HN.out.f)
    | (go_at_call 19; (with_reducible refine (HI.out _).mono ?_); rintro e w5 ⟨rfl, hb⟩; have H' := Lib.hid (HN.out.next hb); clear hb HN F; have HN := H'; clear H'; have F := HN.out.f)
    | (go_at_call 39; (with_reducible refine (HW.out _).mono ?_); rintro e w4 ⟨rfl, hb⟩; have H' := Lib.hid (HN.out.next hb); clear hb HN F; have HN := H'; clear H'; have F := HN.out.f)
    | (go_at_call 18; (with_reducible refine (HY.out _).mono ?_); rintro e w3 ⟨rfl, hb⟩; have H' := Lib.hid (HN.out.next hb); clear hb HN F; have HN := H'; clear H'; have F := HN.out.f)
    | (go_at_call 18; (with_reducible refine (HX.out _).mono ?_); rintro e w2 ⟨rfl, hb⟩; have H' := Lib.hid (HN.out.next hb); clear hb HN F; have HN := H'; clear H'; have F := HN.out.f))
  exact bodyPost_ret (v := .tuple #[.agg #[.int .u64 (U t.ul), .int .u64 (U t.uh), .int .i64 (S t.sl), .int .i64 (S t.sh), .int .u64 (U t.t.v), .int .u64 (U t.t.m)], .bool true]) (by simp [results, Try.results8, go_sem, F]) rfl ⟨rfl, by repeat (first | with_reducible exact HN.out.low | with_reducible refine Below.setCell ?_ (by simp; omega) _)⟩
set_option maxRecDepth 100000 in
set_option maxHeartbeats 1000000 in
theorem alu_t128 (a b : Bd) (ha : bcheck a = true) (hb : bcheck b = true) (w : World) : Calls Try.prog 8 #[.int .i64 128, .agg #[.int .u64 (U a.ul), .int .u64 (U a.uh), .int .i64 (S a.sl), .int .i64 (S a.sh), .int .u64 (U a.t.v), .int .u64 (U a.t.m)], .agg #[.int .u64 (U b.ul), .int .u64 (U b.uh), .int .i64 (S b.sl), .int .i64 (S b.sh), .int .u64 (U b.t.v), .int .u64 (U b.t.m)], .bool true] w fun e w' => e = .returned (.tuple #[.agg #[.int .u64 (U (tidyA (reckB 128 a b true)).ul), .int .u64 (U (tidyA (reckB 128 a b true)).uh), .int .i64 (S (tidyA (reckB 128 a b true)).sl), .int .i64 (S (tidyA (reckB 128 a b true)).sh), .int .u64 (U (tidyA (reckB 128 a b true)).t.v), .int .u64 (U (tidyA (reckB 128 a b true)).t.m)], .bool true]) ∧ Below w.heap.size w w' := by
  have HT := Lib.hid (fun W => table_any W)
  have HX := Lib.hid (fun W => bcheck_any a W)
  have HY := Lib.hid (fun W => bcheck_any b W)
  rw [ha] at HX
  rw [hb] at HY
  have HW := Lib.hid (fun W => reck_128 a b true W)
  have HI := Lib.hid (fun W => tidyP_any (reckB 128 a b true) W)
  generalize tidyA (reckB 128 a b true) = t at *
  generalize reckB 128 a b true = x at *
  have HN := Lib.hid (Nw.start w a b 26 26 26)
  have F := HN.out.f
  clear ha hb
  go_enter Try.func8, Try.ntmps8
  go_wp2_with (first
    | (go_at_call 16; (with_reducible refine (HT.out _).mono ?_); rintro e w1 ⟨rfl, hb, hm⟩; have R := tb_look hm 128 (by decide); rw [show isOp 128 = true from rfl, show wayV 128 = .func (.func 41) #[] #[] from rfl] at R; rw [World.size_alloc, World.size_alloc, World.size_alloc] at R; have H' := Lib.hid (HN.out.next hb); clear hb hm HN F; have HN := H'; clear H'; have F := HN.out.f)
    | (go_at_call 19; (with_reducible refine (HI.out _).mono ?_); rintro e w5 ⟨rfl, hb⟩; have H' := Lib.hid (HN.out.next hb); clear hb HN F; have HN := H'; clear H'; have F := HN.out.f)
    | (go_at_call 41; (with_reducible refine (HW.out _).mono ?_); rintro e w4 ⟨rfl, hb⟩; have H' := Lib.hid (HN.out.next hb); clear hb HN F; have HN := H'; clear H'; have F := HN.out.f)
    | (go_at_call 18; (with_reducible refine (HY.out _).mono ?_); rintro e w3 ⟨rfl, hb⟩; have H' := Lib.hid (HN.out.next hb); clear hb HN F; have HN := H'; clear H'; have F := HN.out.f)
    | (go_at_call 18; (with_reducible refine (HX.out _).mono ?_); rintro e w2 ⟨rfl, hb⟩; have H' := Lib.hid (HN.out.next hb); clear hb HN F; have HN := H'; clear H'; have F := HN.out.f))
  exact bodyPost_ret (v := .tuple #[.agg #[.int .u64 (U t.ul), .int .u64 (U t.uh), .int .i64 (S t.sl), .int .i64 (S t.sh), .int .u64 (U t.t.v), .int .u64 (U t.t.m)], .bool true]) (by simp [results, Try.results8, go_sem, F]) rfl ⟨rfl, by repeat (first | with_reducible exact HN.out.low | with_reducible refine Below.setCell ?_ (by simp; omega) _)⟩
set_option maxRecDepth 100000 in
set_option maxHeartbeats 1000000 in
theorem alu_t144 (a b : Bd) (ha : bcheck a = true) (hb : bcheck b = true) (w : World) : Calls Try.prog 8 #[.int .i64 144, .agg #[.int .u64 (U a.ul), .int .u64 (U a.uh), .int .i64 (S a.sl), .int .i64 (S a.sh), .int .u64 (U a.t.v), .int .u64 (U a.t.m)], .agg #[.int .u64 (U b.ul), .int .u64 (U b.uh), .int .i64 (S b.sl), .int .i64 (S b.sh), .int .u64 (U b.t.v), .int .u64 (U b.t.m)], .bool true] w fun e w' => e = .returned (.tuple #[.agg #[.int .u64 (U (tidyA (reckB 144 a b true)).ul), .int .u64 (U (tidyA (reckB 144 a b true)).uh), .int .i64 (S (tidyA (reckB 144 a b true)).sl), .int .i64 (S (tidyA (reckB 144 a b true)).sh), .int .u64 (U (tidyA (reckB 144 a b true)).t.v), .int .u64 (U (tidyA (reckB 144 a b true)).t.m)], .bool true]) ∧ Below w.heap.size w w' := by
  have HT := Lib.hid (fun W => table_any W)
  have HX := Lib.hid (fun W => bcheck_any a W)
  have HY := Lib.hid (fun W => bcheck_any b W)
  rw [ha] at HX
  rw [hb] at HY
  have HW := Lib.hid (fun W => reck_144 a b true W)
  have HI := Lib.hid (fun W => tidyP_any (reckB 144 a b true) W)
  generalize tidyA (reckB 144 a b true) = t at *
  generalize reckB 144 a b true = x at *
  have HN := Lib.hid (Nw.start w a b 26 26 26)
  have F := HN.out.f
  clear ha hb
  go_enter Try.func8, Try.ntmps8
  go_wp2_with (first
    | (go_at_call 16; (with_reducible refine (HT.out _).mono ?_); rintro e w1 ⟨rfl, hb, hm⟩; have R := tb_look hm 144 (by decide); rw [show isOp 144 = true from rfl, show wayV 144 = .func (.func 34) #[] #[] from rfl] at R; rw [World.size_alloc, World.size_alloc, World.size_alloc] at R; have H' := Lib.hid (HN.out.next hb); clear hb hm HN F; have HN := H'; clear H'; have F := HN.out.f)
    | (go_at_call 19; (with_reducible refine (HI.out _).mono ?_); rintro e w5 ⟨rfl, hb⟩; have H' := Lib.hid (HN.out.next hb); clear hb HN F; have HN := H'; clear H'; have F := HN.out.f)
    | (go_at_call 34; (with_reducible refine (HW.out _).mono ?_); rintro e w4 ⟨rfl, hb⟩; have H' := Lib.hid (HN.out.next hb); clear hb HN F; have HN := H'; clear H'; have F := HN.out.f)
    | (go_at_call 18; (with_reducible refine (HY.out _).mono ?_); rintro e w3 ⟨rfl, hb⟩; have H' := Lib.hid (HN.out.next hb); clear hb HN F; have HN := H'; clear H'; have F := HN.out.f)
    | (go_at_call 18; (with_reducible refine (HX.out _).mono ?_); rintro e w2 ⟨rfl, hb⟩; have H' := Lib.hid (HN.out.next hb); clear hb HN F; have HN := H'; clear H'; have F := HN.out.f))
  exact bodyPost_ret (v := .tuple #[.agg #[.int .u64 (U t.ul), .int .u64 (U t.uh), .int .i64 (S t.sl), .int .i64 (S t.sh), .int .u64 (U t.t.v), .int .u64 (U t.t.m)], .bool true]) (by simp [results, Try.results8, go_sem, F]) rfl ⟨rfl, by repeat (first | with_reducible exact HN.out.low | with_reducible refine Below.setCell ?_ (by simp; omega) _)⟩
set_option maxRecDepth 100000 in
set_option maxHeartbeats 1000000 in
theorem alu_t160 (a b : Bd) (ha : bcheck a = true) (hb : bcheck b = true) (w : World) : Calls Try.prog 8 #[.int .i64 160, .agg #[.int .u64 (U a.ul), .int .u64 (U a.uh), .int .i64 (S a.sl), .int .i64 (S a.sh), .int .u64 (U a.t.v), .int .u64 (U a.t.m)], .agg #[.int .u64 (U b.ul), .int .u64 (U b.uh), .int .i64 (S b.sl), .int .i64 (S b.sh), .int .u64 (U b.t.v), .int .u64 (U b.t.m)], .bool true] w fun e w' => e = .returned (.tuple #[.agg #[.int .u64 (U (tidyA (reckB 160 a b true)).ul), .int .u64 (U (tidyA (reckB 160 a b true)).uh), .int .i64 (S (tidyA (reckB 160 a b true)).sl), .int .i64 (S (tidyA (reckB 160 a b true)).sh), .int .u64 (U (tidyA (reckB 160 a b true)).t.v), .int .u64 (U (tidyA (reckB 160 a b true)).t.m)], .bool true]) ∧ Below w.heap.size w w' := by
  have HT := Lib.hid (fun W => table_any W)
  have HX := Lib.hid (fun W => bcheck_any a W)
  have HY := Lib.hid (fun W => bcheck_any b W)
  rw [ha] at HX
  rw [hb] at HY
  have HW := Lib.hid (fun W => reck_160 a b true W)
  have HI := Lib.hid (fun W => tidyP_any (reckB 160 a b true) W)
  generalize tidyA (reckB 160 a b true) = t at *
  generalize reckB 160 a b true = x at *
  have HN := Lib.hid (Nw.start w a b 26 26 26)
  have F := HN.out.f
  clear ha hb
  go_enter Try.func8, Try.ntmps8
  go_wp2_with (first
    | (go_at_call 16; (with_reducible refine (HT.out _).mono ?_); rintro e w1 ⟨rfl, hb, hm⟩; have R := tb_look hm 160 (by decide); rw [show isOp 160 = true from rfl, show wayV 160 = .func (.func 37) #[] #[] from rfl] at R; rw [World.size_alloc, World.size_alloc, World.size_alloc] at R; have H' := Lib.hid (HN.out.next hb); clear hb hm HN F; have HN := H'; clear H'; have F := HN.out.f)
    | (go_at_call 19; (with_reducible refine (HI.out _).mono ?_); rintro e w5 ⟨rfl, hb⟩; have H' := Lib.hid (HN.out.next hb); clear hb HN F; have HN := H'; clear H'; have F := HN.out.f)
    | (go_at_call 37; (with_reducible refine (HW.out _).mono ?_); rintro e w4 ⟨rfl, hb⟩; have H' := Lib.hid (HN.out.next hb); clear hb HN F; have HN := H'; clear H'; have F := HN.out.f)
    | (go_at_call 18; (with_reducible refine (HY.out _).mono ?_); rintro e w3 ⟨rfl, hb⟩; have H' := Lib.hid (HN.out.next hb); clear hb HN F; have HN := H'; clear H'; have F := HN.out.f)
    | (go_at_call 18; (with_reducible refine (HX.out _).mono ?_); rintro e w2 ⟨rfl, hb⟩; have H' := Lib.hid (HN.out.next hb); clear hb HN F; have HN := H'; clear H'; have F := HN.out.f))
  exact bodyPost_ret (v := .tuple #[.agg #[.int .u64 (U t.ul), .int .u64 (U t.uh), .int .i64 (S t.sl), .int .i64 (S t.sh), .int .u64 (U t.t.v), .int .u64 (U t.t.m)], .bool true]) (by simp [results, Try.results8, go_sem, F]) rfl ⟨rfl, by repeat (first | with_reducible exact HN.out.low | with_reducible refine Below.setCell ?_ (by simp; omega) _)⟩
set_option maxRecDepth 100000 in
set_option maxHeartbeats 1000000 in
theorem alu_t176 (a b : Bd) (ha : bcheck a = true) (hb : bcheck b = true) (w : World) : Calls Try.prog 8 #[.int .i64 176, .agg #[.int .u64 (U a.ul), .int .u64 (U a.uh), .int .i64 (S a.sl), .int .i64 (S a.sh), .int .u64 (U a.t.v), .int .u64 (U a.t.m)], .agg #[.int .u64 (U b.ul), .int .u64 (U b.uh), .int .i64 (S b.sl), .int .i64 (S b.sh), .int .u64 (U b.t.v), .int .u64 (U b.t.m)], .bool true] w fun e w' => e = .returned (.tuple #[.agg #[.int .u64 (U (tidyA (reckB 176 a b true)).ul), .int .u64 (U (tidyA (reckB 176 a b true)).uh), .int .i64 (S (tidyA (reckB 176 a b true)).sl), .int .i64 (S (tidyA (reckB 176 a b true)).sh), .int .u64 (U (tidyA (reckB 176 a b true)).t.v), .int .u64 (U (tidyA (reckB 176 a b true)).t.m)], .bool true]) ∧ Below w.heap.size w w' := by
  have HT := Lib.hid (fun W => table_any W)
  have HX := Lib.hid (fun W => bcheck_any a W)
  have HY := Lib.hid (fun W => bcheck_any b W)
  rw [ha] at HX
  rw [hb] at HY
  have HW := Lib.hid (fun W => reck_176 a b true W)
  have HI := Lib.hid (fun W => tidyP_any (reckB 176 a b true) W)
  generalize tidyA (reckB 176 a b true) = t at *
  generalize reckB 176 a b true = x at *
  have HN := Lib.hid (Nw.start w a b 26 26 26)
  have F := HN.out.f
  clear ha hb
  go_enter Try.func8, Try.ntmps8
  go_wp2_with (first
    | (go_at_call 16; (with_reducible refine (HT.out _).mono ?_); rintro e w1 ⟨rfl, hb, hm⟩; have R := tb_look hm 176 (by decide); rw [show isOp 176 = true from rfl, show wayV 176 = .func (.func 42) #[] #[] from rfl] at R; rw [World.size_alloc, World.size_alloc, World.size_alloc] at R; have H' := Lib.hid (HN.out.next hb); clear hb hm HN F; have HN := H'; clear H'; have F := HN.out.f)
    | (go_at_call 19; (with_reducible refine (HI.out _).mono ?_); rintro e w5 ⟨rfl, hb⟩; have H' := Lib.hid (HN.out.next hb); clear hb HN F; have HN := H'; clear H'; have F := HN.out.f)
    | (go_at_call 42; (with_reducible refine (HW.out _).mono ?_); rintro e w4 ⟨rfl, hb⟩; have H' := Lib.hid (HN.out.next hb); clear hb HN F; have HN := H'; clear H'; have F := HN.out.f)
    | (go_at_call 18; (with_reducible refine (HY.out _).mono ?_); rintro e w3 ⟨rfl, hb⟩; have H' := Lib.hid (HN.out.next hb); clear hb HN F; have HN := H'; clear H'; have F := HN.out.f)
    | (go_at_call 18; (with_reducible refine (HX.out _).mono ?_); rintro e w2 ⟨rfl, hb⟩; have H' := Lib.hid (HN.out.next hb); clear hb HN F; have HN := H'; clear H'; have F := HN.out.f))
  exact bodyPost_ret (v := .tuple #[.agg #[.int .u64 (U t.ul), .int .u64 (U t.uh), .int .i64 (S t.sl), .int .i64 (S t.sh), .int .u64 (U t.t.v), .int .u64 (U t.t.m)], .bool true]) (by simp [results, Try.results8, go_sem, F]) rfl ⟨rfl, by repeat (first | with_reducible exact HN.out.low | with_reducible refine Below.setCell ?_ (by simp; omega) _)⟩
set_option maxRecDepth 100000 in
set_option maxHeartbeats 1000000 in
theorem alu_t192 (a b : Bd) (ha : bcheck a = true) (hb : bcheck b = true) (w : World) : Calls Try.prog 8 #[.int .i64 192, .agg #[.int .u64 (U a.ul), .int .u64 (U a.uh), .int .i64 (S a.sl), .int .i64 (S a.sh), .int .u64 (U a.t.v), .int .u64 (U a.t.m)], .agg #[.int .u64 (U b.ul), .int .u64 (U b.uh), .int .i64 (S b.sl), .int .i64 (S b.sh), .int .u64 (U b.t.v), .int .u64 (U b.t.m)], .bool true] w fun e w' => e = .returned (.tuple #[.agg #[.int .u64 (U (tidyA (reckB 192 a b true)).ul), .int .u64 (U (tidyA (reckB 192 a b true)).uh), .int .i64 (S (tidyA (reckB 192 a b true)).sl), .int .i64 (S (tidyA (reckB 192 a b true)).sh), .int .u64 (U (tidyA (reckB 192 a b true)).t.v), .int .u64 (U (tidyA (reckB 192 a b true)).t.m)], .bool true]) ∧ Below w.heap.size w w' := by
  have HT := Lib.hid (fun W => table_any W)
  have HX := Lib.hid (fun W => bcheck_any a W)
  have HY := Lib.hid (fun W => bcheck_any b W)
  rw [ha] at HX
  rw [hb] at HY
  have HW := Lib.hid (fun W => reck_192 a b true W)
  have HI := Lib.hid (fun W => tidyP_any (reckB 192 a b true) W)
  generalize tidyA (reckB 192 a b true) = t at *
  generalize reckB 192 a b true = x at *
  have HN := Lib.hid (Nw.start w a b 26 26 26)
  have F := HN.out.f
  clear ha hb
  go_enter Try.func8, Try.ntmps8
  go_wp2_with (first
    | (go_at_call 16; (with_reducible refine (HT.out _).mono ?_); rintro e w1 ⟨rfl, hb, hm⟩; have R := tb_look hm 192 (by decide); rw [show isOp 192 = true from rfl, show wayV 192 = .func (.func 40) #[] #[] from rfl] at R; rw [World.size_alloc, World.size_alloc, World.size_alloc] at R; have H' := Lib.hid (HN.out.next hb); clear hb hm HN F; have HN := H'; clear H'; have F := HN.out.f)
    | (go_at_call 19; (with_reducible refine (HI.out _).mono ?_); rintro e w5 ⟨rfl, hb⟩; have H' := Lib.hid (HN.out.next hb); clear hb HN F; have HN := H'; clear H'; have F := HN.out.f)
    | (go_at_call 40; (with_reducible refine (HW.out _).mono ?_); rintro e w4 ⟨rfl, hb⟩; have H' := Lib.hid (HN.out.next hb); clear hb HN F; have HN := H'; clear H'; have F := HN.out.f)
    | (go_at_call 18; (with_reducible refine (HY.out _).mono ?_); rintro e w3 ⟨rfl, hb⟩; have H' := Lib.hid (HN.out.next hb); clear hb HN F; have HN := H'; clear H'; have F := HN.out.f)
    | (go_at_call 18; (with_reducible refine (HX.out _).mono ?_); rintro e w2 ⟨rfl, hb⟩; have H' := Lib.hid (HN.out.next hb); clear hb HN F; have HN := H'; clear H'; have F := HN.out.f))
  exact bodyPost_ret (v := .tuple #[.agg #[.int .u64 (U t.ul), .int .u64 (U t.uh), .int .i64 (S t.sl), .int .i64 (S t.sh), .int .u64 (U t.t.v), .int .u64 (U t.t.m)], .bool true]) (by simp [results, Try.results8, go_sem, F]) rfl ⟨rfl, by repeat (first | with_reducible exact HN.out.low | with_reducible refine Below.setCell ?_ (by simp; omega) _)⟩
end Go.Proofs.Yticjhcbkkkkckaa
