/- Contracts of the document's own Do: a place, or a memory, that it refuses. -/
import Derived.Test.YthckkdkijajadaaDoorYU
namespace Go.Proofs.YthckkdkijajadaaDoor
open Go.RowKit M

set_option maxRecDepth 100000 in
set_option maxHeartbeats 2000000 in
theorem rdo_place3 (c : Int) (cw : Bool) (p : Option Addr) (len cap : Nat) (mp : Option Addr) (mn mc : Nat) (b o : Nat) (al cc : Nat) (sq : Option Addr) (sl sc : Nat) (x0 x1 sz E : Int) (w : World) (hb0 : b < w.heap.size) (hal : al ≤ 17592186044154) (hl : 2 ≤ al) (c1 : w.cell? ⟨b, o + 1, none⟩ = some (.int .u64 x1)) (h1 : 1 ≤ x1) (h64 : x1 ≤ 64) (hE : (E != 0) = true)
    (HSP : Hid (∀ W, Below w.heap.size w W → Calls Tryd.prog 14 #[.int .i64 3, .slice (some ⟨b, o, none⟩) al cc] W fun e w' => e = .returned (.tuple #[.agg #[.int .u64 x0, .int .i64 sz], .agg #[.int .u64 0, .int .i64 0], .bool true]) ∧ Below W.heap.size W w'))
    (HAC : Hid (∀ W, Below w.heap.size w W → Calls Tryd.prog 37 #[.agg #[.int .i64 c, .bool cw, .slice p len cap], .int .u64 x0, .int .i64 sz, .bool false] W fun e w' => e = .returned (.int .i64 E) ∧ Below W.heap.size W w')) :
    Calls Tryd.prog 17 #[.agg #[.int .i64 c, .bool cw, .slice p len cap], .slice mp mn mc, .int .i64 3, .slice (some ⟨b, o, none⟩) al cc, .slice sq sl sc] w (DoPost 0 [] 0 [] [] 50 w) := by
  have i1 : (1 : Int) < (al : Int) := by omega
  have i1' : 1 < al := by omega
  have HC := Lib.hid c1
  clear c1
  go_enter Tryd.func17, Tryd.ntmps17
  go_wp2_with (first
    | (go_at_call 14; refine (HSP.out _ (below3_two w _ _)).mono ?_; rintro e w1 ⟨rfl, hb⟩; have HW1 := Lib.hid (RdW.first (ls := [.int .i64 c, .bool cw, .slice p len cap]) (s14 := [.int .u64 x0, .int .i64 sz]) (s15 := [.int .u64 0, .int .i64 0]) (t3 := 47) hb); have l0 := HW1.out.lay.cell 0 _ rfl; have l1 := HW1.out.lay.cell 1 _ rfl; have l2 := HW1.out.lay.cell 2 _ rfl; have k0 := HW1.out.rd.cell 0 _ rfl; have k1 := HW1.out.rd.cell 1 _ rfl; have k2 := HW1.out.wr.cell 0 _ rfl; have k3 := HW1.out.wr.cell 1 _ rfl; have d1 := (HW1.out.below.cell (p := ⟨b, o + 1, none⟩) hb0).trans HC.out)
    | (go_at_call 37; refine (HAC.out _ HW1.out.below).mono ?_; rintro e w2 ⟨rfl, hb2⟩; have HW2 := Lib.hid (HW1.out.next hb2); have r0 := HW2.out.res.cell 0 _ rfl; have r1 := HW2.out.res.cell 1 _ rfl; have r2 := HW2.out.res.cell 2 _ rfl; have fz := HW2.out.res.frozen))
  refine bodyPost_ret (v := .tuple #[.int .u64 0, .slice none 0 0, .agg #[.int .i64 0, .slice none 0 0, .slice none 0 0], .int .i64 50]) (by simp [results, Tryd.results17, go_sem, r0, r1, r2]) rfl (DoPost.bad (below_set3 HW2.out.below (Nat.le_succ _) _ _ _))
set_option maxRecDepth 100000 in
set_option maxHeartbeats 2000000 in
theorem rdo_stray3 (c : Int) (cw : Bool) (p : Option Addr) (len cap : Nat) (mp : Option Addr) (mn mc : Nat) (b o : Nat) (al cc : Nat) (sq : Option Addr) (sl sc : Nat) (x0 x1 sz : Int) (w : World) (hb0 : b < w.heap.size) (hal : al ≤ 17592186044154) (hl : 2 ≤ al) (c1 : w.cell? ⟨b, o + 1, none⟩ = some (.int .u64 x1)) (h1 : 1 ≤ x1) (h64 : x1 ≤ 64)
    (HSP : Hid (∀ W, Below w.heap.size w W → Calls Tryd.prog 14 #[.int .i64 3, .slice (some ⟨b, o, none⟩) al cc] W fun e w' => e = .returned (.tuple #[.agg #[.int .u64 x0, .int .i64 sz], .agg #[.int .u64 0, .int .i64 0], .bool true]) ∧ Below W.heap.size W w'))
    (HAC : Hid (∀ W, Below w.heap.size w W → Calls Tryd.prog 37 #[.agg #[.int .i64 c, .bool cw, .slice p len cap], .int .u64 x0, .int .i64 sz, .bool false] W fun e w' => e = .returned (.int .i64 0) ∧ Below W.heap.size W w'))
    (HMY : Hid (∀ W, Below w.heap.size w W → Calls Tryd.prog 38 #[.agg #[.int .i64 c, .bool cw, .slice p len cap], .slice mp mn mc] W fun e w' => e = .returned (.bool false) ∧ Below W.heap.size W w')) :
    Calls Tryd.prog 17 #[.agg #[.int .i64 c, .bool cw, .slice p len cap], .slice mp mn mc, .int .i64 3, .slice (some ⟨b, o, none⟩) al cc, .slice sq sl sc] w (DoPost 0 [] 0 [] [] 2 w) := by
  have i1 : (1 : Int) < (al : Int) := by omega
  have i1' : 1 < al := by omega
  have HC := Lib.hid c1
  clear c1
  go_enter Tryd.func17, Tryd.ntmps17
  go_wp2_with (first
    | (go_at_call 14; refine (HSP.out _ (below3_two w _ _)).mono ?_; rintro e w1 ⟨rfl, hb⟩; have HW1 := Lib.hid (RdW.first (ls := [.int .i64 c, .bool cw, .slice p len cap]) (s14 := [.int .u64 x0, .int .i64 sz]) (s15 := [.int .u64 0, .int .i64 0]) (t3 := 47) hb); have l0 := HW1.out.lay.cell 0 _ rfl; have l1 := HW1.out.lay.cell 1 _ rfl; have l2 := HW1.out.lay.cell 2 _ rfl; have k0 := HW1.out.rd.cell 0 _ rfl; have k1 := HW1.out.rd.cell 1 _ rfl; have k2 := HW1.out.wr.cell 0 _ rfl; have k3 := HW1.out.wr.cell 1 _ rfl; have d1 := (HW1.out.below.cell (p := ⟨b, o + 1, none⟩) hb0).trans HC.out)
    | (go_at_call 37; refine (HAC.out _ HW1.out.below).mono ?_; rintro e w2 ⟨rfl, hb2⟩; have HW2 := Lib.hid (HW1.out.next hb2); have m0 := HW2.out.lay.cell 0 _ rfl; have m1 := HW2.out.lay.cell 1 _ rfl; have m2 := HW2.out.lay.cell 2 _ rfl)
    | (go_at_call 38; refine (HMY.out _ HW2.out.below).mono ?_; rintro e w3 ⟨rfl, hb3⟩; have HW3 := Lib.hid (HW2.out.next hb3); have r0 := HW3.out.res.cell 0 _ rfl; have r1 := HW3.out.res.cell 1 _ rfl; have r2 := HW3.out.res.cell 2 _ rfl; have fz := HW3.out.res.frozen))
  refine bodyPost_ret (v := .tuple #[.int .u64 0, .slice none 0 0, .agg #[.int .i64 0, .slice none 0 0, .slice none 0 0], .int .i64 2]) (by simp [results, Tryd.results17, go_sem, r0, r1, r2]) rfl (DoPost.bad (below_set3 HW3.out.below (Nat.le_succ _) _ _ _))
set_option maxRecDepth 100000 in
set_option maxHeartbeats 2000000 in
theorem rdo_place4 (c : Int) (cw : Bool) (p : Option Addr) (len cap : Nat) (mp : Option Addr) (mn mc : Nat) (b o : Nat) (al cc : Nat) (sq : Option Addr) (sl sc : Nat) (x0 x1 sz E : Int) (w : World) (hb0 : b < w.heap.size) (hal : al ≤ 17592186044154) (hl : 2 ≤ al) (c1 : w.cell? ⟨b, o + 1, none⟩ = some (.int .u64 x1)) (h1 : 1 ≤ x1) (h64 : x1 ≤ 64) (hE : (E != 0) = true)
    (HSP : Hid (∀ W, Below w.heap.size w W → Calls Tryd.prog 14 #[.int .i64 4, .slice (some ⟨b, o, none⟩) al cc] W fun e w' => e = .returned (.tuple #[.agg #[.int .u64 0, .int .i64 0], .agg #[.int .u64 x0, .int .i64 sz], .bool true]) ∧ Below W.heap.size W w'))
    (HAC : Hid (∀ W, Below w.heap.size w W → Calls Tryd.prog 37 #[.agg #[.int .i64 c, .bool cw, .slice p len cap], .int .u64 x0, .int .i64 sz, .bool true] W fun e w' => e = .returned (.int .i64 E) ∧ Below W.heap.size W w')) :
    Calls Tryd.prog 17 #[.agg #[.int .i64 c, .bool cw, .slice p len cap], .slice mp mn mc, .int .i64 4, .slice (some ⟨b, o, none⟩) al cc, .slice sq sl sc] w (DoPost 0 [] 0 [] [] 50 w) := by
  have i1 : (1 : Int) < (al : Int) := by omega
  have i1' : 1 < al := by omega
  have HC := Lib.hid c1
  clear c1
  go_enter Tryd.func17, Tryd.ntmps17
  go_wp2_with (first
    | (go_at_call 14; refine (HSP.out _ (below3_two w _ _)).mono ?_; rintro e w1 ⟨rfl, hb⟩; have HW1 := Lib.hid (RdW.first (ls := [.int .i64 c, .bool cw, .slice p len cap]) (s14 := [.int .u64 0, .int .i64 0]) (s15 := [.int .u64 x0, .int .i64 sz]) (t3 := 47) hb); have l0 := HW1.out.lay.cell 0 _ rfl; have l1 := HW1.out.lay.cell 1 _ rfl; have l2 := HW1.out.lay.cell 2 _ rfl; have k0 := HW1.out.rd.cell 0 _ rfl; have k1 := HW1.out.rd.cell 1 _ rfl; have k2 := HW1.out.wr.cell 0 _ rfl; have k3 := HW1.out.wr.cell 1 _ rfl; have d1 := (HW1.out.below.cell (p := ⟨b, o + 1, none⟩) hb0).trans HC.out)
    | (go_at_call 37; refine (HAC.out _ HW1.out.below).mono ?_; rintro e w2 ⟨rfl, hb2⟩; have HW2 := Lib.hid (HW1.out.next hb2); have r0 := HW2.out.res.cell 0 _ rfl; have r1 := HW2.out.res.cell 1 _ rfl; have r2 := HW2.out.res.cell 2 _ rfl; have fz := HW2.out.res.frozen))
  refine bodyPost_ret (v := .tuple #[.int .u64 0, .slice none 0 0, .agg #[.int .i64 0, .slice none 0 0, .slice none 0 0], .int .i64 50]) (by simp [results, Tryd.results17, go_sem, r0, r1, r2]) rfl (DoPost.bad (below_set3 HW2.out.below (Nat.le_succ _) _ _ _))
set_option maxRecDepth 100000 in
set_option maxHeartbeats 2000000 in
theorem rdo_stray4 (c : Int) (cw : Bool) (p : Option Addr) (len cap : Nat) (mp : Option Addr) (mn mc : Nat) (b o : Nat) (al cc : Nat) (sq : Option Addr) (sl sc : Nat) (x0 x1 sz : Int) (w : World) (hb0 : b < w.heap.size) (hal : al ≤ 17592186044154) (hl : 2 ≤ al) (c1 : w.cell? ⟨b, o + 1, none⟩ = some (.int .u64 x1)) (h1 : 1 ≤ x1) (h64 : x1 ≤ 64)
    (HSP : Hid (∀ W, Below w.heap.size w W → Calls Tryd.prog 14 #[.int .i64 4, .slice (some ⟨b, o, none⟩) al cc] W fun e w' => e = .returned (.tuple #[.agg #[.int .u64 0, .int .i64 0], .agg #[.int .u64 x0, .int .i64 sz], .bool true]) ∧ Below W.heap.size W w'))
    (HAC : Hid (∀ W, Below w.heap.size w W → Calls Tryd.prog 37 #[.agg #[.int .i64 c, .bool cw, .slice p len cap], .int .u64 x0, .int .i64 sz, .bool true] W fun e w' => e = .returned (.int .i64 0) ∧ Below W.heap.size W w'))
    (HMY : Hid (∀ W, Below w.heap.size w W → Calls Tryd.prog 38 #[.agg #[.int .i64 c, .bool cw, .slice p len cap], .slice mp mn mc] W fun e w' => e = .returned (.bool false) ∧ Below W.heap.size W w')) :
    Calls Tryd.prog 17 #[.agg #[.int .i64 c, .bool cw, .slice p len cap], .slice mp mn mc, .int .i64 4, .slice (some ⟨b, o, none⟩) al cc, .slice sq sl sc] w (DoPost 0 [] 0 [] [] 2 w) := by
  have i1 : (1 : Int) < (al : Int) := by omega
  have i1' : 1 < al := by omega
  have HC := Lib.hid c1
  clear c1
  go_enter Tryd.func17, Tryd.ntmps17
  go_wp2_with (first
    | (go_at_call 14; refine (HSP.out _ (below3_two w _ _)).mono ?_; rintro e w1 ⟨rfl, hb⟩; have HW1 := Lib.hid (RdW.first (ls := [.int .i64 c, .bool cw, .slice p len cap]) (s14 := [.int .u64 0, .int .i64 0]) (s15 := [.int .u64 x0, .int .i64 sz]) (t3 := 47) hb); have l0 := HW1.out.lay.cell 0 _ rfl; have l1 := HW1.out.lay.cell 1 _ rfl; have l2 := HW1.out.lay.cell 2 _ rfl; have k0 := HW1.out.rd.cell 0 _ rfl; have k1 := HW1.out.rd.cell 1 _ rfl; have k2 := HW1.out.wr.cell 0 _ rfl; have k3 := HW1.out.wr.cell 1 _ rfl; have d1 := (HW1.out.below.cell (p := ⟨b, o + 1, none⟩) hb0).trans HC.out)
    | (go_at_call 37; refine (HAC.out _ HW1.out.below).mono ?_; rintro e w2 ⟨rfl, hb2⟩; have HW2 := Lib.hid (HW1.out.next hb2); have m0 := HW2.out.lay.cell 0 _ rfl; have m1 := HW2.out.lay.cell 1 _ rfl; have m2 := HW2.out.lay.cell 2 _ rfl)
    | (go_at_call 38; refine (HMY.out _ HW2.out.below).mono ?_; rintro e w3 ⟨rfl, hb3⟩; have HW3 := Lib.hid (HW2.out.next hb3); have r0 := HW3.out.res.cell 0 _ rfl; have r1 := HW3.out.res.cell 1 _ rfl; have r2 := HW3.out.res.cell 2 _ rfl; have fz := HW3.out.res.frozen))
  refine bodyPost_ret (v := .tuple #[.int .u64 0, .slice none 0 0, .agg #[.int .i64 0, .slice none 0 0, .slice none 0 0], .int .i64 2]) (by simp [results, Tryd.results17, go_sem, r0, r1, r2]) rfl (DoPost.bad (below_set3 HW3.out.below (Nat.le_succ _) _ _ _))
set_option maxRecDepth 100000 in
set_option maxHeartbeats 2000000 in
theorem rdo_stray (c : Int) (cw : Bool) (p : Option Addr) (len cap : Nat) (mp : Option Addr) (mn mc : Nat) (n : Int) (q : Option Addr) (al cc : Nat) (sq : Option Addr) (sl sc : Nat) (w : World) (h3 : n ≠ 3) (h4 : n ≠ 4)
    (HSP : Hid (∀ W, Below w.heap.size w W → Calls Tryd.prog 14 #[.int .i64 n, .slice q al cc] W fun e w' => e = .returned (.tuple #[.agg #[.int .u64 0, .int .i64 0], .agg #[.int .u64 0, .int .i64 0], .bool true]) ∧ Below W.heap.size W w'))
    (HMY : Hid (∀ W, Below w.heap.size w W → Calls Tryd.prog 38 #[.agg #[.int .i64 c, .bool cw, .slice p len cap], .slice mp mn mc] W fun e w' => e = .returned (.bool false) ∧ Below W.heap.size W w')) :
    Calls Tryd.prog 17 #[.agg #[.int .i64 c, .bool cw, .slice p len cap], .slice mp mn mc, .int .i64 n, .slice q al cc, .slice sq sl sc] w (DoPost 0 [] 0 [] [] 2 w) := by
  have e3 : (n == 3) = false := by simp [h3]
  have e4 : (n == 4) = false := by simp [h4]
  go_enter Tryd.func17, Tryd.ntmps17
  go_wp2_with (first
    | (go_at_call 14; refine (HSP.out _ (below3_two w _ _)).mono ?_; rintro e w1 ⟨rfl, hb⟩; have HW1 := Lib.hid (RdW.first (ls := [.int .i64 c, .bool cw, .slice p len cap]) (s14 := [.int .u64 0, .int .i64 0]) (s15 := [.int .u64 0, .int .i64 0]) (t3 := 47) hb); have l0 := HW1.out.lay.cell 0 _ rfl; have l1 := HW1.out.lay.cell 1 _ rfl; have l2 := HW1.out.lay.cell 2 _ rfl; have k0 := HW1.out.rd.cell 0 _ rfl; have k1 := HW1.out.rd.cell 1 _ rfl; have k2 := HW1.out.wr.cell 0 _ rfl; have k3 := HW1.out.wr.cell 1 _ rfl)
    | (go_at_call 38; refine (HMY.out _ HW1.out.below).mono ?_; rintro e w3 ⟨rfl, hb3⟩; have HW3 := Lib.hid (HW1.out.next hb3); have r0 := HW3.out.res.cell 0 _ rfl; have r1 := HW3.out.res.cell 1 _ rfl; have r2 := HW3.out.res.cell 2 _ rfl; have fz := HW3.out.res.frozen))
  refine bodyPost_ret (v := .tuple #[.int .u64 0, .slice none 0 0, .agg #[.int .i64 0, .slice none 0 0, .slice none 0 0], .int .i64 2]) (by simp [results, Tryd.results17, go_sem, r0, r1, r2]) rfl (DoPost.bad (below_set3 HW3.out.below (Nat.le_succ _) _ _ _))
end Go.Proofs.YthckkdkijajadaaDoor
