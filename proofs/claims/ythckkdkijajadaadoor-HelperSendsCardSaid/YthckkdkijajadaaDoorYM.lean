/- Contract of may: why a call may not be done. -/
import Derived.Test.YthckkdkijajadaaDoorMO
import Derived.Test.YthckkdkijajadaaDoorMN
namespace Go.Proofs.YthckkdkijajadaaDoor
open Go.RowKit M

theorem accN_ne {k : Nat} (hk : k ≤ 4) (h : k ≠ 4) : (accN k != 0) = true := by
  have e : k = 0 ∨ k = 1 ∨ k = 2 ∨ k = 3 := by omega
  rcases e with rfl | rfl | rfl | rfl <;> rfl
theorem ix0 (k0 k1 k2 : Int) (w : World) : (Instr.index 70 (.agg #[.int .i64 k0, .int .i64 k1, .int .i64 k2]) (.int .i64 0)).run Tryd.prog w = .ok (.int .i64 k0) w := by kernel_rfl
theorem ix1 (k0 k1 k2 : Int) (w : World) : (Instr.index 70 (.agg #[.int .i64 k0, .int .i64 k1, .int .i64 k2]) (.int .i64 1)).run Tryd.prog w = .ok (.int .i64 k1) w := by kernel_rfl
theorem ix2 (k0 k1 k2 : Int) (w : World) : (Instr.index 70 (.agg #[.int .i64 k0, .int .i64 k1, .int .i64 k2]) (.int .i64 2)).run Tryd.prog w = .ok (.int .i64 k2) w := by kernel_rfl
theorem cells_two (w : World) (cs : Array Value) (t1 : TypeId) (o2 : Obj) :
    (∀ i u, cs[i]? = some u → ((w.alloc (.cells cs t1)).alloc o2).cell? ⟨w.heap.size, i, none⟩ = some u) :=
  fun i u hi => (((Below.refl _ _).alloc (Nat.le_refl _) _).cell (by simp)).trans (cell_new w hi)
set_option maxRecDepth 100000 in
set_option maxHeartbeats 1000000 in
theorem may_plain_ok (nm : ByteArray) (k0 k1 k2 m n : Int) (q : Option Addr) (cn cc : Nat) (c : Int) (cw : Bool) (p : Option Addr) (len cap : Nat) (ms : List Ar) (mp : Option Addr) (mc : Nat) (Q : Nat → Option Addr) (C : Nat → Nat) (M : List (List Int)) (w : World) (hm : MapsAt w p len ms) (hM : MemAt w mp Q C M) (h0 : isAddr k0 = false) (h1 : isAddr k1 = false) (h2 : isAddr k2 = false) (hmay : mayB c ms len M = true) :
    Calls Tryd.prog 26 #[.agg #[.string nm, .int .i64 k0, .int .i64 k1, .int .i64 k2, .int .i64 m, .int .i64 n, .slice q cn cc], .agg #[.int .i64 c, .bool cw, .slice p len cap], .slice mp M.length mc] w fun e w' => e = .returned .nilIface ∧ Below w.heap.size w w' := by
  have HM := Lib.hid (fun W (hb : Below w.heap.size w W) => may_is (v := true) c cw p len cap ms mp mc Q C M W (hm.below hb) (hM.below hb) hmay)
  have H0 := Lib.hid h0
  have H1 := Lib.hid h1
  have H2 := Lib.hid h2
  generalize M.length = mn at *
  have i0 := ix0 k0 k1 k2
  have i1 := ix1 k0 k1 k2
  have i2 := ix2 k0 k1 k2
  clear hm hM h0 h1 h2 hmay
  go_enter Tryd.func26, Tryd.ntmps26
  go_wp2
  refine wp_loop_rounds 4 ?_
  rw [rounds_succ]
  go_wp2_with (go_at_call 44; refine (isAddr_is _ _ H0.out).mono ?_; rintro e w' ⟨rfl, rfl⟩)
  rw [rounds_succ]
  go_wp2_with (go_at_call 44; refine (isAddr_is _ _ H1.out).mono ?_; rintro e w' ⟨rfl, rfl⟩)
  rw [rounds_succ]
  go_wp2_with (go_at_call 44; refine (isAddr_is _ _ H2.out).mono ?_; rintro e w' ⟨rfl, rfl⟩)
  rw [rounds_succ]
  go_wp2_with (go_at_call 46; refine (HM.out _ (below3_two w _ _)).mono ?_; rintro e w1 ⟨rfl, hb⟩)
  go_ret
  exact ⟨rfl, below2 hb⟩
theorem call_in {w w1 : World} {o2 : Obj} {v0 v1 v2 v3 v4 v5 v6 : Value} {t : TypeId} (hb : Below ((w.alloc (.cells #[v0, v1, v2, v3, v4, v5, v6] t)).alloc o2).heap.size ((w.alloc (.cells #[v0, v1, v2, v3, v4, v5, v6] t)).alloc o2) w1) :
    w1.cell? ⟨w.heap.size, 4, none⟩ = some v4 ∧ w1.cell? ⟨w.heap.size, 5, none⟩ = some v5 :=
  ⟨(hb.cell (p := ⟨w.heap.size, 4, none⟩) (by simp; omega)).trans (cells_two w _ _ _ 4 _ rfl), (hb.cell (p := ⟨w.heap.size, 5, none⟩) (by simp; omega)).trans (cells_two w _ _ _ 5 _ rfl)⟩
set_option maxRecDepth 100000 in
set_option maxHeartbeats 1000000 in
theorem may_plain_no (s : Nat → Addr) (nm : ByteArray) (k0 k1 k2 m n : Int) (q : Option Addr) (cn cc : Nat) (c : Int) (cw : Bool) (p : Option Addr) (len cap : Nat) (ms : List Ar) (mp : Option Addr) (mc : Nat) (Q : Nat → Option Addr) (C : Nat → Nat) (M : List (List Int)) (w : World) (hm : MapsAt w p len ms) (hM : MemAt w mp Q C M) (h0 : isAddr k0 = false) (h1 : isAddr k1 = false) (h2 : isAddr k2 = false) (hmay : mayB c ms len M = false) (hs : HSent w s) :
    Calls Tryd.prog 26 #[.agg #[.string nm, .int .i64 k0, .int .i64 k1, .int .i64 k2, .int .i64 m, .int .i64 n, .slice q cn cc], .agg #[.int .i64 c, .bool cw, .slice p len cap], .slice mp M.length mc] w fun e w' => e = .returned (rfV s n 4) ∧ Below w.heap.size w w' := by
  have HM := Lib.hid (fun W (hb : Below w.heap.size w W) => may_is (v := false) c cw p len cap ms mp mc Q C M W (hm.below hb) (hM.below hb) hmay)
  have HS := Lib.hid hs
  have hz : 4 < w.heap.size := hs.size 4
  unfold rfV
  have H0 := Lib.hid h0
  have H1 := Lib.hid h1
  have H2 := Lib.hid h2
  generalize M.length = mn at *
  have i0 := ix0 k0 k1 k2
  have i1 := ix1 k0 k1 k2
  have i2 := ix2 k0 k1 k2
  clear hm hM h0 h1 h2 hmay hs
  go_enter Tryd.func26, Tryd.ntmps26
  go_wp2
  refine wp_loop_rounds 4 ?_
  rw [rounds_succ]
  go_wp2_with (go_at_call 44; refine (isAddr_is _ _ H0.out).mono ?_; rintro e w' ⟨rfl, rfl⟩)
  rw [rounds_succ]
  go_wp2_with (go_at_call 44; refine (isAddr_is _ _ H1.out).mono ?_; rintro e w' ⟨rfl, rfl⟩)
  rw [rounds_succ]
  go_wp2_with (go_at_call 44; refine (isAddr_is _ _ H2.out).mono ?_; rintro e w' ⟨rfl, rfl⟩)
  rw [rounds_succ]
  go_wp2_with (go_at_call 46; refine (HM.out _ (below3_two w _ _)).mono ?_; rintro e w1 ⟨rfl, hb⟩; have x5 := (call_in hb).2; have G := (HS.out.below (below2 hb)).at 4 (G := 4) rfl (by omega))
  go_ret
  exact ⟨rfl, below2 hb⟩
/-- a world behind may's first operations: the boxes of the call and of the layout -/
structure MayW (w W : World) (m n c : Int) (cw : Bool) (p : Option Addr) (len cap : Nat) : Prop where
  below : Below w.heap.size w W
  size : w.heap.size + 1 < W.heap.size
  c4 : W.cell? ⟨w.heap.size, 4, none⟩ = some (.int .i64 m)
  c5 : W.cell? ⟨w.heap.size, 5, none⟩ = some (.int .i64 n)
  l0 : W.cell? ⟨w.heap.size + 1, 0, none⟩ = some (.int .i64 c)
  l1 : W.cell? ⟨w.heap.size + 1, 1, none⟩ = some (.bool cw)
  l2 : W.cell? ⟨w.heap.size + 1, 2, none⟩ = some (.slice p len cap)
theorem MayW.next {w W W' : World} {m n c : Int} {cw : Bool} {p : Option Addr} {len cap : Nat} (h : MayW w W m n c cw p len cap) (hb : Below W.heap.size W W') : MayW w W' m n c cw p len cap :=
  have g1 : w.heap.size < W.heap.size := by have := h.size; omega
  ⟨below_next h.below hb, Nat.lt_of_lt_of_le h.size hb.size, (hb.cell (p := ⟨w.heap.size, 4, none⟩) g1).trans h.c4, (hb.cell (p := ⟨w.heap.size, 5, none⟩) g1).trans h.c5, (hb.cell (p := ⟨w.heap.size + 1, 0, none⟩) h.size).trans h.l0, (hb.cell (p := ⟨w.heap.size + 1, 1, none⟩) h.size).trans h.l1, (hb.cell (p := ⟨w.heap.size + 1, 2, none⟩) h.size).trans h.l2⟩
theorem MayW.first {w : World} {v0 v1 v2 v3 v6 : Value} {m n c : Int} {cw : Bool} {p : Option Addr} {len cap : Nat} {t1 t2 : TypeId} : MayW w ((w.alloc (.cells #[v0, v1, v2, v3, .int .i64 m, .int .i64 n, v6] t1)).alloc (.cells #[.int .i64 c, .bool cw, .slice p len cap] t2)) m n c cw p len cap :=
  ⟨below3_two w _ _, by simp, cells_two w _ _ _ 4 _ rfl, cells_two w _ _ _ 5 _ rfl, cell_new2 _ _ trivial rfl, cell_new2 _ _ trivial rfl, cell_new2 _ _ trivial rfl⟩
set_option maxRecDepth 100000 in
set_option maxHeartbeats 2000000 in
theorem may_size (s : Nat → Addr) (s' : Nat → Addr) (wf : Bool) (nm : ByteArray) (k0 k1 k2 m n : Int) (b0 o0 : Nat) (A : List Int) (cc : Nat) (c : Int) (cw : Bool) (p : Option Addr) (len cap : Nat) (ms : List Ar) (mp : Option Addr) (mc : Nat) (Q : Nat → Option Addr) (C : Nat → Nat) (M : List (List Int)) (a0 a1 : Int) (w : World) (hs : HSent w s) (hS : Sent w s') (hm : MapsAt w p len ms) (hM : MemAt w mp Q C M) (hA : WordsAt w (some ⟨b0, o0, none⟩) A) (hA2 : A = [a0, a1]) (h0 : isAddr k0 = true) (h1 : isAddr k1 = false) (h2 : isAddr k2 = false) (_ : (k0 == 3) = wf) (hbad : szC a1 < 1 ∨ m < szC a1) :
    Calls Tryd.prog 26 #[.agg #[.string nm, .int .i64 k0, .int .i64 k1, .int .i64 k2, .int .i64 m, .int .i64 n, .slice (some ⟨b0, o0, none⟩) A.length cc], .agg #[.int .i64 c, .bool cw, .slice p len cap], .slice mp M.length mc] w fun e w' => e = .returned (rfV s n 2) ∧ Below w.heap.size w w' := by
  have hd0 := hA.bd 0 (by rw [hA2]; simp)
  rw [show A.getD 0 0 = a0 by rw [hA2]; rfl] at hd0
  have HSP := Lib.hid (fun W (hb : Below w.heap.size w W) => span_pair nm k0 k1 k2 m n b0 o0 A cc a0 a1 W (hA.below hb) hA2)
  have HAC := Lib.hid (fun W (hb : Below w.heap.size w W) => access_any s' c cw p len cap ms a0 (szC a1) wf W (hS.below hb) (hm.below hb) hd0)
  have HM := Lib.hid (fun W (hb : Below w.heap.size w W) => may_any c cw p len cap ms mp mc Q C M W (hm.below hb) (hM.below hb))
  have HS := Lib.hid hs
  have hz2 : 2 < w.heap.size := hs.size 2
  have hz3 : 3 < w.heap.size := hs.size 3
  have hz4 : 4 < w.heap.size := hs.size 4
  have H0 := Lib.hid h0
  have H1 := Lib.hid h1
  have H2 := Lib.hid h2
  have hle := findK_le c cw ms len a0 (szC a1) wf
  clear HAC HM
  generalize szC a1 = sz at *
  generalize findK c cw ms len a0 sz wf = K at *
  generalize M.length = mn at *
  generalize A.length = al at *
  have i0 := ix0 k0 k1 k2
  have i1 := ix1 k0 k1 k2
  have i2 := ix2 k0 k1 k2
  unfold rfV
  clear hm hM h0 h1 h2 hs hS hA hA2 hd0
  go_enter Tryd.func26, Tryd.ntmps26
  go_wp2
  refine wp_loop_rounds 4 ?_
  rw [rounds_succ]
  rcases hbad with hbad | hbad <;> go_wp2_with (first
    | (go_at_call 44; refine (isAddr_is _ _ H0.out).mono ?_; rintro e w' ⟨rfl, rfl⟩)
    | (go_at_call 35; refine (HSP.out _ (below3_two w _ _)).mono ?_; rintro e w1 ⟨rfl, hb⟩; have HW1 := Lib.hid ((MayW.first.next hb).next ((Below.refl w1.heap.size w1).alloc (Nat.le_refl _) (.cells #[.int .u64 a0, .int .i64 sz] 47))); have x4 := HW1.out.c4; have x5 := HW1.out.c5; have y0 := HW1.out.l0; have y1 := HW1.out.l1; have y2 := HW1.out.l2; have G := (HS.out.below HW1.out.below).at 2 (G := 2) rfl (by omega)))
  all_goals
    go_ret
    exact ⟨rfl, HW1.out.below⟩
set_option maxRecDepth 100000 in
set_option maxHeartbeats 2000000 in
theorem may_place (s : Nat → Addr) (s' : Nat → Addr) (wf : Bool) (nm : ByteArray) (k0 k1 k2 m n : Int) (b0 o0 : Nat) (A : List Int) (cc : Nat) (c : Int) (cw : Bool) (p : Option Addr) (len cap : Nat) (ms : List Ar) (mp : Option Addr) (mc : Nat) (Q : Nat → Option Addr) (C : Nat → Nat) (M : List (List Int)) (a0 a1 : Int) (w : World) (hs : HSent w s) (hS : Sent w s') (hm : MapsAt w p len ms) (hM : MemAt w mp Q C M) (hA : WordsAt w (some ⟨b0, o0, none⟩) A) (hA2 : A = [a0, a1]) (h0 : isAddr k0 = true) (h1 : isAddr k1 = false) (h2 : isAddr k2 = false) (hw : (k0 == 3) = wf) (hok : 1 ≤ szC a1 ∧ szC a1 ≤ m) (hbad : findK c cw ms len a0 (szC a1) wf ≠ 4) :
    Calls Tryd.prog 26 #[.agg #[.string nm, .int .i64 k0, .int .i64 k1, .int .i64 k2, .int .i64 m, .int .i64 n, .slice (some ⟨b0, o0, none⟩) A.length cc], .agg #[.int .i64 c, .bool cw, .slice p len cap], .slice mp M.length mc] w fun e w' => e = .returned (rfV s n 3) ∧ Below w.heap.size w w' := by
  have hd0 := hA.bd 0 (by rw [hA2]; simp)
  rw [show A.getD 0 0 = a0 by rw [hA2]; rfl] at hd0
  have HSP := Lib.hid (fun W (hb : Below w.heap.size w W) => span_pair nm k0 k1 k2 m n b0 o0 A cc a0 a1 W (hA.below hb) hA2)
  have HAC := Lib.hid (fun W (hb : Below w.heap.size w W) => access_any s' c cw p len cap ms a0 (szC a1) wf W (hS.below hb) (hm.below hb) hd0)
  have HM := Lib.hid (fun W (hb : Below w.heap.size w W) => may_any c cw p len cap ms mp mc Q C M W (hm.below hb) (hM.below hb))
  have HS := Lib.hid hs
  have hz2 : 2 < w.heap.size := hs.size 2
  have hz3 : 3 < w.heap.size := hs.size 3
  have hz4 : 4 < w.heap.size := hs.size 4
  have H0 := Lib.hid h0
  have H1 := Lib.hid h1
  have H2 := Lib.hid h2
  have hle := findK_le c cw ms len a0 (szC a1) wf
  clear HM
  have hne := accN_ne hle hbad
  obtain ⟨o1, o2⟩ := hok
  generalize szC a1 = sz at *
  generalize findK c cw ms len a0 sz wf = K at *
  generalize M.length = mn at *
  generalize A.length = al at *
  have i0 := ix0 k0 k1 k2
  have i1 := ix1 k0 k1 k2
  have i2 := ix2 k0 k1 k2
  unfold rfV
  clear hm hM h0 h1 h2 hs hS hA hA2 hd0
  go_enter Tryd.func26, Tryd.ntmps26
  go_wp2
  refine wp_loop_rounds 4 ?_
  rw [rounds_succ]
  go_wp2_with (first
    | (go_at_call 44; refine (isAddr_is _ _ H0.out).mono ?_; rintro e w' ⟨rfl, rfl⟩)
    | (go_at_call 35; refine (HSP.out _ (below3_two w _ _)).mono ?_; rintro e w1 ⟨rfl, hb⟩; have HW1 := Lib.hid ((MayW.first.next hb).next ((Below.refl w1.heap.size w1).alloc (Nat.le_refl _) (.cells #[.int .u64 a0, .int .i64 sz] 47))); have x4 := HW1.out.c4; have x5 := HW1.out.c5; have y0 := HW1.out.l0; have y1 := HW1.out.l1; have y2 := HW1.out.l2)
    | (go_at_call 45; refine (HAC.out _ HW1.out.below).mono ?_; rintro e w2 ⟨rfl, hb2⟩; have HW2 := Lib.hid (HW1.out.next hb2); have u5 := HW2.out.c5; have v0 := HW2.out.l0; have v1 := HW2.out.l1; have v2 := HW2.out.l2; have G := (HS.out.below HW2.out.below).at 3 (G := 3) rfl (by omega)))
  go_ret
  exact ⟨rfl, HW2.out.below⟩
set_option maxRecDepth 100000 in
set_option maxHeartbeats 2000000 in
theorem may_stray (s : Nat → Addr) (s' : Nat → Addr) (wf : Bool) (nm : ByteArray) (k0 k1 k2 m n : Int) (b0 o0 : Nat) (A : List Int) (cc : Nat) (c : Int) (cw : Bool) (p : Option Addr) (len cap : Nat) (ms : List Ar) (mp : Option Addr) (mc : Nat) (Q : Nat → Option Addr) (C : Nat → Nat) (M : List (List Int)) (a0 a1 : Int) (w : World) (hs : HSent w s) (hS : Sent w s') (hm : MapsAt w p len ms) (hM : MemAt w mp Q C M) (hA : WordsAt w (some ⟨b0, o0, none⟩) A) (hA2 : A = [a0, a1]) (h0 : isAddr k0 = true) (h1 : isAddr k1 = false) (h2 : isAddr k2 = false) (hw : (k0 == 3) = wf) (hok : 1 ≤ szC a1 ∧ szC a1 ≤ m) (hK : findK c cw ms len a0 (szC a1) wf = 4) (hmay : mayB c ms len M = false) :
    Calls Tryd.prog 26 #[.agg #[.string nm, .int .i64 k0, .int .i64 k1, .int .i64 k2, .int .i64 m, .int .i64 n, .slice (some ⟨b0, o0, none⟩) A.length cc], .agg #[.int .i64 c, .bool cw, .slice p len cap], .slice mp M.length mc] w fun e w' => e = .returned (rfV s n 4) ∧ Below w.heap.size w w' := by
  have hd0 := hA.bd 0 (by rw [hA2]; simp)
  rw [show A.getD 0 0 = a0 by rw [hA2]; rfl] at hd0
  have HSP := Lib.hid (fun W (hb : Below w.heap.size w W) => span_pair nm k0 k1 k2 m n b0 o0 A cc a0 a1 W (hA.below hb) hA2)
  have HAC := Lib.hid (fun W (hb : Below w.heap.size w W) => access_any s' c cw p len cap ms a0 (szC a1) wf W (hS.below hb) (hm.below hb) hd0)
  have HM := Lib.hid (fun W (hb : Below w.heap.size w W) => may_any c cw p len cap ms mp mc Q C M W (hm.below hb) (hM.below hb))
  have HS := Lib.hid hs
  have hz2 : 2 < w.heap.size := hs.size 2
  have hz3 : 3 < w.heap.size := hs.size 3
  have hz4 : 4 < w.heap.size := hs.size 4
  have H0 := Lib.hid h0
  have H1 := Lib.hid h1
  have H2 := Lib.hid h2
  have hle := findK_le c cw ms len a0 (szC a1) wf
  obtain ⟨o1, o2⟩ := hok
  rw [hmay] at HM
  rw [hK, accN_4] at HAC
  generalize szC a1 = sz at *
  generalize findK c cw ms len a0 sz wf = K at *
  generalize M.length = mn at *
  generalize A.length = al at *
  have i0 := ix0 k0 k1 k2
  have i1 := ix1 k0 k1 k2
  have i2 := ix2 k0 k1 k2
  unfold rfV
  clear hm hM h0 h1 h2 hs hS hA hA2 hd0
  go_enter Tryd.func26, Tryd.ntmps26
  go_wp2
  refine wp_loop_rounds 4 ?_
  rw [rounds_succ]
  go_wp2_with (first
    | (go_at_call 44; refine (isAddr_is _ _ H0.out).mono ?_; rintro e w' ⟨rfl, rfl⟩)
    | (go_at_call 35; refine (HSP.out _ (below3_two w _ _)).mono ?_; rintro e w1 ⟨rfl, hb⟩; have HW1 := Lib.hid ((MayW.first.next hb).next ((Below.refl w1.heap.size w1).alloc (Nat.le_refl _) (.cells #[.int .u64 a0, .int .i64 sz] 47))); have x4 := HW1.out.c4; have x5 := HW1.out.c5; have y0 := HW1.out.l0; have y1 := HW1.out.l1; have y2 := HW1.out.l2)
    | (go_at_call 45; refine (HAC.out _ HW1.out.below).mono ?_; rintro e w2 ⟨rfl, hb2⟩; have HW2 := Lib.hid (HW1.out.next hb2); have u5 := HW2.out.c5; have v0 := HW2.out.l0; have v1 := HW2.out.l1; have v2 := HW2.out.l2))
  rw [rounds_succ]
  go_wp2_with (go_at_call 44; refine (isAddr_is _ _ H1.out).mono ?_; rintro e w' ⟨rfl, rfl⟩)
  rw [rounds_succ]
  go_wp2_with (go_at_call 44; refine (isAddr_is _ _ H2.out).mono ?_; rintro e w' ⟨rfl, rfl⟩)
  rw [rounds_succ]
  go_wp2_with (go_at_call 46; refine (HM.out _ HW2.out.below).mono ?_; rintro e w3 ⟨rfl, hb3⟩; have HW3 := Lib.hid (HW2.out.next hb3); have t5 := HW3.out.c5; have G := (HS.out.below HW3.out.below).at 4 (G := 4) rfl (by omega))
  go_ret
  exact ⟨rfl, HW3.out.below⟩
set_option maxRecDepth 100000 in
set_option maxHeartbeats 2000000 in
theorem may_fine (s : Nat → Addr) (s' : Nat → Addr) (wf : Bool) (nm : ByteArray) (k0 k1 k2 m n : Int) (b0 o0 : Nat) (A : List Int) (cc : Nat) (c : Int) (cw : Bool) (p : Option Addr) (len cap : Nat) (ms : List Ar) (mp : Option Addr) (mc : Nat) (Q : Nat → Option Addr) (C : Nat → Nat) (M : List (List Int)) (a0 a1 : Int) (w : World) (hs : HSent w s) (hS : Sent w s') (hm : MapsAt w p len ms) (hM : MemAt w mp Q C M) (hA : WordsAt w (some ⟨b0, o0, none⟩) A) (hA2 : A = [a0, a1]) (h0 : isAddr k0 = true) (h1 : isAddr k1 = false) (h2 : isAddr k2 = false) (hw : (k0 == 3) = wf) (hok : 1 ≤ szC a1 ∧ szC a1 ≤ m) (hK : findK c cw ms len a0 (szC a1) wf = 4) (hmay : mayB c ms len M = true) :
    Calls Tryd.prog 26 #[.agg #[.string nm, .int .i64 k0, .int .i64 k1, .int .i64 k2, .int .i64 m, .int .i64 n, .slice (some ⟨b0, o0, none⟩) A.length cc], .agg #[.int .i64 c, .bool cw, .slice p len cap], .slice mp M.length mc] w fun e w' => e = .returned .nilIface ∧ Below w.heap.size w w' := by
  have hd0 := hA.bd 0 (by rw [hA2]; simp)
  rw [show A.getD 0 0 = a0 by rw [hA2]; rfl] at hd0
  have HSP := Lib.hid (fun W (hb : Below w.heap.size w W) => span_pair nm k0 k1 k2 m n b0 o0 A cc a0 a1 W (hA.below hb) hA2)
  have HAC := Lib.hid (fun W (hb : Below w.heap.size w W) => access_any s' c cw p len cap ms a0 (szC a1) wf W (hS.below hb) (hm.below hb) hd0)
  have HM := Lib.hid (fun W (hb : Below w.heap.size w W) => may_any c cw p len cap ms mp mc Q C M W (hm.below hb) (hM.below hb))
  have HS := Lib.hid hs
  have hz2 : 2 < w.heap.size := hs.size 2
  have hz3 : 3 < w.heap.size := hs.size 3
  have hz4 : 4 < w.heap.size := hs.size 4
  have H0 := Lib.hid h0
  have H1 := Lib.hid h1
  have H2 := Lib.hid h2
  have hle := findK_le c cw ms len a0 (szC a1) wf
  obtain ⟨o1, o2⟩ := hok
  rw [hmay] at HM
  rw [hK, accN_4] at HAC
  generalize szC a1 = sz at *
  generalize findK c cw ms len a0 sz wf = K at *
  generalize M.length = mn at *
  generalize A.length = al at *
  have i0 := ix0 k0 k1 k2
  have i1 := ix1 k0 k1 k2
  have i2 := ix2 k0 k1 k2
  clear hm hM h0 h1 h2 hs hS hA hA2 hd0
  go_enter Tryd.func26, Tryd.ntmps26
  go_wp2
  refine wp_loop_rounds 4 ?_
  rw [rounds_succ]
  go_wp2_with (first
    | (go_at_call 44; refine (isAddr_is _ _ H0.out).mono ?_; rintro e w' ⟨rfl, rfl⟩)
    | (go_at_call 35; refine (HSP.out _ (below3_two w _ _)).mono ?_; rintro e w1 ⟨rfl, hb⟩; have HW1 := Lib.hid ((MayW.first.next hb).next ((Below.refl w1.heap.size w1).alloc (Nat.le_refl _) (.cells #[.int .u64 a0, .int .i64 sz] 47))); have x4 := HW1.out.c4; have x5 := HW1.out.c5; have y0 := HW1.out.l0; have y1 := HW1.out.l1; have y2 := HW1.out.l2)
    | (go_at_call 45; refine (HAC.out _ HW1.out.below).mono ?_; rintro e w2 ⟨rfl, hb2⟩; have HW2 := Lib.hid (HW1.out.next hb2); have u5 := HW2.out.c5; have v0 := HW2.out.l0; have v1 := HW2.out.l1; have v2 := HW2.out.l2))
  rw [rounds_succ]
  go_wp2_with (go_at_call 44; refine (isAddr_is _ _ H1.out).mono ?_; rintro e w' ⟨rfl, rfl⟩)
  rw [rounds_succ]
  go_wp2_with (go_at_call 44; refine (isAddr_is _ _ H2.out).mono ?_; rintro e w' ⟨rfl, rfl⟩)
  rw [rounds_succ]
  go_wp2_with (go_at_call 46; refine (HM.out _ HW2.out.below).mono ?_; rintro e w3 ⟨rfl, hb3⟩; have HW3 := Lib.hid (HW2.out.next hb3))
  go_ret
  exact ⟨rfl, HW3.out.below⟩
end Go.Proofs.YthckkdkijajadaaDoor
