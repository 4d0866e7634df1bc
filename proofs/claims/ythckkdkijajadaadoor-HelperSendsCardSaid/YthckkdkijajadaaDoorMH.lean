/- Contracts of the document's own answer: what is asked of a memory, and what is read. -/
import Derived.Test.YthckkdkijajadaaDoorMG
import Derived.Laws.BytesArg

/- Contracts of the document's own answer: what is asked of a memory, and what is read. -/
namespace Go.Proofs.YthckkdkijajadaaDoor
open Go.RowKit M

set_option maxRecDepth 100000 in
set_option maxHeartbeats 1000000 in
theorem asked_any (s : Nat → Addr) (c : Int) (cw : Bool) (q : Option Addr) (len cap : Nat) (ms : List Ar) (mp : Option Addr) (mc : Nat) (Q : Nat → Option Addr) (C : Nat → Nat) (M : List (List Int)) (a n : Int) (write : Bool) (w : World) (hs : Sent w s) (hm : MapsAt w q len ms) (hM : MemAt w mp Q C M) (ha : 0 ≤ a ∧ a < 18446744073709551616) :
    Calls Tryd.prog 42 #[.agg #[.int .i64 c, .bool cw, .slice q len cap], .slice mp M.length mc, .int .u64 a, .int .i64 n, .bool write] w fun e w' =>
      e = .returned (.int .i64 (accN (rdK c cw ms len M a n write))) ∧ Below w.heap.size w w' := by
  have H0 := Lib.hid (LawW.first (c := c) (cw := cw) (cap := cap) hs hm)
  have HM0 := Lib.hid (hM.alloc (.cells #[.int .i64 c, .bool cw, .slice q len cap] 27))
  have HMAY := Lib.hid (fun W hs hm hM => rmay_any s c cw q len cap ms mp mc Q C M W hs hm hM)
  have HACC := Lib.hid (fun W hm => raccess_any c cw q len cap ms a n write W hm ha)
  obtain ⟨K, hK⟩ : ∃ K, M.length = K := ⟨_, rfl⟩
  rw [hK] at HMAY ⊢
  unfold rdK
  cases hy : mayB c ms len M
  · have e : accN (if false = true then findK c cw ms len a n write else 0) = 2 := by simp [accN, numOf]
    rw [e]
    rw [hy] at HMAY
    clear hs hm hM hK hy e
    go_enter Tryd.func42, Tryd.ntmps42
    go_wp2_with (go_at_call 38; refine (HMAY.out _ H0.out.sent H0.out.maps HM0.out).mono ?_; rintro e w1 ⟨rfl, hb⟩; have H1 := Lib.hid (H0.out.next hb); clear hb)
    go_ret
    exact ⟨rfl, H1.out.below⟩
  · rw [if_pos rfl]
    rw [hy] at HMAY
    generalize accN (findK c cw ms len a n write) = E at *
    clear hs hm hM hK hy
    go_enter Tryd.func42, Tryd.ntmps42
    go_wp2_with (first
      | (go_at_call 38; refine (HMAY.out _ H0.out.sent H0.out.maps HM0.out).mono ?_; rintro e w1 ⟨rfl, hb⟩; have H1 := Lib.hid (H0.out.next hb); have k0 := H1.out.b0; have k1 := H1.out.b1; have k2 := H1.out.b2; clear hb)
      | (go_at_call 37; refine (HACC.out _ H1.out.maps).mono ?_; rintro e w2 ⟨rfl, hb⟩; have H2 := Lib.hid (H1.out.next hb); clear hb))
    go_ret
    exact ⟨rfl, H2.out.below⟩

theorem own_empty (w : World) : (w.alloc (.cells #[] 5)).ownsRow w.heap.size 5 1 (.slice (some ⟨w.heap.size, 0, none⟩) 0 0) 0 [] :=
  ⟨rfl, .inr ⟨_, 0, #[], rfl, Nat.le_refl _, heap_new w _, Nat.le_refl _, Nat.zero_le _, rfl, rfl⟩⟩
def RowPost (B : List Int) (r : Int) (w : World) (e : Ending) (w' : World) : Prop :=
  ∃ g gc, e = .returned (.tuple #[.slice g B.length gc, .int .i64 r]) ∧ Below w.heap.size w w' ∧ RowAt w' g B ∧ (g = none ∨ ∃ b, g = some ⟨b, 0, none⟩)
set_option maxRecDepth 100000 in
set_option maxHeartbeats 1000000 in
theorem rbytes_bad (s : Nat → Addr) (c : Int) (cw : Bool) (q : Option Addr) (len cap : Nat) (ms : List Ar) (mp : Option Addr) (mc : Nat) (Q : Nat → Option Addr) (C : Nat → Nat) (M : List (List Int)) (a n : Int) (w : World) (hs : Sent w s) (hm : MapsAt w q len ms) (hM : MemAt w mp Q C M) (ha : 0 ≤ a ∧ a < 18446744073709551616) (k : Nat) (hk : rdK c cw ms len M a n false = k) (hk4 : k < 4) :
    Calls Tryd.prog 21 #[.agg #[.int .i64 c, .bool cw, .slice q len cap], .slice mp M.length mc, .int .u64 a, .int .i64 n] w (RowPost [] (numOf k) w) := by
  have H0 := Lib.hid (LawW.first (c := c) (cw := cw) (cap := cap) hs hm)
  have HM0 := Lib.hid (hM.alloc (.cells #[.int .i64 c, .bool cw, .slice q len cap] 27))
  have HASK := Lib.hid (fun W hs hm hM => asked_any s c cw q len cap ms mp mc Q C M a n false W hs hm hM ha)
  rw [hk, accN_lt hk4] at HASK
  have hne : (numOf k != 0) = true := by
    have : numOf k ≠ 0 := by unfold numOf; (repeat' split) <;> omega
    simpa using this
  obtain ⟨K, hK⟩ : ∃ K, M.length = K := ⟨_, rfl⟩
  rw [hK] at HASK ⊢
  generalize numOf k = E at *
  clear hs hm hM hK hk ha
  go_enter Tryd.func21, Tryd.ntmps21
  go_wp2_with (go_at_call 42; refine (HASK.out _ H0.out.sent H0.out.maps HM0.out).mono ?_; rintro e w1 ⟨rfl, hb⟩; have H1 := Lib.hid (H0.out.next hb); clear hb)
  go_ret2
  exact ⟨none, 0, rfl, H1.out.below, RowAt.nil _ _, .inl rfl⟩
set_option maxRecDepth 100000 in
set_option maxHeartbeats 1000000 in
theorem rbytes_ok (s : Nat → Addr) (c : Int) (cw : Bool) (q : Option Addr) (len cap : Nat) (ms : List Ar) (mp : Option Addr) (mc : Nat) (Q : Nat → Option Addr) (C : Nat → Nat) (M : List (List Int)) (a n : Int) (w : World) (hs : Sent w s) (hm : MapsAt w q len ms) (hM : MemAt w mp Q C M) (ha : 0 ≤ a ∧ a < 18446744073709551616) (hk : rdK c cw ms len M a n false = 4) :
    Calls Tryd.prog 21 #[.agg #[.int .i64 c, .bool cw, .slice q len cap], .slice mp M.length mc, .int .u64 a, .int .i64 n] w (RowPost (rdB c cw ms len M a n) 0 w) := by
  obtain ⟨r, o, nn, hr, ho, hn, hn1, hn2, hrM, hfit, hL⟩ := granted hm.hlen (rdK_ok hk).1 (rdK_ok hk).2
  obtain ⟨b, off, hmp, hbl, hcell, hLC, hC⟩ := hM.cells r hrM
  obtain ⟨b2, off2, hQ, hbl2, _⟩ := hM.rows r 0 hrM (by omega)
  have hrow := hM.row hrM
  rw [hQ] at hcell hrow
  have hB : rdB c cw ms len M a n = cut (M.getD r []) o nn := by unfold rdB; rw [if_pos hk, hr, ho, hn]; simp
  rw [hB]
  have hcut := hrow.cut hfit
  have hcl : (cut (M.getD r []) o nn).length = nn := cut_length hfit
  have HR : regOf a = (r : Int) + 1 := by omega
  have H0 := Lib.hid (LawW.first (c := c) (cw := cw) (cap := cap) hs hm)
  have HM0 := Lib.hid (hM.alloc (.cells #[.int .i64 c, .bool cw, .slice q len cap] 27))
  have HASK := Lib.hid (fun W hs hm hM => asked_any s c cw q len cap ms mp mc Q C M a n false W hs hm hM ha)
  rw [hk, accN_4] at HASK
  have HSP := Lib.hid (fun W => rsplit_any a W ha.1 ha.2)
  rw [HR, ho] at HSP
  obtain ⟨K, hK⟩ : ∃ K, M.length = K := ⟨_, rfl⟩
  obtain ⟨L, hLL⟩ : ∃ L, (M.getD r []).length = L := ⟨_, rfl⟩
  have hKs : K ≤ 140737488351232 := hK ▸ hM.small
  rw [hK] at HASK hrM ⊢
  rw [hLL] at hcell hfit hL hLC
  generalize cut (M.getD r []) o nn = B at *
  generalize C r = Cr at *
  subst hmp hn
  obtain ⟨i5, h5, g5, s5, b5⟩ := info_parts info5
  have H5 := Lib.hid h5
  have G5 := Lib.hid g5
  have S5 := Lib.hid s5
  have B5 := Lib.hid b5
  clear h5 g5 s5 b5
  have HCUT := Lib.hid hcut
  have HCL := Lib.hid hcl
  have HCELL := Lib.hid hcell
  clear hs hm hM hK hk ha hr ho hQ hrow hB hcut hcl HR hLL hcell
  have wsum : IntKind.i64.wrap ((o : Int) + nn) = (o : Int) + nn := IntWalk.i64_in _ (by omega)
  go_enter Tryd.func21, Tryd.ntmps21
  go_wp2_with (first
    | (go_at_call 42; refine (HASK.out _ H0.out.sent H0.out.maps HM0.out).mono ?_; rintro e w1 ⟨rfl, hb⟩; have H1 := Lib.hid (H0.out.next hb); have c1 := fun o => ((H1.out.alloc o).below.cell (p := ⟨b, off + r, none⟩) hbl).trans HCELL.out; clear hb)
    | (go_at_call 43; refine (HSP.out _).mono ?_; rintro e w' ⟨rfl, rfl⟩)
    | (at_builtin; (refine wpList_append_own _ rfl (.tmp 26) (.tmp 36) 33 rfl w1.heap.size 5 i5 _ 1 1 Tryd.underlying33 H5.out G5.out S5.out B5.out rfl (by decide) (.slice (some ⟨w1.heap.size, 0, none⟩) 0 0) 0 [] rfl (own_empty w1) ⟨b2, off2 + o, none⟩ (o + nn - o) (Cr - o) (bytesV B) rfl ?c1 ?c2 (bytesV_one B) ?c3 ?c4 ?c5 ?_)))
  case c1 => rw [bytesV_length, HCL.out]; omega
  case c2 =>
    obtain ⟨ad, e, h⟩ := (HCUT.out.below ((H1.out.alloc (.cells #[] 5)).below)).src (by rw [HCL.out]; omega)
    injection e with e
    subst e
    exact h
  case c3 => simp only [maxLen]; omega
  case c4 => omega
  case c5 => simp
  intro v' w2 hown' hg _
  have HB2 := Lib.hid (((H1.out.alloc (.cells #[] 5)).below).grown hg (by have := H1.out.below.size; simp; omega) (fun k hk => by simp [Value.ownBlock] at hk; have := H1.out.below.size; omega))
  have HO2 := Lib.hid hown'
  clear hown' hg
  go_wp2
  go_ret2
  obtain ⟨g, gc, hv, hr2⟩ := row_of_owns (xs := B) (by rw [HCL.out]; omega) (by rw [HCL.out]; omega) HCUT.out.byte (by rw [HCL.out]; simpa using HO2.out)
  exact ⟨some ⟨g, 0, none⟩, gc, by rw [hv]; rfl, HB2.out, hr2, .inr ⟨g, rfl⟩⟩
end Go.Proofs.YthckkdkijajadaaDoor

/- Contracts of the document's own answer: what is loaded; are two slices of bytes the same? -/
namespace Go.Proofs.YthckkdkijajadaaDoor
open Go.RowKit M

theorem conv_row {w : World} {q : Option Addr} {xs : List Int} (h : RowAt w q xs) (hq : q = none ∨ ∃ b, q = some ⟨b, 0, none⟩) (c : Nat) : (convert 33 9 (.slice q xs.length c)).run Tryd.prog w = .ok (.string (strOfNums xs)) w := by
  rcases hq with rfl | ⟨b, rfl⟩
  · have h0 : xs = [] := by
      cases xs with
      | nil => rfl
      | cons x xs =>
        obtain ⟨_, _, e, _⟩ := h.cells 0 (by simp)
        cases e
    subst h0
    exact run_convert_bytes_nil w 33 5 Tryd.underlying33 Tryd.underlying5 _ _ 9 Tryd.underlying9
  · refine run_convert_bytes_arg w 33 5 Tryd.underlying33 Tryd.underlying5 b 0 _ c xs rfl (fun i hi => ?_) 9 Tryd.underlying9
    obtain ⟨b', off', e, _, hc⟩ := h.cells i hi
    injection e with e
    injection e with e1 e2
    subst e1 e2
    exact hc
set_option maxHeartbeats 400000 in
theorem rsame_any (q1 q2 : Option Addr) (c1 c2 : Nat) (xs : List Int) (w : World) (h1 : RowAt w q1 xs) (h2 : RowAt w q2 xs) (hq1 : q1 = none ∨ ∃ b, q1 = some ⟨b, 0, none⟩) (hq2 : q2 = none ∨ ∃ b, q2 = some ⟨b, 0, none⟩) :
    Calls Tryd.prog 22 #[.slice q1 xs.length c1, .slice q2 xs.length c2] w fun e w' => e = .returned (.bool true) ∧ w = w' := by
  have e1 := conv_row h1 hq1 c1
  have e2 := conv_row h2 hq2 c2
  generalize strOfNums xs = S at e1 e2
  generalize xs.length = N at e1 e2
  clear h1 h2 hq1 hq2
  go_enter Tryd.func22, Tryd.ntmps22
  go_wp2
  go_ret
  exact ⟨by simp, rfl⟩
theorem rbytes_any (s : Nat → Addr) (c : Int) (cw : Bool) (q : Option Addr) (len cap : Nat) (ms : List Ar) (mp : Option Addr) (mc : Nat) (Q : Nat → Option Addr) (C : Nat → Nat) (M : List (List Int)) (a n : Int) (w : World) (hs : Sent w s) (hm : MapsAt w q len ms) (hM : MemAt w mp Q C M) (ha : 0 ≤ a ∧ a < 18446744073709551616) :
    Calls Tryd.prog 21 #[.agg #[.int .i64 c, .bool cw, .slice q len cap], .slice mp M.length mc, .int .u64 a, .int .i64 n] w (RowPost (rdB c cw ms len M a n) (accN (rdK c cw ms len M a n false)) w) := by
  have hle := rdK_le c cw ms len M a n false
  by_cases h4 : rdK c cw ms len M a n false = 4
  · rw [h4, accN_4]
    exact rbytes_ok s c cw q len cap ms mp mc Q C M a n w hs hm hM ha h4
  · have e1 : rdB c cw ms len M a n = [] := by simp [rdB, h4]
    rw [e1, accN_lt (by omega)]
    exact rbytes_bad s c cw q len cap ms mp mc Q C M a n w hs hm hM ha _ rfl (by omega)
set_option maxRecDepth 100000 in
set_option maxHeartbeats 1000000 in
theorem rload_any (s : Nat → Addr) (c : Int) (cw : Bool) (q : Option Addr) (len cap : Nat) (ms : List Ar) (mp : Option Addr) (mc : Nat) (Q : Nat → Option Addr) (C : Nat → Nat) (M : List (List Int)) (a n : Int) (w : World) (hs : Sent w s) (hm : MapsAt w q len ms) (hM : MemAt w mp Q C M) (ha : 0 ≤ a ∧ a < 18446744073709551616) :
    Calls Tryd.prog 20 #[.agg #[.int .i64 c, .bool cw, .slice q len cap], .slice mp M.length mc, .int .u64 a, .int .i64 n] w fun e w' =>
      e = .returned (.tuple #[.int .u64 (loadV c cw ms len M a n), .int .i64 (loadE c cw ms len M a n)]) ∧ Below w.heap.size w w' := by
  have H0 := Lib.hid (LawW.first (c := c) (cw := cw) (cap := cap) hs hm)
  have HM0 := Lib.hid (hM.alloc (.cells #[.int .i64 c, .bool cw, .slice q len cap] 27))
  have HBY := Lib.hid (fun W hs hm hM => rbytes_any s c cw q len cap ms mp mc Q C M a n W hs hm hM ha)
  obtain ⟨K, hK⟩ : ∃ K, M.length = K := ⟨_, rfl⟩
  rw [hK] at HBY ⊢
  cases hz : isSize n
  · have e1 : loadV c cw ms len M a n = 0 := by simp [loadV, hz]
    have e2 : loadE c cw ms len M a n = 2 := by simp [loadE, hz]
    rw [e1, e2]
    have HZ := Lib.hid hz
    clear hs hm hM hK hz e1 e2
    go_enter Tryd.func20, Tryd.ntmps20
    go_wp2_with (go_at_call 40; refine (rsize_is _ _ HZ.out).mono ?_; rintro e w1 ⟨rfl, rfl⟩)
    go_ret2
    exact ⟨rfl, H0.out.below⟩
  · have e1 : loadV c cw ms len M a n = getN (rdB c cw ms len M a n) := by simp [loadV, hz]
    have e2 : loadE c cw ms len M a n = accN (rdK c cw ms len M a n false) := by simp [loadE, hz]
    rw [e1, e2]
    have HZ := Lib.hid hz
    unfold RowPost at HBY
    generalize rdB c cw ms len M a n = B at *
    generalize accN (rdK c cw ms len M a n false) = E at *
    clear hs hm hM hK hz e1 e2
    go_enter Tryd.func20, Tryd.ntmps20
    go_wp2_with (first
      | (go_at_call 40; refine (rsize_is _ _ HZ.out).mono ?_; rintro e w1 ⟨rfl, rfl⟩)
      | (go_at_call 21; refine (HBY.out _ H0.out.sent H0.out.maps HM0.out).mono ?_; rintro e w2 ⟨g, gc, rfl, hb, hrow, _⟩; have H2 := Lib.hid (H0.out.next hb); have HROW := Lib.hid hrow; clear hb hrow)
      | (go_at_call 41; refine (rget_any _ _ _ _ HROW.out).mono ?_; rintro e w3 ⟨rfl, rfl⟩))
    go_ret2
    exact ⟨rfl, H2.out.below⟩
end Go.Proofs.YthckkdkijajadaaDoor

/- Contracts of the document's own answer: a fresh memory; are two memories the same? -/
namespace Go.Proofs.YthckkdkijajadaaDoor
open Go.RowKit M

set_option maxRecDepth 100000 in
set_option maxHeartbeats 1000000 in
theorem rfresh_bad (c : Int) (cw : Bool) (q : Option Addr) (len cap : Nat) (ms : List Ar) (w : World) (hm : MapsAt w q len ms) (ho : okL c ms = false) :
    Calls Tryd.prog 8 #[.agg #[.int .i64 c, .bool cw, .slice q len cap]] w fun e w' => e = .returned (.tuple #[.slice none 0 0, .int .i64 22]) ∧ Below w.heap.size w w' := by
  have HM := Lib.hid hm
  have HO := Lib.hid ho
  clear hm ho
  go_enter Tryd.func8, Tryd.ntmps8
  go_wp2_with (go_at_call 23; refine (rcheck_is _ _ _ _ _ ms _ (HM.out.alloc _) HO.out).mono ?_; rintro e w1 ⟨rfl, hb⟩; rw [chk_false]; obtain ⟨hc, hf⟩ := bcell hb; have hz := one_in hb)
  go_ret2
  exact ⟨rfl, below1 hb⟩

theorem cell_one_new3 (w : World) (o1 o2 : Obj) (x : Value) (t : TypeId) : ∀ j u, [x][j]? = some u → (((w.alloc o1).alloc o2).alloc (.cells #[x] t)).cell? ((⟨w.heap.size + 1 + 1, 0, none⟩ : Addr).add j) = some u := by
  have h := cell_one_new' (w.alloc o1) o2 x t
  rw [World.size_alloc] at h
  exact h
theorem ownsRow_to {base : Nat} {e : TypeId} {size n : Nat} {v : Value} {xs : List Value} {w w' : World} (h : w.ownsRow base e size v n xs) (hb : Below w.heap.size w w') : w'.ownsRow base e size v n xs := by
  obtain ⟨hl, h | ⟨g, cap, cur, hv, hg, hh, r⟩⟩ := h
  · exact ⟨hl, .inl h⟩
  · exact ⟨hl, .inr ⟨g, cap, cur, hv, hg, (hb.block g (Array.getElem?_eq_some_iff.1 hh).1).trans hh, r⟩⟩
theorem Rows0.to {w w' : World} {Q Z : Nat → Nat} {k : Nat} (h : Rows0 w Q Z k) (hb : Below w.heap.size w w') : Rows0 w' Q Z k := ⟨fun i hi => rowIs_below (h.row i hi) hb (h.row i hi).lt⟩
set_option maxRecDepth 100000 in
set_option maxHeartbeats 1000000 in
theorem rfresh_ok (s : Nat → Addr) (c : Int) (cw : Bool) (q : Option Addr) (len cap : Nat) (ms : List Ar) (w : World) (hs : Sent w s) (hm : MapsAt w q len ms) (ho : okL c ms = true) :
    Calls Tryd.prog 8 #[.agg #[.int .i64 c, .bool cw, .slice q len cap]] w (FreshPost c ms (len + 2) w) := by
  have H0 := Lib.hid (LawW.first (c := c) (cw := cw) (cap := cap) hs hm)
  have HO := Lib.hid ho
  have HCK := Lib.hid (fun W hm => rcheck_is c cw q len cap ms W hm ho)
  have hl8 : len ≤ 8 := by have := (okL_parts ho).2.1; have := hm.hlen; omega
  have HSB := Lib.hid (fun i hi => szOf_bd (i := i) hm.hlen ho hi)
  obtain ⟨i36, h36, g36, s36, b36⟩ := info_parts info36
  have H36 := Lib.hid h36
  have G36 := Lib.hid g36
  have S36 := Lib.hid s36
  have B36 := Lib.hid b36
  have HMK := Lib.hid (fun (N : Nat) (hN : N ≤ 4096) W => run_make_row' (P := Tryd.prog) 33 5 (.int .u8 0) 1 Tryd.underlying33 info5 rfl .i64 .i64 N (by omega) (by omega) W)
  clear hm ho hs h36 g36 s36 b36
  go_enter Tryd.func8, Tryd.ntmps8
  go_wp2_with (go_at_call 23; refine (HCK.out _ H0.out.maps).mono ?_; rw [chk_true]; rintro e w1 ⟨rfl, hb⟩; have H1 := Lib.hid (H0.out.next hb); have k0 := H1.out.b0; have k1 := H1.out.b1; have k2 := H1.out.b2; clear hb)
  clear k0 k1 k2
  go_loopw [4, 5] (fun v i wr => ∃ (k : Nat) (Q : Nat → Nat), k ≤ len + 2 ∧ i = .int .i64 k ∧ Hid (LawW s w wr c cw q len cap ms) ∧ Below w1.heap.size w1 wr ∧ wr.ownsRow w1.heap.size 33 1 v k ((List.range k).map (rowV Q (zOf c ms))) ∧ Rows0 wr Q (zOf c ms) k) (fun _ i _ => (len + 2) - (intOf i).toNat)
  case atStart => exact ⟨0, fun _ => 0, Nat.zero_le _, rfl, H1.out, Below.refl _ _, ⟨rfl, .inl ⟨rfl, rfl⟩⟩, ⟨fun i hi => absurd hi (Nat.not_lt_zero _)⟩⟩
  case round =>
    obtain ⟨k, Q, hk, rfl, HW, hbr, hown, hrows⟩ := hrel
    by_cases hlt : k < len + 2
    · have hZ := HSB.out k hlt
      have HAR := Lib.hid (fun W hm => rarea_sz (c := c) (cw := cw) (ms := ms) q len cap W hm HO.out hlt)
      obtain ⟨z, hz1⟩ : ∃ z : Nat, szOf c ms k = z := ⟨(szOf c ms k).toNat, by omega⟩
      have hz2 : zOf c ms k = z := by unfold zOf; rw [hz1]; simp
      rw [hz1] at HAR
      have hz4 : z ≤ 4096 := by omega
      have hmk := HMK.out z hz4
      have HZ2 := Lib.hid hz2
      have HOWN := Lib.hid hown
      have HRS := Lib.hid hrows
      have k0 := HW.out.b0
      have k1 := HW.out.b1
      have k2 := HW.out.b2
      clear hz1 hz2 hZ hown hrows
      go_wp2_with fail
      refine (HAR.out _ HW.out.maps).mono ?_
      rintro e w3 ⟨⟨bb, rfl⟩, hb⟩
      have H3 := Lib.hid (fun o => (HW.out.next hb).alloc o)
      have hbr3 := below_next hbr hb
      have HOWN3 := Lib.hid (ownsRow_to HOWN.out hb)
      have HRS3 := Lib.hid (HRS.out.to hb)
      clear hb k0 k1 k2
      go_wp2_with (at_builtin; refine wpList_append_own _ rfl (.tmp 26) (.tmp 30) 29 rfl w1.heap.size 33 i36 _ 1 24 Tryd.underlying29 H36.out G36.out S36.out B36.out rfl (by decide) _ _ _ rfl (((HOWN3.out.alloc _).alloc _).alloc _) ⟨w3.heap.size + 1 + 1, 0, none⟩ 1 1 [.slice (some ⟨w3.heap.size + 1, 0, none⟩) z z] rfl rfl ?c1 ?c2 ?c3 ?c4 ?c5 ?_)
      case c1 => exact cell_one_new3 _ _ _ _ _
      case c2 => simp [Value.oneCell']
      case c3 => simp only [maxLen]; omega
      case c4 => omega
      case c5 => have := hbr3.size; simp; omega
      intro v' w4 hown' hg _
      have hb4 := (((hbr3.alloc hbr3.size (.cells #[.int .i64 z, .bool bb] 24)).alloc (by have := hbr3.size; simp; omega) (.cells (madeCells #[.int .u8 0] z) 5)).alloc (by have := hbr3.size; simp; omega) (.cells #[.slice (some ⟨w3.heap.size + 1, 0, none⟩) z z] 33)).grown hg (by have := hbr3.size; simp; omega) (own_ge HOWN.out)
      have hr4 := ((((HRS3.out.alloc (.cells #[.int .i64 z, .bool bb] 24)).alloc (.cells (madeCells #[.int .u8 0] z) 5)).alloc (.cells #[.slice (some ⟨w3.heap.size + 1, 0, none⟩) z z] 33)).snoc (b := w3.heap.size + 1) (by rw [HZ2.out]; exact (rowIs_made1 w3 _ (.int .u8 0) z 5).alloc _)).grown (((HOWN3.out.alloc _).alloc _).alloc _) hg
      have HO4 := Lib.hid hown'
      have HR4 := Lib.hid hr4
      clear hown' hr4 hg
      go_wp2
      go_roundw
      case rel =>
        refine ⟨k + 1, upd Q k (w3.heap.size + 1), by omega, by go_num, H1.out.next hb4, hb4, ?_, HR4.out⟩
        rw [rows_snoc, HZ2.out]
        exact HO4.out
      case measure => simp [intOf]; omega
    · have HOWN := Lib.hid hown
      have HRS := Lib.hid hrows
      have k0 := HW.out.b0
      have k1 := HW.out.b1
      have k2 := HW.out.b2
      clear hown hrows
      go_wp2
      go_ret2
      have hkl : k = len + 2 := by omega
      subst hkl
      obtain ⟨g, cap', hv, hmem⟩ := fresh_mem (by omega) (by omega) (fun i hi => by have := HSB.out i hi; unfold zOf; omega) HOWN.out HRS.out
      exact ⟨g, cap', _, by rw [hv]; rfl, hmem, HW.out.below⟩
end Go.Proofs.YthckkdkijajadaaDoor
