/- Contracts of the document's own answer: what is loaded; are two slices of bytes the same? -/
import Derived.Test.YtgchdiocbllppaaDoorRD
import Derived.Laws.BytesArg
namespace Go.Proofs.YtgchdiocbllppaaDoor
open Go.RowKit M

theorem conv_row {w : World} {q : Option Addr} {xs : List Int} (h : RowAt w q xs) (hq : q = none ∨ ∃ b, q = some ⟨b, 0, none⟩) (c : Nat) : (convert 36 9 (.slice q xs.length c)).run Tryd.prog w = .ok (.string (strOfNums xs)) w := by
  rcases hq with rfl | ⟨b, rfl⟩
  · have h0 : xs = [] := by
      cases xs with
      | nil => rfl
      | cons x xs =>
        obtain ⟨_, _, e, _⟩ := h.cells 0 (by simp)
        cases e
    subst h0
    exact run_convert_bytes_nil w 36 5 Tryd.underlying36 Tryd.underlying5 _ _ 9 Tryd.underlying9
  · refine run_convert_bytes_arg w 36 5 Tryd.underlying36 Tryd.underlying5 b 0 _ c xs rfl (fun i hi => ?_) 9 Tryd.underlying9
    obtain ⟨b', off', e, _, hc⟩ := h.cells i hi
    injection e with e
    injection e with e1 e2
    subst e1 e2
    exact hc
set_option maxHeartbeats 400000 in
theorem rsame_any (q1 q2 : Option Addr) (c1 c2 : Nat) (xs : List Int) (w : World) (h1 : RowAt w q1 xs) (h2 : RowAt w q2 xs) (hq1 : q1 = none ∨ ∃ b, q1 = some ⟨b, 0, none⟩) (hq2 : q2 = none ∨ ∃ b, q2 = some ⟨b, 0, none⟩) :
    Calls Tryd.prog 29 #[.slice q1 xs.length c1, .slice q2 xs.length c2] w fun e w' => e = .returned (.bool true) ∧ w = w' := by
  have e1 := conv_row h1 hq1 c1
  have e2 := conv_row h2 hq2 c2
  generalize strOfNums xs = S at e1 e2
  generalize xs.length = N at e1 e2
  clear h1 h2 hq1 hq2
  go_enter Tryd.func29, Tryd.ntmps29
  go_wp2
  go_ret
  exact ⟨by simp, rfl⟩
theorem rbytes_any (s : Nat → Addr) (c : Int) (cw : Bool) (q : Option Addr) (len cap : Nat) (ms : List Ar) (mp : Option Addr) (mc : Nat) (Q : Nat → Option Addr) (C : Nat → Nat) (M : List (List Int)) (a n : Int) (w : World) (hs : Sent w s) (hm : MapsAt w q len ms) (hM : MemAt w mp Q C M) (ha : 0 ≤ a ∧ a < 18446744073709551616) :
    Calls Tryd.prog 28 #[.agg #[.int .i64 c, .bool cw, .slice q len cap], .slice mp M.length mc, .int .u64 a, .int .i64 n] w (RowPost (rdB c cw ms len M a n) (accN (rdK c cw ms len M a n false)) w) := by
  have hle := rdK_le c cw ms len M a n false
  by_cases h4 : rdK c cw ms len M a n false = 4
  · rw [h4, accN_4]
    exact rbytes_ok s c cw q len cap ms mp mc Q C M a n w hs hm hM ha h4
  · have e1 : rdB c cw ms len M a n = [] := by simp [rdB, h4]
    rw [e1, accN_lt (by omega)]
    exact rbytes_bad s c cw q len cap ms mp mc Q C M a n w hs hm hM ha _ rfl (by omega)
set_option maxRecDepth 100000 in
set_option maxHeartbeats 1000000 in
theorem rload_any (s : Nat → Addr) (c : Int) (cw : Bool) (q : Option Addr) (len cap : Nat) (ms : List Ar) (mp : Option Addr) (mc : Nat) (Q : Nat → Option Addr) (C : Nat → Nat) (M : List (List Int)) (a n : Int) (w : World) (hs : Sent w s) (hm : MapsAt w q len ms) (hM : MemAt w mp Q C M) (ha : 0 ≤ a ∧ a < 18446744073709551616) :
    Calls Tryd.prog 27 #[.agg #[.int .i64 c, .bool cw, .slice q len cap], .slice mp M.length mc, .int .u64 a, .int .i64 n] w fun e w' =>
      e = .returned (.tuple #[.int .u64 (loadV c cw ms len M a n), .int .i64 (loadE c cw ms len M a n)]) ∧ Below w.heap.size w w' := by
  have H0 := Lib.hid (LawW.first (c := c) (cw := cw) (cap := cap) hs hm)
  have HM0 := Lib.hid (hM.alloc (.cells #[.int .i64 c, .bool cw, .slice q len cap] 26))
  have HBY := Lib.hid (fun W hs hm hM => rbytes_any s c cw q len cap ms mp mc Q C M a n W hs hm hM ha)
  obtain ⟨K, hK⟩ : ∃ K, M.length = K := ⟨_, rfl⟩
  rw [hK] at HBY ⊢
  cases hz : isSize n
  · have e1 : loadV c cw ms len M a n = 0 := by simp [loadV, hz]
    have e2 : loadE c cw ms len M a n = 2 := by simp [loadE, hz]
    rw [e1, e2]
    have HZ := Lib.hid hz
    clear hs hm hM hK hz e1 e2
    go_enter Tryd.func27, Tryd.ntmps27
    go_wp2_with (go_at_call 47; refine (rsize_is _ _ HZ.out).mono ?_; rintro e w1 ⟨rfl, rfl⟩)
    go_ret2
    exact ⟨rfl, H0.out.below⟩
  · have e1 : loadV c cw ms len M a n = getN (rdB c cw ms len M a n) := by simp [loadV, hz]
    have e2 : loadE c cw ms len M a n = accN (rdK c cw ms len M a n false) := by simp [loadE, hz]
    rw [e1, e2]
    have HZ := Lib.hid hz
    unfold RowPost at HBY
    generalize rdB c cw ms len M a n = B at *
    generalize accN (rdK c cw ms len M a n false) = E at *
    clear hs hm hM hK hz e1 e2
    go_enter Tryd.func27, Tryd.ntmps27
    go_wp2_with (first
      | (go_at_call 47; refine (rsize_is _ _ HZ.out).mono ?_; rintro e w1 ⟨rfl, rfl⟩)
      | (go_at_call 28; refine (HBY.out _ H0.out.sent H0.out.maps HM0.out).mono ?_; rintro e w2 ⟨g, gc, rfl, hb, hrow, _⟩; have H2 := Lib.hid (H0.out.next hb); have HROW := Lib.hid hrow; clear hb hrow)
      | (go_at_call 35; refine (rget_any _ _ _ _ HROW.out).mono ?_; rintro e w3 ⟨rfl, rfl⟩))
    go_ret2
    exact ⟨rfl, H2.out.below⟩
end Go.Proofs.YtgchdiocbllppaaDoor
