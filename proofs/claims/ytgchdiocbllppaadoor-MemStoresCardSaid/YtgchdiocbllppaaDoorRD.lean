/- Contracts of the document's own answer: what is asked of a memory, and what is read. -/
import Derived.Test.YtgchdiocbllppaaDoorRB
import Derived.Test.YtgchdiocbllppaaDoorRC
namespace Go.Proofs.YtgchdiocbllppaaDoor
open Go.RowKit M

set_option maxRecDepth 100000 in
set_option maxHeartbeats 1000000 in
theorem asked_any (s : Nat → Addr) (c : Int) (cw : Bool) (q : Option Addr) (len cap : Nat) (ms : List Ar) (mp : Option Addr) (mc : Nat) (Q : Nat → Option Addr) (C : Nat → Nat) (M : List (List Int)) (a n : Int) (write : Bool) (w : World) (hs : Sent w s) (hm : MapsAt w q len ms) (hM : MemAt w mp Q C M) (ha : 0 ≤ a ∧ a < 18446744073709551616) :
    Calls Tryd.prog 48 #[.agg #[.int .i64 c, .bool cw, .slice q len cap], .slice mp M.length mc, .int .u64 a, .int .i64 n, .bool write] w fun e w' =>
      e = .returned (.int .i64 (accN (rdK c cw ms len M a n write))) ∧ Below w.heap.size w w' := by
  have H0 := Lib.hid (LawW.first (c := c) (cw := cw) (cap := cap) hs hm)
  have HM0 := Lib.hid (hM.alloc (.cells #[.int .i64 c, .bool cw, .slice q len cap] 26))
  have HMAY := Lib.hid (fun W hs hm hM => rmay_any s c cw q len cap ms mp mc Q C M W hs hm hM)
  have HACC := Lib.hid (fun W hm => raccess_any c cw q len cap ms a n write W hm ha)
  obtain ⟨K, hK⟩ : ∃ K, M.length = K := ⟨_, rfl⟩
  rw [hK] at HMAY ⊢
  unfold rdK
  cases hy : mayB c ms len M
  · have e : accN (if false = true then findK c cw ms len a n write else 0) = 2 := by simp [accN, numOf]
    rw [e]
    rw [hy] at HMAY
    clear hs hm hM hK hy e
    go_enter Tryd.func48, Tryd.ntmps48
    go_wp2_with (go_at_call 20; refine (HMAY.out _ H0.out.sent H0.out.maps HM0.out).mono ?_; rintro e w1 ⟨rfl, hb⟩; have H1 := Lib.hid (H0.out.next hb); clear hb)
    go_ret
    exact ⟨rfl, H1.out.below⟩
  · rw [if_pos rfl]
    rw [hy] at HMAY
    generalize accN (findK c cw ms len a n write) = E at *
    clear hs hm hM hK hy
    go_enter Tryd.func48, Tryd.ntmps48
    go_wp2_with (first
      | (go_at_call 20; refine (HMAY.out _ H0.out.sent H0.out.maps HM0.out).mono ?_; rintro e w1 ⟨rfl, hb⟩; have H1 := Lib.hid (H0.out.next hb); have k0 := H1.out.b0; have k1 := H1.out.b1; have k2 := H1.out.b2; clear hb)
      | (go_at_call 25; refine (HACC.out _ H1.out.maps).mono ?_; rintro e w2 ⟨rfl, hb⟩; have H2 := Lib.hid (H1.out.next hb); clear hb))
    go_ret
    exact ⟨rfl, H2.out.below⟩

theorem own_empty (w : World) : (w.alloc (.cells #[] 5)).ownsRow w.heap.size 5 1 (.slice (some ⟨w.heap.size, 0, none⟩) 0 0) 0 [] :=
  ⟨rfl, .inr ⟨_, 0, #[], rfl, Nat.le_refl _, heap_new w _, Nat.le_refl _, Nat.zero_le _, rfl, rfl⟩⟩
def RowPost (B : List Int) (r : Int) (w : World) (e : Ending) (w' : World) : Prop :=
  ∃ g gc, e = .returned (.tuple #[.slice g B.length gc, .int .i64 r]) ∧ Below w.heap.size w w' ∧ RowAt w' g B ∧ (g = none ∨ ∃ b, g = some ⟨b, 0, none⟩)
set_option maxRecDepth 100000 in
set_option maxHeartbeats 1000000 in
theorem rbytes_bad (s : Nat → Addr) (c : Int) (cw : Bool) (q : Option Addr) (len cap : Nat) (ms : List Ar) (mp : Option Addr) (mc : Nat) (Q : Nat → Option Addr) (C : Nat → Nat) (M : List (List Int)) (a n : Int) (w : World) (hs : Sent w s) (hm : MapsAt w q len ms) (hM : MemAt w mp Q C M) (ha : 0 ≤ a ∧ a < 18446744073709551616) (k : Nat) (hk : rdK c cw ms len M a n false = k) (hk4 : k < 4) :
    Calls Tryd.prog 28 #[.agg #[.int .i64 c, .bool cw, .slice q len cap], .slice mp M.length mc, .int .u64 a, .int .i64 n] w (RowPost [] (numOf k) w) := by
  have H0 := Lib.hid (LawW.first (c := c) (cw := cw) (cap := cap) hs hm)
  have HM0 := Lib.hid (hM.alloc (.cells #[.int .i64 c, .bool cw, .slice q len cap] 26))
  have HASK := Lib.hid (fun W hs hm hM => asked_any s c cw q len cap ms mp mc Q C M a n false W hs hm hM ha)
  rw [hk, accN_lt hk4] at HASK
  have hne : (numOf k != 0) = true := by
    have : numOf k ≠ 0 := by unfold numOf; (repeat' split) <;> omega
    simpa using this
  obtain ⟨K, hK⟩ : ∃ K, M.length = K := ⟨_, rfl⟩
  rw [hK] at HASK ⊢
  generalize numOf k = E at *
  clear hs hm hM hK hk ha
  go_enter Tryd.func28, Tryd.ntmps28
  go_wp2_with (go_at_call 48; refine (HASK.out _ H0.out.sent H0.out.maps HM0.out).mono ?_; rintro e w1 ⟨rfl, hb⟩; have H1 := Lib.hid (H0.out.next hb); clear hb)
  go_ret2
  exact ⟨none, 0, rfl, H1.out.below, RowAt.nil _ _, .inl rfl⟩
set_option maxRecDepth 100000 in
set_option maxHeartbeats 1000000 in
theorem rbytes_ok (s : Nat → Addr) (c : Int) (cw : Bool) (q : Option Addr) (len cap : Nat) (ms : List Ar) (mp : Option Addr) (mc : Nat) (Q : Nat → Option Addr) (C : Nat → Nat) (M : List (List Int)) (a n : Int) (w : World) (hs : Sent w s) (hm : MapsAt w q len ms) (hM : MemAt w mp Q C M) (ha : 0 ≤ a ∧ a < 18446744073709551616) (hk : rdK c cw ms len M a n false = 4) :
    Calls Tryd.prog 28 #[.agg #[.int .i64 c, .bool cw, .slice q len cap], .slice mp M.length mc, .int .u64 a, .int .i64 n] w (RowPost (rdB c cw ms len M a n) 0 w) := by
  obtain ⟨r, o, nn, hr, ho, hn, hn1, hn2, hrM, hfit, hL⟩ := granted hm.hlen (rdK_ok hk).1 (rdK_ok hk).2
  obtain ⟨b, off, hmp, hbl, hcell, hLC, hC⟩ := hM.cells r hrM
  obtain ⟨b2, off2, hQ, hbl2, _⟩ := hM.rows r 0 hrM (by omega)
  have hrow := hM.row hrM
  rw [hQ] at hcell hrow
  have hB : rdB c cw ms len M a n = cut (M.getD r []) o nn := by unfold rdB; rw [if_pos hk, hr, ho, hn]; simp
  rw [hB]
  have hcut := hrow.cut hfit
  have hcl : (cut (M.getD r []) o nn).length = nn := cut_length hfit
  have HR : regOf a = (r : Int) + 1 := by omega
  have H0 := Lib.hid (LawW.first (c := c) (cw := cw) (cap := cap) hs hm)
  have HM0 := Lib.hid (hM.alloc (.cells #[.int .i64 c, .bool cw, .slice q len cap] 26))
  have HASK := Lib.hid (fun W hs hm hM => asked_any s c cw q len cap ms mp mc Q C M a n false W hs hm hM ha)
  rw [hk, accN_4] at HASK
  have HSP := Lib.hid (fun W => rsplit_any a W ha.1 ha.2)
  rw [HR, ho] at HSP
  obtain ⟨K, hK⟩ : ∃ K, M.length = K := ⟨_, rfl⟩
  obtain ⟨L, hLL⟩ : ∃ L, (M.getD r []).length = L := ⟨_, rfl⟩
  have hKs : K ≤ 140737488351232 := hK ▸ hM.small
  rw [hK] at HASK hrM ⊢
  rw [hLL] at hcell hfit hL hLC
  generalize cut (M.getD r []) o nn = B at *
  generalize C r = Cr at *
  subst hmp hn
  obtain ⟨i5, h5, g5, s5, b5⟩ := info_parts info5
  have H5 := Lib.hid h5
  have G5 := Lib.hid g5
  have S5 := Lib.hid s5
  have B5 := Lib.hid b5
  clear h5 g5 s5 b5
  have HCUT := Lib.hid hcut
  have HCL := Lib.hid hcl
  have HCELL := Lib.hid hcell
  clear hs hm hM hK hk ha hr ho hQ hrow hB hcut hcl HR hLL hcell
  have wsum : IntKind.i64.wrap ((o : Int) + nn) = (o : Int) + nn := IntWalk.i64_in _ (by omega)
  go_enter Tryd.func28, Tryd.ntmps28
  go_wp2_with (first
    | (go_at_call 48; refine (HASK.out _ H0.out.sent H0.out.maps HM0.out).mono ?_; rintro e w1 ⟨rfl, hb⟩; have H1 := Lib.hid (H0.out.next hb); have c1 := fun o => ((H1.out.alloc o).below.cell (p := ⟨b, off + r, none⟩) hbl).trans HCELL.out; clear hb)
    | (go_at_call 22; refine (HSP.out _).mono ?_; rintro e w' ⟨rfl, rfl⟩)
    | (at_builtin; (refine wpList_append_own _ rfl (.tmp 26) (.tmp 36) 36 rfl w1.heap.size 5 i5 _ 1 1 Tryd.underlying36 H5.out G5.out S5.out B5.out rfl (by decide) (.slice (some ⟨w1.heap.size, 0, none⟩) 0 0) 0 [] rfl (own_empty w1) ⟨b2, off2 + o, none⟩ (o + nn - o) (Cr - o) (bytesV B) rfl ?c1 ?c2 (bytesV_one B) ?c3 ?c4 ?c5 ?_)))
  case c1 => rw [bytesV_length, HCL.out]; omega
  case c2 =>
    obtain ⟨ad, e, h⟩ := (HCUT.out.below ((H1.out.alloc (.cells #[] 5)).below)).src (by rw [HCL.out]; omega)
    injection e with e
    subst e
    exact h
  case c3 => simp only [maxLen]; omega
  case c4 => omega
  case c5 => simp
  intro v' w2 hown' hg _
  have HB2 := Lib.hid (((H1.out.alloc (.cells #[] 5)).below).grown hg (by have := H1.out.below.size; simp; omega) (fun k hk => by simp [Value.ownBlock] at hk; have := H1.out.below.size; omega))
  have HO2 := Lib.hid hown'
  clear hown' hg
  go_wp2
  go_ret2
  obtain ⟨g, gc, hv, hr2⟩ := row_of_owns (xs := B) (by rw [HCL.out]; omega) (by rw [HCL.out]; omega) HCUT.out.byte (by rw [HCL.out]; simpa using HO2.out)
  exact ⟨some ⟨g, 0, none⟩, gc, by rw [hv]; rfl, HB2.out, hr2, .inr ⟨g, rfl⟩⟩
end Go.Proofs.YtgchdiocbllppaaDoor
