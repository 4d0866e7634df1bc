/- Contracts of the layout checks and the areas, on both sides. -/
import Derived.Test.YtgchdiocbllppaaDoorA
namespace Go.Proofs.YtgchdiocbllppaaDoor
open Go.RowKit M

set_option maxHeartbeats 400000 in
theorem rcheck_any (c : Int) (wr : Bool) (p : Option Addr) (len cap : Nat) (ms : List Ar) (w : World) (hm : MapsAt w p len ms) :
    Calls Tryd.prog 18 #[.agg #[.int .i64 c, .bool wr, .slice p len cap]] w fun e w' => e = .returned (.int .i64 (chk (okL c ms))) ∧ Below w.heap.size w w' := by
  have hsm := hm.small
  have HM := Lib.hid hm
  have HL := Lib.hid hm.hlen
  have HB : Hid (∀ o, Below w.heap.size w (w.alloc o)) := fun o => (Below.refl _ _).alloc (Nat.le_refl _) _
  clear hm
  by_cases h0 : 0 ≤ c
  · by_cases h1 : c ≤ 4096
    · have HC := Lib.hid (inB_true ⟨h0, h1⟩)
      by_cases hl : 8 < len
      · go_enter Tryd.func18, Tryd.ntmps18
        go_wp2
        go_ret
        exact ⟨ret_int (by have := HL.out; simp only [okL, HC.out, chk]; rw [decide_eq_false (by omega)]; rfl), HB.out _⟩
      · have HE : okL c ms = okMaps ms := by have := HL.out; simp only [okL, HC.out]; rw [decide_eq_true (by omega)]; rfl
        rw [HE]
        clear HE HC
        go_enter Tryd.func18, Tryd.ntmps18
        go_wp2
        go_loop [3] (fun i => ∃ k : Nat, k ≤ len ∧ i = .int .i64 k ∧ Hid (okMaps (ms.take k) = true)) (fun i => len - (intOf i).toNat)
        case atStart => exact ⟨0, Nat.zero_le _, rfl, by simp [okMaps, Hid]⟩
        case round =>
          obtain ⟨k, hk, rfl, HO⟩ := hrel
          by_cases hlt : k < len
          · have hs := Lib.hid (okMaps_snoc (ms := ms) (k := k) (by rw [← HL.out]; exact hlt))
            obtain ⟨b, off, rfl, hbl, g1, g2⟩ := HM.out.cells k (by rw [← HL.out]; exact hlt)
            generalize ms.getD k none_ = a at g1 g2 hs
            by_cases i1 : 1 ≤ a.size
            · by_cases i2 : a.size ≤ 4096
              · have HIN := Lib.hid (inB_true ⟨i1, i2⟩)
                go_wp2
                go_round
                case rel => exact ⟨k + 1, by omega, by go_num, by show okMaps _ = true; rw [hs.out, HO.out, HIN.out]; rfl⟩
                case measure => simp [intOf]; omega
              · have HIN := Lib.hid (inB_false (n := a.size) (l := 1) (by omega))
                go_wp2
                go_ret
                exact ⟨ret_int (by rw [okMaps_take_false (k := k + 1) (by rw [hs.out, HO.out, HIN.out]; rfl)]; rfl), HB.out _⟩
            · have HIN := Lib.hid (inB_false (n := a.size) (l := 1) (by omega))
              go_wp2
              go_ret
              exact ⟨ret_int (by rw [okMaps_take_false (k := k + 1) (by rw [hs.out, HO.out, HIN.out]; rfl)]; rfl), HB.out _⟩
          · go_wp2
            go_ret
            exact ⟨ret_int (by have := HO.out; rw [List.take_of_length_le (by rw [← HL.out]; omega)] at this; rw [this]; rfl), HB.out _⟩
    · have HC := Lib.hid (inB_false (n := c) (l := 0) (by omega))
      go_enter Tryd.func18, Tryd.ntmps18
      go_wp2
      go_ret
      exact ⟨ret_int (by simp [okL, HC.out, chk]), HB.out _⟩
  · have HC := Lib.hid (inB_false (n := c) (l := 0) (by omega))
    go_enter Tryd.func18, Tryd.ntmps18
    go_wp2
    go_ret
    exact ⟨ret_int (by simp [okL, HC.out, chk]), HB.out _⟩
theorem rcheck_is {b : Bool} (c : Int) (wr : Bool) (p : Option Addr) (len cap : Nat) (ms : List Ar) (w : World) (hm : MapsAt w p len ms) (h : okL c ms = b) :
    Calls Tryd.prog 18 #[.agg #[.int .i64 c, .bool wr, .slice p len cap]] w fun e w' => e = .returned (.int .i64 (chk b)) ∧ Below w.heap.size w w' := by
  rw [← h]; exact rcheck_any c wr p len cap ms w hm
theorem chk_true : chk true = 0 := rfl
theorem chk_false : chk false = 22 := rfl

/-- what Area answers -/
def areaR (c : Int) (wr : Bool) (ms : List Ar) (len : Nat) (r : Int) : Ar := if okL c ms && hasReg len r then areaOf c wr ms r else none_
def areaB (c : Int) (ms : List Ar) (len : Nat) (r : Int) : Bool := okL c ms && hasReg len r
theorem bcell {W w1 : World} (hb : Below W.heap.size W w1) : (∀ b o, b < W.heap.size → w1.cell? ⟨b, o, none⟩ = W.cell? ⟨b, o, none⟩) ∧ (∀ b o, b < W.heap.size → w1.frozen? ⟨b, o, none⟩ = W.frozen? ⟨b, o, none⟩) :=
  ⟨fun b o h => hb.cell (p := ⟨b, o, none⟩) h, fun b o h => hb.frozen (p := ⟨b, o, none⟩) h⟩
theorem area_is {c : Int} {wr : Bool} {ms : List Ar} {r : Int} {v : Ar} (h : areaOf c wr ms r = v) (p : Option Addr) (len cap : Nat) (w : World) (hm : MapsAt w p len ms) (hr : hasReg len r = true) :
    Calls Tryd.prog 39 #[.agg #[.int .i64 c, .bool wr, .slice p len cap], .int .i64 r] w fun e w' =>
      e = .returned (.agg #[.int .i64 v.size, .bool v.write]) ∧ Below w.heap.size w w' := by
  rw [← h]; exact area_any c wr p len cap ms r w hm hr
theorem one_in {w w1 : World} {o1 : Obj} (h : Below (w.alloc o1).heap.size (w.alloc o1) w1) : w.heap.size < w1.heap.size := by
  have := h.size; simp at this; omega
theorem two_in {w w1 : World} {o1 o2 : Obj} (h : Below ((w.alloc o1).alloc o2).heap.size ((w.alloc o1).alloc o2) w1) : w.heap.size < w1.heap.size ∧ w.heap.size + 1 < w1.heap.size := by
  have := h.size; simp at this; omega
theorem more_in {a b : Nat} {B : Nat} {w w1 : World} (h1 : a < w.heap.size) (h2 : b < w.heap.size) (h : Below B w w1) : a < w1.heap.size ∧ b < w1.heap.size :=
  ⟨Nat.lt_of_lt_of_le h1 h.size, Nat.lt_of_lt_of_le h2 h.size⟩
theorem below1 {w w1 : World} {o1 : Obj} (h : Below (w.alloc o1).heap.size (w.alloc o1) w1) : Below w.heap.size w w1 :=
  ((Below.refl _ _).alloc (Nat.le_refl _) _).trans (h.mono (by simp))
theorem below2 {w w1 : World} {o1 o2 : Obj} (h : Below ((w.alloc o1).alloc o2).heap.size ((w.alloc o1).alloc o2) w1) : Below w.heap.size w w1 :=
  (((Below.refl _ _).alloc (Nat.le_refl _) _).alloc (by simp) _).trans (h.mono (by simp; omega))
theorem below_next {w w1 w2 : World} (h : Below w.heap.size w w1) (h2 : Below w1.heap.size w1 w2) : Below w.heap.size w w2 :=
  h.trans (h2.mono h.size)
set_option maxHeartbeats 400000 in
theorem area2_any (c : Int) (wr : Bool) (p : Option Addr) (len cap : Nat) (ms : List Ar) (r : Int) (w : World) (hm : MapsAt w p len ms) :
    Calls Tryd.prog 10 #[.agg #[.int .i64 c, .bool wr, .slice p len cap], .int .i64 r] w fun e w' =>
      e = .returned (.tuple #[.agg #[.int .i64 (areaR c wr ms len r).size, .bool (areaR c wr ms len r).write], .bool (areaB c ms len r)]) ∧ Below w.heap.size w w' := by
  have HM := Lib.hid hm
  have hsm := hm.small
  clear hm
  cases ho : okL c ms
  · have e1 : areaR c wr ms len r = none_ := by simp [areaR, ho]
    have e2 : areaB c ms len r = false := by simp [areaB, ho]
    rw [e1, e2]
    have HO := Lib.hid ho
    clear e1 e2 ho
    go_enter Tryd.func10, Tryd.ntmps10
    go_wp2_with (go_at_call 11; refine (check_is _ _ _ _ _ ms _ ((HM.out.alloc _).alloc _) HO.out).mono ?_; rintro e w1 ⟨rfl, hb⟩; rw [chk_false]; obtain ⟨hc, hf⟩ := bcell hb; obtain ⟨hy, hz⟩ := two_in hb)
    refine bodyPost_ret (v := .tuple #[.agg #[.int .i64 0, .bool false], .bool false]) (by simp [results, Tryd.results10, go_sem, hc]) rfl ⟨rfl, ?_⟩
    exact (below2 hb).setCell (by simp) _ |>.setCell (by simp) _
  · have HO := Lib.hid ho
    cases hr : hasReg len r
    · have e1 : areaR c wr ms len r = none_ := by simp [areaR, hr]
      have e2 : areaB c ms len r = false := by simp [areaB, hr]
      rw [e1, e2]
      have HR := Lib.hid hr
      clear e1 e2 ho hr
      go_enter Tryd.func10, Tryd.ntmps10
      go_wp2_with (first
        | (go_at_call 11; refine (check_is _ _ _ _ _ ms _ ((HM.out.alloc _).alloc _) HO.out).mono ?_; rintro e w1 ⟨rfl, hb⟩; rw [chk_true]; obtain ⟨hc, hf⟩ := bcell hb; obtain ⟨hy, hz⟩ := two_in hb)
        | (go_at_call 38; refine (isRegion_is _ _ _ _ _ _ _ hsm HR.out).mono ?_; rintro e w2 ⟨rfl, hb2⟩; obtain ⟨hc2, hf2⟩ := bcell hb2; obtain ⟨hy2, hz2⟩ := more_in hy hz hb2))
      refine bodyPost_ret (v := .tuple #[.agg #[.int .i64 0, .bool false], .bool false]) (by simp [results, Tryd.results10, go_sem, hc, hc2, hz]) rfl ⟨rfl, ?_⟩
      exact (below_next (below2 hb) hb2).setCell (by simp) _ |>.setCell (by simp) _
    · have e1 : areaR c wr ms len r = areaOf c wr ms r := by simp [areaR, ho, hr]
      have e2 : areaB c ms len r = true := by simp [areaB, ho, hr]
      rw [e1, e2]
      have HR := Lib.hid hr
      have har := area_is (v := areaOf c wr ms r) rfl
      generalize areaOf c wr ms r = ar at *
      have HA := Lib.hid har
      clear har
      clear e1 e2 ho hr
      go_enter Tryd.func10, Tryd.ntmps10
      go_wp2_with (first
        | (go_at_call 11; refine (check_is _ _ _ _ _ ms _ ((HM.out.alloc _).alloc _) HO.out).mono ?_; rintro e w1 ⟨rfl, hb⟩; rw [chk_true]; obtain ⟨hc, hf⟩ := bcell hb; obtain ⟨hy, hz⟩ := two_in hb)
        | (go_at_call 38; refine (isRegion_is _ _ _ _ _ _ _ hsm HR.out).mono ?_; rintro e w2 ⟨rfl, hb2⟩; obtain ⟨hc2, hf2⟩ := bcell hb2; obtain ⟨hy2, hz2⟩ := more_in hy hz hb2)
        | (go_at_call 39; refine (HA.out _ _ _ _ ((((HM.out.alloc _).alloc _).below hb).below hb2) HR.out).mono ?_; rintro e w3 ⟨rfl, hb3⟩; obtain ⟨hc3, hf3⟩ := bcell hb3; obtain ⟨hy3, hz3⟩ := more_in hy2 hz2 hb3))
      refine bodyPost_ret (v := .tuple #[.agg #[.int .i64 ar.size, .bool ar.write], .bool true]) (by simp [results, Tryd.results10, go_sem, hc, hc2, hc3, hz, hz2]) rfl ⟨rfl, ?_⟩
      exact (below_next (below_next (below2 hb) hb2) hb3).setCell (by simp) _ |>.setCell (by simp) _
end Go.Proofs.YtgchdiocbllppaaDoor
