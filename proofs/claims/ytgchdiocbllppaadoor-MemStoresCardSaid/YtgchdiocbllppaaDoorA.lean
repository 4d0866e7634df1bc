/- Contracts of the small functions of package mem and of the document's answer: sizes, addresses, layouts, areas. -/
import Derived.Test.YtgchdiocbllppaaDoorProg
import Derived.Test.YtgchdiocbllppaaDoorP
import Derived.WalkKit
import Derived.Lib.Hide
import Derived.WalkSpells
import Derived.WalkLawsBesides
import Derived.BigQuiet
import Derived.Deep.QuietTactic
namespace Go.Proofs.YtgchdiocbllppaaDoor
open Go.RowKit M

theorem inB_any (n l : Int) (w : World) :
    Calls Tryd.prog 40 #[.int .i64 n, .int .i64 l] w fun e w' => e = .returned (.bool (inB n l)) ∧ w = w' := by
  unfold inB
  by_cases h1 : l ≤ n
  · by_cases h2 : n ≤ 4096
    · go_enter Tryd.func40, Tryd.ntmps40
      go_wp2
      go_ret
      exact ⟨by simp [h1, h2], rfl⟩
    · go_enter Tryd.func40, Tryd.ntmps40
      go_wp2
      go_ret
      exact ⟨by simp [h2], rfl⟩
  · go_enter Tryd.func40, Tryd.ntmps40
    go_wp2
    go_ret
    exact ⟨by simp; omega, rfl⟩
theorem inB_is {v : Bool} (n l : Int) (w : World) (h : inB n l = v) : Calls Tryd.prog 40 #[.int .i64 n, .int .i64 l] w fun e w' => e = .returned (.bool v) ∧ w = w' := by
  rw [← h]; exact inB_any n l w

set_option maxHeartbeats 400000 in
theorem size_any (n : Int) (w : World) :
    Calls Tryd.prog 45 #[.int .i64 n] w fun e w' => e = .returned (.bool (isSize n)) ∧ w = w' := by
  unfold isSize
  go_enter Tryd.func45, Tryd.ntmps45
  go_wp2
  all_goals
    go_ret
    exact ⟨by simp [*], rfl⟩
theorem size_is {v : Bool} (n : Int) (w : World) (h : isSize n = v) : Calls Tryd.prog 45 #[.int .i64 n] w fun e w' => e = .returned (.bool v) ∧ w = w' := by
  rw [← h]; exact size_any n w
set_option maxHeartbeats 400000 in
theorem rsize_any (n : Int) (w : World) :
    Calls Tryd.prog 47 #[.int .i64 n] w fun e w' => e = .returned (.bool (isSize n)) ∧ w = w' := by
  unfold isSize
  go_enter Tryd.func47, Tryd.ntmps47
  go_wp2
  all_goals
    go_ret
    exact ⟨by simp [*], rfl⟩
theorem rsize_is {v : Bool} (n : Int) (w : World) (h : isSize n = v) : Calls Tryd.prog 47 #[.int .i64 n] w fun e w' => e = .returned (.bool v) ∧ w = w' := by
  rw [← h]; exact rsize_any n w

def addrOf (r o : Int) : Int := IntKind.u64.wrap (IntKind.u64.wrap (IntKind.u64.wrap r * 4294967296) + IntKind.u64.wrap o)
set_option maxHeartbeats 400000 in
theorem address_any (r o : Int) (w : World) :
    Calls Tryd.prog 14 #[.int .i64 r, .int .i64 o] w fun e w' => e = .returned (.int .u64 (addrOf r o)) ∧ w = w' := by
  go_enter Tryd.func14, Tryd.ntmps14
  go_wp2
  go_ret
  exact ⟨rfl, rfl⟩
set_option maxHeartbeats 400000 in
theorem raddress_any (r o : Int) (w : World) :
    Calls Tryd.prog 24 #[.int .i64 r, .int .i64 o] w fun e w' => e = .returned (.int .u64 (addrOf r o)) ∧ w = w' := by
  go_enter Tryd.func24, Tryd.ntmps24
  go_wp2
  go_ret
  exact ⟨rfl, rfl⟩
/-- an address's region and offset -/
def regOf (a : Int) : Int := a / 4294967296
def offOf (a : Int) : Int := a % 4294967296
theorem ret2_int {k l : IntKind} {a b c d : Int} (h : a = b) (h' : c = d) : Ending.returned (.tuple #[.int k a, .int l c]) = .returned (.tuple #[.int k b, .int l d]) := by rw [h, h']
set_option maxHeartbeats 400000 in
theorem split_any (a : Int) (w : World) (h0 : 0 ≤ a) (h1 : a < 18446744073709551616) :
    Calls Tryd.prog 21 #[.int .u64 a] w fun e w' => e = .returned (.tuple #[.int .i64 (regOf a), .int .i64 (offOf a)]) ∧ w = w' := by
  have h2 : wrap64 (a / 4294967296) = a / 4294967296 := by simp only [wrap64]; omega
  have H := Lib.hid h2
  clear h2 h0 h1
  go_enter Tryd.func21, Tryd.ntmps21
  go_wp2
  go_ret2
  exact ⟨ret2_int H.out rfl, rfl⟩
theorem rdiv (a : Int) (h0 : 0 ≤ a) (h1 : a < 18446744073709551616) : wrap64 (IntKind.u64.wrap (a.tdiv 4294967296)) = regOf a := by
  rw [Int.tdiv_eq_ediv_of_nonneg h0]
  simp only [wrap64, IntKind.wrap_u64, regOf]
  omega
set_option maxHeartbeats 400000 in
theorem rsplit_any (a : Int) (w : World) (h0 : 0 ≤ a) (h1 : a < 18446744073709551616) :
    Calls Tryd.prog 22 #[.int .u64 a] w fun e w' => e = .returned (.tuple #[.int .i64 (regOf a), .int .i64 (offOf a)]) ∧ w = w' := by
  have H := Lib.hid (rdiv a h0 h1)
  clear h1
  go_enter Tryd.func22, Tryd.ntmps22
  go_wp2
  go_ret2
  exact ⟨ret2_int H.out rfl, rfl⟩

theorem ret_bool {a b : Bool} (h : a = b) : Ending.returned (.bool a) = .returned (.bool b) := by rw [h]
theorem ret_int {k : IntKind} {a b : Int} (h : a = b) : Ending.returned (.int k a) = .returned (.int k b) := by rw [h]
set_option maxHeartbeats 400000 in
theorem isRegion_any (c : Int) (wr : Bool) (p : Option Addr) (len cap : Nat) (r : Int) (w : World) (hl : len ≤ 140737488351232) :
    Calls Tryd.prog 38 #[.agg #[.int .i64 c, .bool wr, .slice p len cap], .int .i64 r] w fun e w' => e = .returned (.bool (hasReg len r)) ∧ Below w.heap.size w w' := by
  by_cases h1 : 1 ≤ r
  · go_enter Tryd.func38, Tryd.ntmps38
    go_wp2
    go_ret
    exact ⟨ret_bool (by simp [hasReg, h1]), (Below.refl _ _).alloc (Nat.le_refl _) _⟩
  · go_enter Tryd.func38, Tryd.ntmps38
    go_wp2
    go_ret
    exact ⟨ret_bool (by simp [hasReg]; omega), (Below.refl _ _).alloc (Nat.le_refl _) _⟩
theorem isRegion_is {v : Bool} (c : Int) (wr : Bool) (p : Option Addr) (len cap : Nat) (r : Int) (w : World) (hl : len ≤ 140737488351232) (h : hasReg len r = v) :
    Calls Tryd.prog 38 #[.agg #[.int .i64 c, .bool wr, .slice p len cap], .int .i64 r] w fun e w' => e = .returned (.bool v) ∧ Below w.heap.size w w' := by
  rw [← h]; exact isRegion_any c wr p len cap r w hl

theorem ret_area {a b : Int} {x y : Bool} (h : a = b) (h' : x = y) : Ending.returned (.agg #[.int .i64 a, .bool x]) = .returned (.agg #[.int .i64 b, .bool y]) := by rw [h, h']
set_option maxHeartbeats 400000 in
theorem area_any (c : Int) (wr : Bool) (p : Option Addr) (len cap : Nat) (ms : List Ar) (r : Int) (w : World) (hm : MapsAt w p len ms) (hr : hasReg len r = true) :
    Calls Tryd.prog 39 #[.agg #[.int .i64 c, .bool wr, .slice p len cap], .int .i64 r] w fun e w' =>
      e = .returned (.agg #[.int .i64 (areaOf c wr ms r).size, .bool (areaOf c wr ms r).write]) ∧ Below w.heap.size w w' := by
  obtain ⟨g1, g2⟩ : 1 ≤ r ∧ r < 3 + (len : Int) := by simpa [hasReg] using hr
  have hb2 : ∀ o1 o2, Below w.heap.size w ((w.alloc o1).alloc o2) := fun o1 o2 => ((Below.refl _ _).alloc (Nat.le_refl _) _).alloc (by simp) _
  have HB := Lib.hid hb2
  by_cases h1 : r = 1
  · subst h1
    clear hb2
    go_enter Tryd.func39, Tryd.ntmps39
    go_wp2
    exact bodyPost_ret (v := .agg #[.int .i64 c, .bool wr]) (by simp [results, Tryd.results39, go_sem]) rfl ⟨rfl, HB.out _ _⟩
  · by_cases h2 : r = 2
    · subst h2
      clear hb2
      go_enter Tryd.func39, Tryd.ntmps39
      go_wp2
      exact bodyPost_ret (v := .agg #[.int .i64 512, .bool true]) (by simp [results, Tryd.results39, go_sem]) rfl ⟨rfl, HB.out _ _⟩
    · have hk := hm.cells (r - 3).toNat (by have := hm.hlen; omega)
      have hsm := hm.small
      obtain ⟨k, hk'⟩ : ∃ k : Nat, r = k + 3 := ⟨(r - 3).toNat, by omega⟩
      subst hk'
      obtain ⟨b, off, rfl, hbl, c1, c2⟩ := hk
      have e1 : ((k : Int) + 3 - 3).toNat = k := by omega
      rw [e1] at c1 c2
      have hlt : k < len := by omega
      have HA : areaOf c wr ms (k + 3) = ms.getD k none_ := by
        unfold areaOf; rw [if_neg h1, if_neg h2, e1]
      rw [HA]
      generalize ms.getD k none_ = a at c1 c2
      clear HA e1 hm hr g1 g2 hb2
      go_enter Tryd.func39, Tryd.ntmps39
      go_wp2
      exact bodyPost_ret (v := .agg #[.int .i64 a.size, .bool a.write]) (by simp [results, Tryd.results39, go_sem]) rfl ⟨rfl, HB.out _ _⟩
/-- what Check answers -/
def chk (b : Bool) : Int := if b then 0 else 22
set_option maxHeartbeats 400000 in
theorem check_any (c : Int) (wr : Bool) (p : Option Addr) (len cap : Nat) (ms : List Ar) (w : World) (hm : MapsAt w p len ms) :
    Calls Tryd.prog 11 #[.agg #[.int .i64 c, .bool wr, .slice p len cap]] w fun e w' => e = .returned (.int .i64 (chk (okL c ms))) ∧ Below w.heap.size w w' := by
  have hsm := hm.small
  have HM := Lib.hid hm
  have HL := Lib.hid hm.hlen
  clear hm
  cases hc : inB c 0
  · have HC := Lib.hid hc
    clear hc
    go_enter Tryd.func11, Tryd.ntmps11
    go_wp2_with (go_at_call 40; refine (inB_is _ _ _ HC.out).mono ?_; rintro e w' ⟨rfl, rfl⟩)
    go_ret
    exact ⟨ret_int (by simp [okL, HC.out, chk]), (Below.refl _ _).alloc (Nat.le_refl _) _⟩
  · have HC := Lib.hid hc
    clear hc
    by_cases hl : 8 < len
    · go_enter Tryd.func11, Tryd.ntmps11
      go_wp2_with (go_at_call 40; refine (inB_is _ _ _ HC.out).mono ?_; rintro e w' ⟨rfl, rfl⟩)
      go_ret
      exact ⟨ret_int (by have := HL.out; simp only [okL, HC.out, chk]; rw [decide_eq_false (by omega)]; rfl), (Below.refl _ _).alloc (Nat.le_refl _) _⟩
    · have HE : okL c ms = okMaps ms := by have := HL.out; simp only [okL, HC.out]; rw [decide_eq_true (by omega)]; rfl
      rw [HE]
      clear HE
      go_enter Tryd.func11, Tryd.ntmps11
      go_wp2_with (go_at_call 40; refine (inB_is _ _ _ HC.out).mono ?_; rintro e w' ⟨rfl, rfl⟩)
      go_loopw [19] (fun i wr => ∃ k : Nat, k ≤ len ∧ i = .int .i64 k ∧ okMaps (ms.take k) = true ∧ Below w.heap.size w wr) (fun i _ => len - (intOf i).toNat)
      case atStart => exact ⟨0, Nat.zero_le _, rfl, by simp [okMaps], (Below.refl _ _).alloc (Nat.le_refl _) _⟩
      case round =>
        obtain ⟨k, hk, rfl, hok, hb⟩ := hrel
        have HO := Lib.hid hok
        clear hok
        by_cases hlt : k < len
        · have hs := Lib.hid (okMaps_snoc (ms := ms) (k := k) (by rw [← HL.out]; exact hlt))
          obtain ⟨b, off, rfl, hbl, h1, h2⟩ := HM.out.cells k (by rw [← HL.out]; exact hlt)
          rw [← hb.cell (p := ⟨b, off + k * 2, none⟩) hbl] at h1
          rw [← hb.cell (p := ⟨b, off + k * 2 + 1, none⟩) hbl] at h2
          have hsz := hb.size
          generalize ms.getD k none_ = a at h1 h2 hs
          cases hin : inB a.size 1
          · have HIN := Lib.hid hin
            clear hin
            go_wp2_with (go_at_call 40; refine (inB_is _ _ _ HIN.out).mono ?_; rintro e w' ⟨rfl, rfl⟩)
            go_ret
            exact ⟨ret_int (by rw [okMaps_take_false (k := k + 1) (by rw [hs.out, HO.out, HIN.out]; rfl)]; rfl), (hb.alloc hsz _)⟩
          · have HIN := Lib.hid hin
            clear hin
            go_wp2_with (go_at_call 40; refine (inB_is _ _ _ HIN.out).mono ?_; rintro e w' ⟨rfl, rfl⟩)
            go_roundw
            case rel => exact ⟨k + 1, by omega, by go_num, by rw [hs.out, HO.out, HIN.out]; rfl, (hb.alloc hsz _)⟩
            case measure => simp [intOf]; omega
        · go_wp2
          go_ret
          exact ⟨ret_int (by have := HO.out; rw [List.take_of_length_le (by rw [← HL.out]; omega)] at this; rw [this]; rfl), hb⟩
theorem check_is {b : Bool} (c : Int) (wr : Bool) (p : Option Addr) (len cap : Nat) (ms : List Ar) (w : World) (hm : MapsAt w p len ms) (h : okL c ms = b) :
    Calls Tryd.prog 11 #[.agg #[.int .i64 c, .bool wr, .slice p len cap]] w fun e w' => e = .returned (.int .i64 (chk b)) ∧ Below w.heap.size w w' := by
  rw [← h]; exact check_any c wr p len cap ms w hm

end Go.Proofs.YtgchdiocbllppaaDoor
