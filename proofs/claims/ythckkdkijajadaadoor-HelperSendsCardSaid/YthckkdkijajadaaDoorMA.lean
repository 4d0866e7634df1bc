/- Plain facts on layouts, memories and bytes: what package mem answers, said without a program. -/
import Derived.Below
import Derived.Test.YthckkdkijajadaaDoorProg
import Derived.WalkKit
import Derived.Lib.Hide
import Derived.WalkSpells
import Derived.WalkLawsBesides
import Derived.BigQuiet
import Derived.Deep.QuietTactic

/- Plain facts on layouts, memories and bytes: what package mem answers, said without a program. -/
namespace Go.Proofs.YthckkdkijajadaaDoor.M
open Go.RowKit

/-- an area: its size, and whether it may be written -/
structure Ar where
  size : Int
  write : Bool

def inB (n l : Int) : Bool := decide (l ≤ n ∧ n ≤ 4096)
theorem inB_true {n l : Int} (h : l ≤ n ∧ n ≤ 4096) : inB n l = true := by simp [inB, h]
theorem inB_false {n l : Int} (h : ¬ (l ≤ n ∧ n ≤ 4096)) : inB n l = false := by simp only [inB]; exact decide_eq_false h
theorem of_inB {n l : Int} (h : inB n l = true) : l ≤ n ∧ n ≤ 4096 := by simpa [inB] using h
theorem of_inB_false {n l : Int} (h : inB n l = false) : ¬ (l ≤ n ∧ n ≤ 4096) := by
  intro h'; rw [inB_true h'] at h; cases h

/-- may these maps be? -/
def okMaps (ms : List Ar) : Bool := ms.all fun a => inB a.size 1
/-- may this layout be? -/
def okL (c : Int) (ms : List Ar) : Bool := inB c 0 && decide (ms.length ≤ 8) && okMaps ms
def none_ : Ar := ⟨0, false⟩
theorem okMaps_snoc {ms : List Ar} {k : Nat} (hk : k < ms.length) : okMaps (ms.take (k + 1)) = (okMaps (ms.take k) && inB (ms.getD k none_).size 1) := by
  rw [List.take_succ_eq_append_getElem hk]
  simp only [okMaps, List.all_append, List.all_cons, List.all_nil, Bool.and_true]
  simp [hk]
theorem okMaps_take_false {ms : List Ar} {k : Nat} (h : okMaps (ms.take k) = false) : okMaps ms = false := by
  cases h' : okMaps ms
  · rfl
  · simp only [okMaps, List.all_eq_true, List.all_eq_false] at h h'
    obtain ⟨x, hx, hn⟩ := h
    exact absurd (h' x (List.mem_of_mem_take hx)) hn
theorem okL_parts {c : Int} {ms : List Ar} (h : okL c ms = true) : (0 ≤ c ∧ c ≤ 4096) ∧ ms.length ≤ 8 ∧ ∀ i, i < ms.length → 1 ≤ (ms.getD i none_).size ∧ (ms.getD i none_).size ≤ 4096 := by
  simp only [okL, okMaps, Bool.and_eq_true, List.all_eq_true, decide_eq_true_eq] at h
  refine ⟨of_inB h.1.1, h.1.2, fun i hi => of_inB (h.2 _ ?_)⟩
  simp [hi]

/-- is there such a region? -/
def hasReg (len : Nat) (r : Int) : Bool := decide (1 ≤ r ∧ r < 3 + (len : Int))
/-- the region's area -/
def areaOf (c : Int) (wr : Bool) (ms : List Ar) (r : Int) : Ar := if r = 1 then ⟨c, wr⟩ else if r = 2 then ⟨512, true⟩ else ms.getD (r - 3).toNat none_

/-- the maps lie in memory -/
structure MapsAt (w : World) (p : Option Addr) (len : Nat) (ms : List Ar) : Prop where
  hlen : len = ms.length
  small : len ≤ 140737488351232
  cells : ∀ i, i < ms.length → ∃ b off, p = some ⟨b, off, none⟩ ∧ b < w.heap.size ∧ w.cell? ⟨b, off + i * 2, none⟩ = some (.int .i64 (ms.getD i none_).size) ∧ w.cell? ⟨b, off + i * 2 + 1, none⟩ = some (.bool (ms.getD i none_).write)
theorem MapsAt.below {w w' : World} {p : Option Addr} {len : Nat} {ms : List Ar} (h : MapsAt w p len ms) (hb : Below w.heap.size w w') : MapsAt w' p len ms :=
  ⟨h.hlen, h.small, fun i hi => by
    obtain ⟨b, off, hp, hbl, h1, h2⟩ := h.cells i hi
    exact ⟨b, off, hp, Nat.lt_of_lt_of_le hbl hb.size, (hb.cell (p := ⟨b, off + i * 2, none⟩) hbl).trans h1, (hb.cell (p := ⟨b, off + i * 2 + 1, none⟩) hbl).trans h2⟩⟩
theorem MapsAt.alloc {w : World} {p : Option Addr} {len : Nat} {ms : List Ar} (h : MapsAt w p len ms) (o : Obj) : MapsAt (w.alloc o) p len ms :=
  h.below ((Below.refl _ _).alloc (Nat.le_refl _) _)

def isSize (n : Int) : Bool := n == 1 || n == 2 || n == 4 || n == 8

end Go.Proofs.YthckkdkijajadaaDoor.M

/- Contracts of the small functions of package mem and of the document's answer: sizes, addresses, layouts, areas. -/
namespace Go.Proofs.YthckkdkijajadaaDoor
open Go.RowKit M

theorem inB_any (n l : Int) (w : World) :
    Calls Tryd.prog 63 #[.int .i64 n, .int .i64 l] w fun e w' => e = .returned (.bool (inB n l)) ∧ w = w' := by
  unfold inB
  by_cases h1 : l ≤ n
  · by_cases h2 : n ≤ 4096
    · go_enter Tryd.func63, Tryd.ntmps63
      go_wp2
      go_ret
      exact ⟨by simp [h1, h2], rfl⟩
    · go_enter Tryd.func63, Tryd.ntmps63
      go_wp2
      go_ret
      exact ⟨by simp [h2], rfl⟩
  · go_enter Tryd.func63, Tryd.ntmps63
    go_wp2
    go_ret
    exact ⟨by simp; omega, rfl⟩
theorem inB_is {v : Bool} (n l : Int) (w : World) (h : inB n l = v) : Calls Tryd.prog 63 #[.int .i64 n, .int .i64 l] w fun e w' => e = .returned (.bool v) ∧ w = w' := by
  rw [← h]; exact inB_any n l w

set_option maxHeartbeats 400000 in
theorem size_any (n : Int) (w : World) :
    Calls Tryd.prog 67 #[.int .i64 n] w fun e w' => e = .returned (.bool (isSize n)) ∧ w = w' := by
  unfold isSize
  go_enter Tryd.func67, Tryd.ntmps67
  go_wp2
  all_goals
    go_ret
    exact ⟨by simp [*], rfl⟩
theorem size_is {v : Bool} (n : Int) (w : World) (h : isSize n = v) : Calls Tryd.prog 67 #[.int .i64 n] w fun e w' => e = .returned (.bool v) ∧ w = w' := by
  rw [← h]; exact size_any n w
set_option maxHeartbeats 400000 in
theorem rsize_any (n : Int) (w : World) :
    Calls Tryd.prog 40 #[.int .i64 n] w fun e w' => e = .returned (.bool (isSize n)) ∧ w = w' := by
  unfold isSize
  go_enter Tryd.func40, Tryd.ntmps40
  go_wp2
  all_goals
    go_ret
    exact ⟨by simp [*], rfl⟩
theorem rsize_is {v : Bool} (n : Int) (w : World) (h : isSize n = v) : Calls Tryd.prog 40 #[.int .i64 n] w fun e w' => e = .returned (.bool v) ∧ w = w' := by
  rw [← h]; exact rsize_any n w

def addrOf (r o : Int) : Int := IntKind.u64.wrap (IntKind.u64.wrap (IntKind.u64.wrap r * 4294967296) + IntKind.u64.wrap o)
set_option maxHeartbeats 400000 in
theorem raddress_any (r o : Int) (w : World) :
    Calls Tryd.prog 32 #[.int .i64 r, .int .i64 o] w fun e w' => e = .returned (.int .u64 (addrOf r o)) ∧ w = w' := by
  go_enter Tryd.func32, Tryd.ntmps32
  go_wp2
  go_ret
  exact ⟨rfl, rfl⟩
/-- an address's region and offset -/
def regOf (a : Int) : Int := a / 4294967296
def offOf (a : Int) : Int := a % 4294967296
theorem ret2_int {k l : IntKind} {a b c d : Int} (h : a = b) (h' : c = d) : Ending.returned (.tuple #[.int k a, .int l c]) = .returned (.tuple #[.int k b, .int l d]) := by rw [h, h']
set_option maxHeartbeats 400000 in
theorem split_any (a : Int) (w : World) (h0 : 0 ≤ a) (h1 : a < 18446744073709551616) :
    Calls Tryd.prog 64 #[.int .u64 a] w fun e w' => e = .returned (.tuple #[.int .i64 (regOf a), .int .i64 (offOf a)]) ∧ w = w' := by
  have h2 : wrap64 (a / 4294967296) = a / 4294967296 := by simp only [wrap64]; omega
  have H := Lib.hid h2
  clear h2 h0 h1
  go_enter Tryd.func64, Tryd.ntmps64
  go_wp2
  go_ret2
  exact ⟨ret2_int H.out rfl, rfl⟩
theorem rdiv (a : Int) (h0 : 0 ≤ a) (h1 : a < 18446744073709551616) : wrap64 (IntKind.u64.wrap (a.tdiv 4294967296)) = regOf a := by
  rw [Int.tdiv_eq_ediv_of_nonneg h0]
  simp only [wrap64, IntKind.wrap_u64, regOf]
  omega
set_option maxHeartbeats 400000 in
theorem rsplit_any (a : Int) (w : World) (h0 : 0 ≤ a) (h1 : a < 18446744073709551616) :
    Calls Tryd.prog 43 #[.int .u64 a] w fun e w' => e = .returned (.tuple #[.int .i64 (regOf a), .int .i64 (offOf a)]) ∧ w = w' := by
  have H := Lib.hid (rdiv a h0 h1)
  clear h1
  go_enter Tryd.func43, Tryd.ntmps43
  go_wp2
  go_ret2
  exact ⟨ret2_int H.out rfl, rfl⟩

theorem ret_bool {a b : Bool} (h : a = b) : Ending.returned (.bool a) = .returned (.bool b) := by rw [h]
theorem ret_int {k : IntKind} {a b : Int} (h : a = b) : Ending.returned (.int k a) = .returned (.int k b) := by rw [h]
set_option maxHeartbeats 400000 in
theorem isRegion_any (c : Int) (wr : Bool) (p : Option Addr) (len cap : Nat) (r : Int) (w : World) (hl : len ≤ 140737488351232) :
    Calls Tryd.prog 68 #[.agg #[.int .i64 c, .bool wr, .slice p len cap], .int .i64 r] w fun e w' => e = .returned (.bool (hasReg len r)) ∧ Below w.heap.size w w' := by
  by_cases h1 : 1 ≤ r
  · go_enter Tryd.func68, Tryd.ntmps68
    go_wp2
    go_ret
    exact ⟨ret_bool (by simp [hasReg, h1]), (Below.refl _ _).alloc (Nat.le_refl _) _⟩
  · go_enter Tryd.func68, Tryd.ntmps68
    go_wp2
    go_ret
    exact ⟨ret_bool (by simp [hasReg]; omega), (Below.refl _ _).alloc (Nat.le_refl _) _⟩
theorem isRegion_is {v : Bool} (c : Int) (wr : Bool) (p : Option Addr) (len cap : Nat) (r : Int) (w : World) (hl : len ≤ 140737488351232) (h : hasReg len r = v) :
    Calls Tryd.prog 68 #[.agg #[.int .i64 c, .bool wr, .slice p len cap], .int .i64 r] w fun e w' => e = .returned (.bool v) ∧ Below w.heap.size w w' := by
  rw [← h]; exact isRegion_any c wr p len cap r w hl

theorem ret_area {a b : Int} {x y : Bool} (h : a = b) (h' : x = y) : Ending.returned (.agg #[.int .i64 a, .bool x]) = .returned (.agg #[.int .i64 b, .bool y]) := by rw [h, h']
set_option maxHeartbeats 400000 in
theorem area_any (c : Int) (wr : Bool) (p : Option Addr) (len cap : Nat) (ms : List Ar) (r : Int) (w : World) (hm : MapsAt w p len ms) (hr : hasReg len r = true) :
    Calls Tryd.prog 66 #[.agg #[.int .i64 c, .bool wr, .slice p len cap], .int .i64 r] w fun e w' =>
      e = .returned (.agg #[.int .i64 (areaOf c wr ms r).size, .bool (areaOf c wr ms r).write]) ∧ Below w.heap.size w w' := by
  obtain ⟨g1, g2⟩ : 1 ≤ r ∧ r < 3 + (len : Int) := by simpa [hasReg] using hr
  have hb2 : ∀ o1 o2, Below w.heap.size w ((w.alloc o1).alloc o2) := fun o1 o2 => ((Below.refl _ _).alloc (Nat.le_refl _) _).alloc (by simp) _
  have HB := Lib.hid hb2
  by_cases h1 : r = 1
  · subst h1
    clear hb2
    go_enter Tryd.func66, Tryd.ntmps66
    go_wp2
    exact bodyPost_ret (v := .agg #[.int .i64 c, .bool wr]) (by simp [results, Tryd.results66, go_sem]) rfl ⟨rfl, HB.out _ _⟩
  · by_cases h2 : r = 2
    · subst h2
      clear hb2
      go_enter Tryd.func66, Tryd.ntmps66
      go_wp2
      exact bodyPost_ret (v := .agg #[.int .i64 512, .bool true]) (by simp [results, Tryd.results66, go_sem]) rfl ⟨rfl, HB.out _ _⟩
    · have hk := hm.cells (r - 3).toNat (by have := hm.hlen; omega)
      have hsm := hm.small
      obtain ⟨k, hk'⟩ : ∃ k : Nat, r = k + 3 := ⟨(r - 3).toNat, by omega⟩
      subst hk'
      obtain ⟨b, off, rfl, hbl, c1, c2⟩ := hk
      have e1 : ((k : Int) + 3 - 3).toNat = k := by omega
      rw [e1] at c1 c2
      have hlt : k < len := by omega
      have HA : areaOf c wr ms (k + 3) = ms.getD k none_ := by
        unfold areaOf; rw [if_neg h1, if_neg h2, e1]
      rw [HA]
      generalize ms.getD k none_ = a at c1 c2
      clear HA e1 hm hr g1 g2 hb2
      go_enter Tryd.func66, Tryd.ntmps66
      go_wp2
      exact bodyPost_ret (v := .agg #[.int .i64 a.size, .bool a.write]) (by simp [results, Tryd.results66, go_sem]) rfl ⟨rfl, HB.out _ _⟩
/-- what Check answers -/
def chk (b : Bool) : Int := if b then 0 else 22
set_option maxHeartbeats 400000 in
theorem check_any (c : Int) (wr : Bool) (p : Option Addr) (len cap : Nat) (ms : List Ar) (w : World) (hm : MapsAt w p len ms) :
    Calls Tryd.prog 55 #[.agg #[.int .i64 c, .bool wr, .slice p len cap]] w fun e w' => e = .returned (.int .i64 (chk (okL c ms))) ∧ Below w.heap.size w w' := by
  have hsm := hm.small
  have HM := Lib.hid hm
  have HL := Lib.hid hm.hlen
  clear hm
  cases hc : inB c 0
  · have HC := Lib.hid hc
    clear hc
    go_enter Tryd.func55, Tryd.ntmps55
    go_wp2_with (go_at_call 63; refine (inB_is _ _ _ HC.out).mono ?_; rintro e w' ⟨rfl, rfl⟩)
    go_ret
    exact ⟨ret_int (by simp [okL, HC.out, chk]), (Below.refl _ _).alloc (Nat.le_refl _) _⟩
  · have HC := Lib.hid hc
    clear hc
    by_cases hl : 8 < len
    · go_enter Tryd.func55, Tryd.ntmps55
      go_wp2_with (go_at_call 63; refine (inB_is _ _ _ HC.out).mono ?_; rintro e w' ⟨rfl, rfl⟩)
      go_ret
      exact ⟨ret_int (by have := HL.out; simp only [okL, HC.out, chk]; rw [decide_eq_false (by omega)]; rfl), (Below.refl _ _).alloc (Nat.le_refl _) _⟩
    · have HE : okL c ms = okMaps ms := by have := HL.out; simp only [okL, HC.out]; rw [decide_eq_true (by omega)]; rfl
      rw [HE]
      clear HE
      go_enter Tryd.func55, Tryd.ntmps55
      go_wp2_with (go_at_call 63; refine (inB_is _ _ _ HC.out).mono ?_; rintro e w' ⟨rfl, rfl⟩)
      go_loopw [19] (fun i wr => ∃ k : Nat, k ≤ len ∧ i = .int .i64 k ∧ okMaps (ms.take k) = true ∧ Below w.heap.size w wr) (fun i _ => len - (intOf i).toNat)
      case atStart => exact ⟨0, Nat.zero_le _, rfl, by simp [okMaps], (Below.refl _ _).alloc (Nat.le_refl _) _⟩
      case round =>
        obtain ⟨k, hk, rfl, hok, hb⟩ := hrel
        have HO := Lib.hid hok
        clear hok
        by_cases hlt : k < len
        · have hs := Lib.hid (okMaps_snoc (ms := ms) (k := k) (by rw [← HL.out]; exact hlt))
          obtain ⟨b, off, rfl, hbl, h1, h2⟩ := HM.out.cells k (by rw [← HL.out]; exact hlt)
          rw [← hb.cell (p := ⟨b, off + k * 2, none⟩) hbl] at h1
          rw [← hb.cell (p := ⟨b, off + k * 2 + 1, none⟩) hbl] at h2
          have hsz := hb.size
          generalize ms.getD k none_ = a at h1 h2 hs
          cases hin : inB a.size 1
          · have HIN := Lib.hid hin
            clear hin
            go_wp2_with (go_at_call 63; refine (inB_is _ _ _ HIN.out).mono ?_; rintro e w' ⟨rfl, rfl⟩)
            go_ret
            exact ⟨ret_int (by rw [okMaps_take_false (k := k + 1) (by rw [hs.out, HO.out, HIN.out]; rfl)]; rfl), (hb.alloc hsz _)⟩
          · have HIN := Lib.hid hin
            clear hin
            go_wp2_with (go_at_call 63; refine (inB_is _ _ _ HIN.out).mono ?_; rintro e w' ⟨rfl, rfl⟩)
            go_roundw
            case rel => exact ⟨k + 1, by omega, by go_num, by rw [hs.out, HO.out, HIN.out]; rfl, (hb.alloc hsz _)⟩
            case measure => simp [intOf]; omega
        · go_wp2
          go_ret
          exact ⟨ret_int (by have := HO.out; rw [List.take_of_length_le (by rw [← HL.out]; omega)] at this; rw [this]; rfl), hb⟩
theorem check_is {b : Bool} (c : Int) (wr : Bool) (p : Option Addr) (len cap : Nat) (ms : List Ar) (w : World) (hm : MapsAt w p len ms) (h : okL c ms = b) :
    Calls Tryd.prog 55 #[.agg #[.int .i64 c, .bool wr, .slice p len cap]] w fun e w' => e = .returned (.int .i64 (chk b)) ∧ Below w.heap.size w w' := by
  rw [← h]; exact check_any c wr p len cap ms w hm

end Go.Proofs.YthckkdkijajadaaDoor

/- Contracts of the layout checks and the areas, on both sides. -/
namespace Go.Proofs.YthckkdkijajadaaDoor
open Go.RowKit M

set_option maxHeartbeats 400000 in
theorem rcheck_any (c : Int) (wr : Bool) (p : Option Addr) (len cap : Nat) (ms : List Ar) (w : World) (hm : MapsAt w p len ms) :
    Calls Tryd.prog 23 #[.agg #[.int .i64 c, .bool wr, .slice p len cap]] w fun e w' => e = .returned (.int .i64 (chk (okL c ms))) ∧ Below w.heap.size w w' := by
  have hsm := hm.small
  have HM := Lib.hid hm
  have HL := Lib.hid hm.hlen
  have HB : Hid (∀ o, Below w.heap.size w (w.alloc o)) := fun o => (Below.refl _ _).alloc (Nat.le_refl _) _
  clear hm
  by_cases h0 : 0 ≤ c
  · by_cases h1 : c ≤ 4096
    · have HC := Lib.hid (inB_true ⟨h0, h1⟩)
      by_cases hl : 8 < len
      · go_enter Tryd.func23, Tryd.ntmps23
        go_wp2
        go_ret
        exact ⟨ret_int (by have := HL.out; simp only [okL, HC.out, chk]; rw [decide_eq_false (by omega)]; rfl), HB.out _⟩
      · have HE : okL c ms = okMaps ms := by have := HL.out; simp only [okL, HC.out]; rw [decide_eq_true (by omega)]; rfl
        rw [HE]
        clear HE HC
        go_enter Tryd.func23, Tryd.ntmps23
        go_wp2
        go_loop [3] (fun i => ∃ k : Nat, k ≤ len ∧ i = .int .i64 k ∧ Hid (okMaps (ms.take k) = true)) (fun i => len - (intOf i).toNat)
        case atStart => exact ⟨0, Nat.zero_le _, rfl, by simp [okMaps, Hid]⟩
        case round =>
          obtain ⟨k, hk, rfl, HO⟩ := hrel
          by_cases hlt : k < len
          · have hs := Lib.hid (okMaps_snoc (ms := ms) (k := k) (by rw [← HL.out]; exact hlt))
            obtain ⟨b, off, rfl, hbl, g1, g2⟩ := HM.out.cells k (by rw [← HL.out]; exact hlt)
            generalize ms.getD k none_ = a at g1 g2 hs
            by_cases i1 : 1 ≤ a.size
            · by_cases i2 : a.size ≤ 4096
              · have HIN := Lib.hid (inB_true ⟨i1, i2⟩)
                go_wp2
                go_round
                case rel => exact ⟨k + 1, by omega, by go_num, by show okMaps _ = true; rw [hs.out, HO.out, HIN.out]; rfl⟩
                case measure => simp [intOf]; omega
              · have HIN := Lib.hid (inB_false (n := a.size) (l := 1) (by omega))
                go_wp2
                go_ret
                exact ⟨ret_int (by rw [okMaps_take_false (k := k + 1) (by rw [hs.out, HO.out, HIN.out]; rfl)]; rfl), HB.out _⟩
            · have HIN := Lib.hid (inB_false (n := a.size) (l := 1) (by omega))
              go_wp2
              go_ret
              exact ⟨ret_int (by rw [okMaps_take_false (k := k + 1) (by rw [hs.out, HO.out, HIN.out]; rfl)]; rfl), HB.out _⟩
          · go_wp2
            go_ret
            exact ⟨ret_int (by have := HO.out; rw [List.take_of_length_le (by rw [← HL.out]; omega)] at this; rw [this]; rfl), HB.out _⟩
    · have HC := Lib.hid (inB_false (n := c) (l := 0) (by omega))
      go_enter Tryd.func23, Tryd.ntmps23
      go_wp2
      go_ret
      exact ⟨ret_int (by simp [okL, HC.out, chk]), HB.out _⟩
  · have HC := Lib.hid (inB_false (n := c) (l := 0) (by omega))
    go_enter Tryd.func23, Tryd.ntmps23
    go_wp2
    go_ret
    exact ⟨ret_int (by simp [okL, HC.out, chk]), HB.out _⟩
theorem rcheck_is {b : Bool} (c : Int) (wr : Bool) (p : Option Addr) (len cap : Nat) (ms : List Ar) (w : World) (hm : MapsAt w p len ms) (h : okL c ms = b) :
    Calls Tryd.prog 23 #[.agg #[.int .i64 c, .bool wr, .slice p len cap]] w fun e w' => e = .returned (.int .i64 (chk b)) ∧ Below w.heap.size w w' := by
  rw [← h]; exact rcheck_any c wr p len cap ms w hm
theorem chk_true : chk true = 0 := rfl
theorem chk_false : chk false = 22 := rfl

/-- what Area answers -/
def areaR (c : Int) (wr : Bool) (ms : List Ar) (len : Nat) (r : Int) : Ar := if okL c ms && hasReg len r then areaOf c wr ms r else none_
def areaB (c : Int) (ms : List Ar) (len : Nat) (r : Int) : Bool := okL c ms && hasReg len r
theorem bcell {W w1 : World} (hb : Below W.heap.size W w1) : (∀ b o, b < W.heap.size → w1.cell? ⟨b, o, none⟩ = W.cell? ⟨b, o, none⟩) ∧ (∀ b o, b < W.heap.size → w1.frozen? ⟨b, o, none⟩ = W.frozen? ⟨b, o, none⟩) :=
  ⟨fun b o h => hb.cell (p := ⟨b, o, none⟩) h, fun b o h => hb.frozen (p := ⟨b, o, none⟩) h⟩
theorem area_is {c : Int} {wr : Bool} {ms : List Ar} {r : Int} {v : Ar} (h : areaOf c wr ms r = v) (p : Option Addr) (len cap : Nat) (w : World) (hm : MapsAt w p len ms) (hr : hasReg len r = true) :
    Calls Tryd.prog 66 #[.agg #[.int .i64 c, .bool wr, .slice p len cap], .int .i64 r] w fun e w' =>
      e = .returned (.agg #[.int .i64 v.size, .bool v.write]) ∧ Below w.heap.size w w' := by
  rw [← h]; exact area_any c wr p len cap ms r w hm hr
theorem one_in {w w1 : World} {o1 : Obj} (h : Below (w.alloc o1).heap.size (w.alloc o1) w1) : w.heap.size < w1.heap.size := by
  have := h.size; simp at this; omega
theorem two_in {w w1 : World} {o1 o2 : Obj} (h : Below ((w.alloc o1).alloc o2).heap.size ((w.alloc o1).alloc o2) w1) : w.heap.size < w1.heap.size ∧ w.heap.size + 1 < w1.heap.size := by
  have := h.size; simp at this; omega
theorem more_in {a b : Nat} {B : Nat} {w w1 : World} (h1 : a < w.heap.size) (h2 : b < w.heap.size) (h : Below B w w1) : a < w1.heap.size ∧ b < w1.heap.size :=
  ⟨Nat.lt_of_lt_of_le h1 h.size, Nat.lt_of_lt_of_le h2 h.size⟩
theorem below1 {w w1 : World} {o1 : Obj} (h : Below (w.alloc o1).heap.size (w.alloc o1) w1) : Below w.heap.size w w1 :=
  ((Below.refl _ _).alloc (Nat.le_refl _) _).trans (h.mono (by simp))
theorem below2 {w w1 : World} {o1 o2 : Obj} (h : Below ((w.alloc o1).alloc o2).heap.size ((w.alloc o1).alloc o2) w1) : Below w.heap.size w w1 :=
  (((Below.refl _ _).alloc (Nat.le_refl _) _).alloc (by simp) _).trans (h.mono (by simp; omega))
theorem below_next {w w1 w2 : World} (h : Below w.heap.size w w1) (h2 : Below w1.heap.size w1 w2) : Below w.heap.size w w2 :=
  h.trans (h2.mono h.size)
set_option maxHeartbeats 400000 in
theorem area2_any (c : Int) (wr : Bool) (p : Option Addr) (len cap : Nat) (ms : List Ar) (r : Int) (w : World) (hm : MapsAt w p len ms) :
    Calls Tryd.prog 65 #[.agg #[.int .i64 c, .bool wr, .slice p len cap], .int .i64 r] w fun e w' =>
      e = .returned (.tuple #[.agg #[.int .i64 (areaR c wr ms len r).size, .bool (areaR c wr ms len r).write], .bool (areaB c ms len r)]) ∧ Below w.heap.size w w' := by
  have HM := Lib.hid hm
  have hsm := hm.small
  clear hm
  cases ho : okL c ms
  · have e1 : areaR c wr ms len r = none_ := by simp [areaR, ho]
    have e2 : areaB c ms len r = false := by simp [areaB, ho]
    rw [e1, e2]
    have HO := Lib.hid ho
    clear e1 e2 ho
    go_enter Tryd.func65, Tryd.ntmps65
    go_wp2_with (go_at_call 55; refine (check_is _ _ _ _ _ ms _ ((HM.out.alloc _).alloc _) HO.out).mono ?_; rintro e w1 ⟨rfl, hb⟩; rw [chk_false]; obtain ⟨hc, hf⟩ := bcell hb; obtain ⟨hy, hz⟩ := two_in hb)
    refine bodyPost_ret (v := .tuple #[.agg #[.int .i64 0, .bool false], .bool false]) (by simp [results, Tryd.results65, go_sem, hc]) rfl ⟨rfl, ?_⟩
    exact (below2 hb).setCell (by simp) _ |>.setCell (by simp) _
  · have HO := Lib.hid ho
    cases hr : hasReg len r
    · have e1 : areaR c wr ms len r = none_ := by simp [areaR, hr]
      have e2 : areaB c ms len r = false := by simp [areaB, hr]
      rw [e1, e2]
      have HR := Lib.hid hr
      clear e1 e2 ho hr
      go_enter Tryd.func65, Tryd.ntmps65
      go_wp2_with (first
        | (go_at_call 55; refine (check_is _ _ _ _ _ ms _ ((HM.out.alloc _).alloc _) HO.out).mono ?_; rintro e w1 ⟨rfl, hb⟩; rw [chk_true]; obtain ⟨hc, hf⟩ := bcell hb; obtain ⟨hy, hz⟩ := two_in hb)
        | (go_at_call 68; refine (isRegion_is _ _ _ _ _ _ _ hsm HR.out).mono ?_; rintro e w2 ⟨rfl, hb2⟩; obtain ⟨hc2, hf2⟩ := bcell hb2; obtain ⟨hy2, hz2⟩ := more_in hy hz hb2))
      refine bodyPost_ret (v := .tuple #[.agg #[.int .i64 0, .bool false], .bool false]) (by simp [results, Tryd.results65, go_sem, hc, hc2, hz]) rfl ⟨rfl, ?_⟩
      exact (below_next (below2 hb) hb2).setCell (by simp) _ |>.setCell (by simp) _
    · have e1 : areaR c wr ms len r = areaOf c wr ms r := by simp [areaR, ho, hr]
      have e2 : areaB c ms len r = true := by simp [areaB, ho, hr]
      rw [e1, e2]
      have HR := Lib.hid hr
      have har := area_is (v := areaOf c wr ms r) rfl
      generalize areaOf c wr ms r = ar at *
      have HA := Lib.hid har
      clear har
      clear e1 e2 ho hr
      go_enter Tryd.func65, Tryd.ntmps65
      go_wp2_with (first
        | (go_at_call 55; refine (check_is _ _ _ _ _ ms _ ((HM.out.alloc _).alloc _) HO.out).mono ?_; rintro e w1 ⟨rfl, hb⟩; rw [chk_true]; obtain ⟨hc, hf⟩ := bcell hb; obtain ⟨hy, hz⟩ := two_in hb)
        | (go_at_call 68; refine (isRegion_is _ _ _ _ _ _ _ hsm HR.out).mono ?_; rintro e w2 ⟨rfl, hb2⟩; obtain ⟨hc2, hf2⟩ := bcell hb2; obtain ⟨hy2, hz2⟩ := more_in hy hz hb2)
        | (go_at_call 66; refine (HA.out _ _ _ _ ((((HM.out.alloc _).alloc _).below hb).below hb2) HR.out).mono ?_; rintro e w3 ⟨rfl, hb3⟩; obtain ⟨hc3, hf3⟩ := bcell hb3; obtain ⟨hy3, hz3⟩ := more_in hy2 hz2 hb3))
      refine bodyPost_ret (v := .tuple #[.agg #[.int .i64 ar.size, .bool ar.write], .bool true]) (by simp [results, Tryd.results65, go_sem, hc, hc2, hc3, hz, hz2]) rfl ⟨rfl, ?_⟩
      exact (below_next (below_next (below2 hb) hb2) hb3).setCell (by simp) _ |>.setCell (by simp) _
end Go.Proofs.YthckkdkijajadaaDoor
