/- Contracts of small functions of package helper: isAddress, first, slices.Index, value; and of the document's size. -/
import Derived.Test.YthckkdkijajadaaDoorML

/- Contracts of small functions of package helper: isAddress, first, slices.Index, value; and of the document's size. -/
namespace Go.Proofs.YthckkdkijajadaaDoor
open Go.RowKit M

def isAddr (k : Int) : Bool := k == 2 || k == 3
set_option maxHeartbeats 400000 in
theorem isAddr_any (k : Int) (w : World) :
    Calls Tryd.prog 44 #[.int .i64 k] w fun e w' => e = .returned (.bool (isAddr k)) ∧ w = w' := by
  unfold isAddr
  by_cases h : k = 2
  · subst h
    go_enter Tryd.func44, Tryd.ntmps44
    go_wp2
    go_ret
    exact ⟨rfl, rfl⟩
  · have e : (k == 2) = false := by simp [h]
    rw [e]
    go_enter Tryd.func44, Tryd.ntmps44
    go_wp2
    go_ret
    exact ⟨rfl, rfl⟩
theorem isAddr_is {v : Bool} (k : Int) (w : World) (h : isAddr k = v) :
    Calls Tryd.prog 44 #[.int .i64 k] w fun e w' => e = .returned (.bool v) ∧ w = w' := by
  rw [← h]; exact isAddr_any k w

set_option maxHeartbeats 400000 in
theorem first_any (q : Option Addr) (xs : List Int) (cap : Nat) (w : World) (h : WordsAt w q xs) :
    Calls Tryd.prog 29 #[.slice q xs.length cap] w fun e w' => e = .returned (.int .u64 (xs.getD 0 0)) ∧ w = w' := by
  by_cases h0 : 0 < xs.length
  · obtain ⟨b, off, rfl, hb, hc⟩ := h.cells 0 h0
    rw [Nat.add_zero] at hc
    have hs := h.small
    generalize xs.getD 0 0 = x at *
    generalize xs.length = N at *
    clear h
    have e : ((N : Int) == 0) = false := by simp; omega
    go_enter Tryd.func29, Tryd.ntmps29
    go_wp2
    go_ret
    exact ⟨rfl, rfl⟩
  · have e : xs = [] := by cases xs; rfl; simp at h0
    subst e
    go_enter Tryd.func29, Tryd.ntmps29
    go_wp2
    go_ret
    exact ⟨rfl, rfl⟩

/-- where a kind stands among three -/
def idx3 (k0 k1 k2 v : Int) : Int := if v = k0 then 0 else if v = k1 then 1 else if v = k2 then 2 else -1
set_option maxHeartbeats 1000000 in
theorem index_any (b o : Nat) (k0 k1 k2 v : Int) (w : World) (c0 : w.cell? ⟨b, o, none⟩ = some (.int .i64 k0)) (c1 : w.cell? ⟨b, o + 1, none⟩ = some (.int .i64 k1)) (c2 : w.cell? ⟨b, o + 2, none⟩ = some (.int .i64 k2)) :
    Calls Tryd.prog 52 #[.slice (some ⟨b, o, none⟩) 3 3, .int .i64 v] w fun e w' => e = .returned (.int .i64 (idx3 k0 k1 k2 v)) ∧ w = w' := by
  unfold idx3
  by_cases h0 : v = k0
  · subst h0
    rw [if_pos rfl]
    go_enter Tryd.func52, Tryd.ntmps52
    go_wp2
    refine wp_loop_rounds 4 ?_
    rw [rounds_succ]
    go_wp2
    go_ret
    exact ⟨rfl, rfl⟩
  · have e0 : (v == k0) = false := by simp [h0]
    rw [if_neg h0]
    by_cases h1 : v = k1
    · subst h1
      rw [if_pos rfl]
      go_enter Tryd.func52, Tryd.ntmps52
      go_wp2
      refine wp_loop_rounds 4 ?_
      rw [rounds_succ]
      go_wp2
      rw [rounds_succ]
      go_wp2
      go_ret
      exact ⟨rfl, rfl⟩
    · have e1 : (v == k1) = false := by simp [h1]
      rw [if_neg h1]
      by_cases h2 : v = k2
      · subst h2
        rw [if_pos rfl]
        go_enter Tryd.func52, Tryd.ntmps52
        go_wp2
        refine wp_loop_rounds 4 ?_
        rw [rounds_succ]
        go_wp2
        rw [rounds_succ]
        go_wp2
        rw [rounds_succ]
        go_wp2
        go_ret
        exact ⟨rfl, rfl⟩
      · have e2 : (v == k2) = false := by simp [h2]
        rw [if_neg h2]
        go_enter Tryd.func52, Tryd.ntmps52
        go_wp2
        refine wp_loop_rounds 4 ?_
        rw [rounds_succ]
        go_wp2
        rw [rounds_succ]
        go_wp2
        rw [rounds_succ]
        go_wp2
        rw [rounds_succ]
        go_wp2
        go_ret
        exact ⟨rfl, rfl⟩

/-- what mix answers -/
def mixV (a b c g : Int) : Int := IntKind.u64.wrap (IntKind.u64.wrap (IntKind.u64.wrap (a + IntKind.u64.wrap (3 * b)) + IntKind.u64.wrap (5 * c)) + g)
set_option maxHeartbeats 1000000 in
theorem value_mix (nm : ByteArray) (k0 k1 k2 m : Int) (b o cn cc : Nat) (x0 x1 x2 g : Int) (w : World) (hb : b < w.heap.size) (hcn : 3 ≤ cn) (hcs : cn ≤ 17592186044154) (c0 : w.cell? ⟨b, o, none⟩ = some (.int .u64 x0)) (c1 : w.cell? ⟨b, o + 1, none⟩ = some (.int .u64 x1)) (c2 : w.cell? ⟨b, o + 2, none⟩ = some (.int .u64 x2)) :
    Calls Tryd.prog 28 #[.agg #[.string nm, .int .i64 k0, .int .i64 k1, .int .i64 k2, .int .i64 m, .int .i64 5, .slice (some ⟨b, o, none⟩) cn cc], .int .u64 g] w fun e w' => e = .returned (.int .u64 (mixV x0 x1 x2 g)) ∧ Below w.heap.size w w' := by
  have d0 : ∀ ob, (w.alloc ob).cell? ⟨b, o, none⟩ = some (.int .u64 x0) := fun ob => ((Below.refl w.heap.size w).alloc (Nat.le_refl _) ob).cell (p := ⟨b, o, none⟩) hb |>.trans c0
  have d1 : ∀ ob, (w.alloc ob).cell? ⟨b, o + 1, none⟩ = some (.int .u64 x1) := fun ob => ((Below.refl w.heap.size w).alloc (Nat.le_refl _) ob).cell (p := ⟨b, o + 1, none⟩) hb |>.trans c1
  have d2 : ∀ ob, (w.alloc ob).cell? ⟨b, o + 2, none⟩ = some (.int .u64 x2) := fun ob => ((Below.refl w.heap.size w).alloc (Nat.le_refl _) ob).cell (p := ⟨b, o + 2, none⟩) hb |>.trans c2
  have HB := Lib.hid (fun ob => (Below.refl w.heap.size w).alloc (Nat.le_refl _) ob)
  clear c0 c1 c2
  unfold mixV
  go_enter Tryd.func28, Tryd.ntmps28
  go_wp2
  go_quiet (fail)
  go_wp2
  go_ret
  exact ⟨rfl, below_drewN (HB.out _) _⟩
set_option maxHeartbeats 1000000 in
theorem value_given (nm : ByteArray) (k0 k1 k2 m n : Int) (q : Option Addr) (cn cc : Nat) (g : Int) (w : World) (hn : n ≠ 5) :
    Calls Tryd.prog 28 #[.agg #[.string nm, .int .i64 k0, .int .i64 k1, .int .i64 k2, .int .i64 m, .int .i64 n, .slice q cn cc], .int .u64 g] w fun e w' => e = .returned (.int .u64 g) ∧ Below w.heap.size w w' := by
  have e : (n == 5) = false := by simp [hn]
  have HB := Lib.hid (fun ob => (Below.refl w.heap.size w).alloc (Nat.le_refl _) ob)
  go_enter Tryd.func28, Tryd.ntmps28
  go_wp2
  go_ret
  exact ⟨rfl, HB.out _⟩

/-- a size, at most 65 -/
def szC (x : Int) : Int := if x ≤ 65 then x else 65
set_option maxHeartbeats 400000 in
theorem rsize05_any (x : Int) (w : World) (h0 : 0 ≤ x) :
    Calls Tryd.prog 36 #[.int .u64 x] w fun e w' => e = .returned (.int .i64 (szC x)) ∧ w = w' := by
  unfold szC
  by_cases h : x ≤ 65
  · rw [if_pos h]
    have e : wrap64 x = x := by simp only [wrap64]; omega
    go_enter Tryd.func36, Tryd.ntmps36
    go_wp2
    go_ret
    exact ⟨by first | rfl | simp [e], rfl⟩
  · rw [if_neg h]
    go_enter Tryd.func36, Tryd.ntmps36
    go_wp2
    go_ret
    exact ⟨rfl, rfl⟩
end Go.Proofs.YthckkdkijajadaaDoor

/- Contract of args: the kinds alone, in a list of their own. -/
namespace Go.Proofs.YthckkdkijajadaaDoor
open Go.RowKit M

/-- the kinds among the first k that are not nought -/
def fK (k0 k1 k2 : Int) (k : Nat) : List Int := ([k0, k1, k2].take k).filter (· != 0)
def k3 (k0 k1 k2 : Int) (k : Nat) : Int := [k0, k1, k2].getD k 0
def intsV (xs : List Int) : List Value := xs.map (Value.int .i64)
theorem intsV_length (xs : List Int) : (intsV xs).length = xs.length := by simp [intsV]
theorem fK_step0 {k0 k1 k2 : Int} {k : Nat} (hk : k < 3) (h : k3 k0 k1 k2 k = 0) : fK k0 k1 k2 (k + 1) = fK k0 k1 k2 k := by
  have e : k = 0 ∨ k = 1 ∨ k = 2 := by omega
  by_cases a0 : k0 = 0 <;> by_cases a1 : k1 = 0 <;> rcases e with rfl | rfl | rfl <;> simp_all [k3, fK]
theorem fK_step1 {k0 k1 k2 : Int} {k : Nat} (hk : k < 3) (h : k3 k0 k1 k2 k ≠ 0) : fK k0 k1 k2 (k + 1) = fK k0 k1 k2 k ++ [k3 k0 k1 k2 k] := by
  have e : k = 0 ∨ k = 1 ∨ k = 2 := by omega
  by_cases a0 : k0 = 0 <;> by_cases a1 : k1 = 0 <;> rcases e with rfl | rfl | rfl <;> simp_all [k3, fK]
theorem fK_le (k0 k1 k2 : Int) (k : Nat) : (fK k0 k1 k2 k).length ≤ k := by
  unfold fK
  exact Nat.le_trans (List.length_filter_le _ _) (by simp; omega)
theorem run_index3 (k0 k1 k2 : Int) (k : Nat) (hk : k < 3) (w : World) : (Instr.index 70 (.agg #[.int .i64 k0, .int .i64 k1, .int .i64 k2]) (.int .i64 k)).run Tryd.prog w = .ok (.int .i64 (k3 k0 k1 k2 k)) w := by
  have e : k = 0 ∨ k = 1 ∨ k = 2 := by omega
  rcases e with rfl | rfl | rfl
  · show (Instr.index 70 (.agg #[.int .i64 k0, .int .i64 k1, .int .i64 k2]) (.int .i64 0)).run Tryd.prog w = .ok (.int .i64 k0) w
    kernel_rfl
  · show (Instr.index 70 (.agg #[.int .i64 k0, .int .i64 k1, .int .i64 k2]) (.int .i64 1)).run Tryd.prog w = .ok (.int .i64 k1) w
    kernel_rfl
  · show (Instr.index 70 (.agg #[.int .i64 k0, .int .i64 k1, .int .i64 k2]) (.int .i64 2)).run Tryd.prog w = .ok (.int .i64 k2) w
    kernel_rfl
theorem info69 : (Tryd.prog.info? 69).map (fun i => (i.zero, i.size, i.bytes)) = some (some (.int .i64 0), 1, 8) := by kernel_rfl

theorem own_slice {w : World} {base : Nat} {e : TypeId} {size : Nat} {v : Value} {n : Nat} {xs : List Value} (h : w.ownsRow base e size v n xs) : ∃ p c, v = .slice p n c := by
  obtain ⟨_, ⟨rfl, rfl⟩ | ⟨g, cap, _, rfl, _⟩⟩ := h
  · exact ⟨_, _, rfl⟩
  · exact ⟨_, _, rfl⟩
/-- a list of kinds of the call's own -/
def ArgsPost (L : List Int) (w : World) (e : Ending) (w' : World) : Prop :=
  ∃ v, e = .returned v ∧ Below w.heap.size w w' ∧ w'.ownsRow w.heap.size 69 1 v L.length (intsV L)
set_option maxRecDepth 100000 in
set_option maxHeartbeats 1000000 in
theorem args_any (nm : ByteArray) (k0 k1 k2 m : Int) (w : World) :
    Calls Tryd.prog 34 #[.agg #[.string nm, .int .i64 k0, .int .i64 k1, .int .i64 k2, .int .i64 m]] w (ArgsPost (fK k0 k1 k2 3) w) := by
  obtain ⟨i5, h5, g5, s5, b5⟩ := info_parts info69
  have H5 := Lib.hid h5
  have G5 := Lib.hid g5
  have S5 := Lib.hid s5
  have B5 := Lib.hid b5
  clear h5 g5 s5 b5
  unfold ArgsPost
  go_enter Tryd.func34, Tryd.ntmps34
  go_wp2
  go_loopw [3, 8] (fun v i wr => ∃ k : Nat, k ≤ 3 ∧ i = .int .i64 k ∧ Hid (Below w.heap.size w wr) ∧ Hid (wr.ownsRow w.heap.size 69 1 v (fK k0 k1 k2 k).length (intsV (fK k0 k1 k2 k)))) (fun _ i _ => 3 - (intOf i).toNat)
  case atStart => exact ⟨0, Nat.zero_le _, rfl, (Below.refl _ _).alloc (Nat.le_refl _) _, ⟨rfl, .inl ⟨rfl, rfl⟩⟩⟩
  case round =>
    obtain ⟨k, hk, rfl, HB, HOWN⟩ := hrel
    by_cases hlt : k < 3
    · have hix := run_index3 k0 k1 k2 k hlt
      have hle := fK_le k0 k1 k2 k
      have hbs := HB.out.size
      by_cases h0 : k3 k0 k1 k2 k = 0
      · have HS := Lib.hid (fK_step0 hlt h0)
        rw [h0] at hix
        clear h0
        go_wp2
        go_roundw
        case rel => exact ⟨k + 1, by omega, by go_num, HB.out, by rw [HS.out]; exact HOWN.out⟩
        case measure => simp [intOf]; omega
      · have HS := Lib.hid (fK_step1 hlt h0)
        have hz : (k3 k0 k1 k2 k != 0) = true := by simp [h0]
        generalize k3 k0 k1 k2 k = x at *
        clear h0
        go_wp2_with (at_builtin; refine wpList_append_own _ rfl (.tmp 13) (.tmp 15) 41 rfl w.heap.size 69 i5 _ 1 8 Tryd.underlying41 H5.out G5.out S5.out B5.out rfl (by decide) _ _ _ rfl (HOWN.out.alloc _) ⟨wr.heap.size, 0, none⟩ 1 1 [.int .i64 x] rfl rfl ?c1 ?c2 ?c3 ?c4 ?c5 ?_)
        case c1 => exact cell_one_new _ _ _
        case c2 => simp [Value.oneCell']
        case c3 => simp only [maxLen]; omega
        case c4 => omega
        case c5 => simp; omega
        intro v' w3 hown' hg _
        have HB3 := Lib.hid ((HB.out.trans ((Below.refl w.heap.size wr).alloc hbs (.cells #[.int .i64 x] 69))).grown hg (by simp; omega) (own_ge HOWN.out))
        have HO3 := Lib.hid hown'
        clear hown' hg
        go_wp2
        go_roundw
        case rel =>
          refine ⟨k + 1, by omega, by go_num, HB3.out, ?_⟩
          rw [HS.out]
          have := HO3.out
          simpa [intsV, Hid] using this
        case measure => simp [intOf]; omega
    · have hkn : k = 3 := by omega
      subst hkn
      go_wp2
      go_ret
      exact ⟨_, rfl, HB.out, HOWN.out⟩
/-- a helper's kinds -/
theorem fK_kinds {n : Int} (h : isH n = true) : fK (kd n 0) (kd n 1) (kd n 2) 3 = kinds n := by
  rcases isH_cases h with rfl | rfl | rfl | rfl | rfl <;> decide
theorem kinds_length (n : Int) : (kinds n).length = cnt n := by simp [kinds]
end Go.Proofs.YthckkdkijajadaaDoor
