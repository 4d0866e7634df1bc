/- Contracts of Put, on both sides: the bytes of a number. -/
import Derived.Test.YtgchdiocbllppaaDoorF2
namespace Go.Proofs.YtgchdiocbllppaaDoor
open Go.RowKit M

def putB (x : Int) (j : Nat) : Int := x / 2 ^ (8 * j) % 256
def putL (x : Int) (n : Nat) : List Int := (List.range n).map (putB x)
theorem putL_length (x : Int) (n : Nat) : (putL x n).length = n := by simp [putL]
theorem putL_getD (x : Int) {n j : Nat} (h : j < n) : (putL x n).getD j 0 = putB x j := by simp [putL, h]
theorem putB_bd (x : Int) (j : Nat) : 0 ≤ putB x j ∧ putB x j < 256 := by unfold putB; omega
def putRow (x : Int) (k j : Nat) : Value := .int .u8 (if j < k then putB x j else 0)
set_option maxHeartbeats 400000 in
theorem put_no (x n : Int) (w : World) (hz : isSize n = false) :
    Calls Tryd.prog 50 #[.int .u64 x, .int .i64 n] w fun e w' => e = .returned (.slice none 0 0) ∧ w = w' := by
  have HZ := Lib.hid hz
  clear hz
  go_enter Tryd.func50, Tryd.ntmps50
  go_wp2_with (go_at_call 45; refine (size_is _ _ HZ.out).mono ?_; rintro e w1 ⟨rfl, rfl⟩)
  go_ret
  exact ⟨rfl, rfl⟩
theorem slice94_1 (b : Nat) (w : World) : (Instr.sliceAt 94 (.pointer (some ⟨b, 0, none⟩)) none (some (.int .i64 1)) (some (.int .i64 1))).run Tryd.prog w = .ok (.slice (some ⟨b, 0, none⟩) 1 1) w := by kernel_rfl
theorem slice94_2 (b : Nat) (w : World) : (Instr.sliceAt 94 (.pointer (some ⟨b, 0, none⟩)) none (some (.int .i64 2)) (some (.int .i64 2))).run Tryd.prog w = .ok (.slice (some ⟨b, 0, none⟩) 2 2) w := by kernel_rfl
theorem slice94_4 (b : Nat) (w : World) : (Instr.sliceAt 94 (.pointer (some ⟨b, 0, none⟩)) none (some (.int .i64 4)) (some (.int .i64 4))).run Tryd.prog w = .ok (.slice (some ⟨b, 0, none⟩) 4 4) w := by kernel_rfl
theorem slice94_8 (b : Nat) (w : World) : (Instr.sliceAt 94 (.pointer (some ⟨b, 0, none⟩)) none (some (.int .i64 8)) (some (.int .i64 8))).run Tryd.prog w = .ok (.slice (some ⟨b, 0, none⟩) 8 8) w := by kernel_rfl
theorem isSize_of {n : Nat} (h : isSize (n : Int) = true) : n = 1 ∨ n = 2 ∨ n = 4 ∨ n = 8 := by
  simp [isSize] at h; omega
theorem slice94 (n : Nat) (hz : isSize (n : Int) = true) (b : Nat) (w : World) : (Instr.sliceAt 94 (.pointer (some ⟨b, 0, none⟩)) none (some (.int .i64 n)) (some (.int .i64 n))).run Tryd.prog w = .ok (.slice (some ⟨b, 0, none⟩) n n) w := by
  rcases isSize_of hz with rfl | rfl | rfl | rfl
  · exact slice94_1 b w
  · exact slice94_2 b w
  · exact slice94_4 b w
  · exact slice94_8 b w
def PutPost (x : Int) (n : Nat) (w : World) (e : Ending) (w' : World) : Prop :=
  ∃ g cap, e = .returned (.slice (some ⟨g, 0, none⟩) (putL x n).length cap) ∧ Below w.heap.size w w' ∧ RowAt w' (some ⟨g, 0, none⟩) (putL x n)
theorem put_row {w wr : World} {x : Int} {n : Nat} {t : TypeId} (hn : n ≤ 8) (h : wr.rowIs w.heap.size t 8 (putRow x 8)) : RowAt wr (some ⟨w.heap.size, 0, none⟩) (putL x n) :=
  ⟨by rw [putL_length]; omega, fun j hj => by
    rw [putL_length] at hj
    refine ⟨_, _, rfl, h.lt, ?_⟩
    rw [putL_getD x hj, Nat.zero_add, h.cell (i := j) (by omega)]
    simp only [putRow]
    rw [if_pos (by omega)],
   fun j hj => by
    rw [putL_length] at hj
    rw [putL_getD x hj]
    exact putB_bd x j⟩
set_option maxRecDepth 100000 in
set_option maxHeartbeats 400000 in
theorem put_yes (x : Int) (n : Nat) (w : World) (hz : isSize n = true) (hn : n ≤ 8) :
    Calls Tryd.prog 50 #[.int .u64 x, .int .i64 n] w (PutPost x n w) := by
  have HP : Hid (∀ wr, Below w.heap.size w wr → wr.rowIs w.heap.size 94 8 (putRow x 8) → ∀ cap, PutPost x n w (.returned (.slice (some ⟨w.heap.size, 0, none⟩) n cap)) wr) :=
    fun wr hb hr cap => ⟨_, cap, by rw [putL_length], hb, put_row hn hr⟩
  have HZ := Lib.hid hz
  clear hz
  go_enter Tryd.func50, Tryd.ntmps50
  go_wp2_with (go_at_call 45; refine (size_is _ _ HZ.out).mono ?_; rintro e w1 ⟨rfl, rfl⟩)
  go_loopw [10] (fun i wr => ∃ k : Nat, k ≤ 8 ∧ i = .int .i64 k ∧ Below w.heap.size w wr ∧ wr.rowIs w.heap.size 94 8 (putRow x k)) (fun i _ => 8 - (intOf i).toNat)
  case atStart =>
    refine ⟨0, Nat.zero_le _, rfl, (Below.refl _ _).alloc (Nat.le_refl _) _, World.rowIs_alloc w #[.int .u8 0, .int .u8 0, .int .u8 0, .int .u8 0, .int .u8 0, .int .u8 0, .int .u8 0, .int .u8 0] 94 (putRow x 0) ?_⟩
    intro i hi
    have : i < 8 := hi
    match i, this with
    | 0, _ => rfl
    | 1, _ => rfl
    | 2, _ => rfl
    | 3, _ => rfl
    | 4, _ => rfl
    | 5, _ => rfl
    | 6, _ => rfl
    | 7, _ => rfl
  case round =>
    obtain ⟨k, hk, rfl, hb, hrow⟩ := hrel
    by_cases hlt : k < 8
    · have d1 := hrow.cell hlt
      have d2 := hrow.frozen k
      have HR := Lib.hid hrow
      clear hrow
      obtain ⟨Y, hY⟩ : ∃ Y, putRow x k k = Y := ⟨_, rfl⟩
      rw [hY] at d1
      clear hY
      go_wp2
      go_roundw
      case rel =>
        refine ⟨k + 1, by omega, by go_num, hb.setCell (p := ⟨w.heap.size, k, none⟩) (Nat.le_refl _) _, (HR.out.set k _).congr fun i hi => ?_⟩
        simp only [putRow]
        by_cases h1 : i = k
        · subst h1; simp [putB]
        · by_cases h2 : i < k
          · rw [if_neg h1, if_pos h2, if_pos (by omega)]
          · rw [if_neg h1, if_neg h2, if_neg (by omega)]
      case measure => simp [intOf]; omega
    · have hk8 : k = 8 := by omega
      subst hk8
      have HR := Lib.hid hrow
      have hsl := slice94 n HZ.out
      clear hrow
      go_wp2
      go_ret
      exact HP.out _ hb HR.out _

set_option maxHeartbeats 400000 in
theorem rput_no (x n : Int) (w : World) (hz : isSize n = false) :
    Calls Tryd.prog 36 #[.int .u64 x, .int .i64 n] w fun e w' => e = .returned (.slice none 0 0) ∧ w = w' := by
  have HZ := Lib.hid hz
  clear hz
  by_cases h0 : 0 < n
  · go_enter Tryd.func36, Tryd.ntmps36
    go_wp2
    refine wp_loop_rounds 1 ?_
    rw [rounds_succ]
    go_wp2_with (go_at_call 47; refine (rsize_is _ _ HZ.out).mono ?_; rintro e w1 ⟨rfl, rfl⟩)
    go_ret
    exact ⟨rfl, rfl⟩
  · go_enter Tryd.func36, Tryd.ntmps36
    go_wp2
    refine wp_loop_rounds 1 ?_
    rw [rounds_succ]
    go_wp2
    go_ret
    exact ⟨rfl, rfl⟩
theorem putL_snoc (x : Int) (k : Nat) : bytesV (putL x (k + 1)) = bytesV (putL x k) ++ [.int .u8 (x / 2 ^ (8 * k) % 256)] := by
  simp [bytesV, putL, List.range_succ, putB]
theorem row_of_owns {w : World} {base : Nat} {v : Value} {xs : List Int} (hn : 0 < xs.length) (hs : xs.length ≤ 140737488351232) (hb : ∀ j, j < xs.length → 0 ≤ xs.getD j 0 ∧ xs.getD j 0 < 256) (h : w.ownsRow base 5 1 v xs.length (bytesV xs)) :
    ∃ g cap, v = .slice (some ⟨g, 0, none⟩) xs.length cap ∧ RowAt w (some ⟨g, 0, none⟩) xs := by
  obtain ⟨g, cap, cur, hv, _, hg, _, _, _, hc⟩ := owns_cells h hn
  refine ⟨g, cap, hv, hs, fun j hj => ⟨g, 0, rfl, hg, ?_⟩, hb⟩
  rw [Nat.zero_add]
  exact hc j _ hj (by simp [bytesV, hj])
set_option maxRecDepth 100000 in
set_option maxHeartbeats 400000 in
theorem rput_yes (x : Int) (n : Nat) (w : World) (hz : isSize n = true) (hn : n ≤ 8) (hn1 : 1 ≤ n) :
    Calls Tryd.prog 36 #[.int .u64 x, .int .i64 n] w (PutPost x n w) := by
  have HZ := Lib.hid hz
  obtain ⟨i5, h5, g5, s5, b5⟩ := info_parts info5
  have H5 := Lib.hid h5
  have G5 := Lib.hid g5
  have S5 := Lib.hid s5
  have B5 := Lib.hid b5
  clear hz h5 g5 s5 b5
  go_enter Tryd.func36, Tryd.ntmps36
  go_wp2
  go_loopw [5, 6] (fun v i wr => ∃ k : Nat, k ≤ n ∧ i = .int .i64 k ∧ Below w.heap.size w wr ∧ wr.ownsRow w.heap.size 5 1 v k (bytesV (putL x k))) (fun _ i _ => n - (intOf i).toNat)
  case atStart => exact ⟨0, Nat.zero_le _, rfl, Below.refl _ _, ⟨rfl, .inl ⟨rfl, rfl⟩⟩⟩
  case round =>
    obtain ⟨k, hk, rfl, hb, hown⟩ := hrel
    have HOWN := Lib.hid hown
    clear hown
    by_cases hlt : k < n
    · go_wp2_with (first
        | (go_at_call 47; refine (rsize_is _ _ HZ.out).mono ?_; rintro e w1 ⟨rfl, rfl⟩)
        | (at_builtin; refine wpList_append_own _ rfl (.tmp 16) (.tmp 23) 36 rfl w.heap.size 5 i5 _ 1 1 Tryd.underlying36 H5.out G5.out S5.out B5.out rfl (by decide) _ _ _ rfl (HOWN.out.alloc _) ⟨wr.heap.size, 0, none⟩ 1 1 [.int .u8 (x / 2 ^ (8 * k) % 256)] rfl rfl ?c1 ?c2 ?c3 ?c4 ?c5 ?_))
      case c1 => exact cell_one_new _ _ _
      case c2 => simp [Value.oneCell']
      case c3 => simp only [maxLen]; omega
      case c4 => omega
      case c5 => have := hb.size; simp; omega
      intro v' w3 hown' hg _
      have hb3 := (hb.trans ((Below.refl w.heap.size wr).alloc hb.size (.cells #[.int .u8 (x / 2 ^ (8 * k) % 256)] 5))).grown hg (by have := hb.size; simp; omega) (own_ge HOWN.out)
      have HO3 := Lib.hid hown'
      clear hown' hg
      go_wp2
      go_roundw
      case rel =>
        refine ⟨k + 1, by omega, by go_num, hb3, ?_⟩
        rw [putL_snoc]
        exact HO3.out
      case measure => simp [intOf]; omega
    · have hkn : k = n := by omega
      subst hkn
      go_wp2
      go_ret
      obtain ⟨g, cap, hv, hrow⟩ := row_of_owns (xs := putL x k) (by rw [putL_length]; omega) (by rw [putL_length]; omega) (fun j hj => by rw [putL_length] at hj; rw [putL_getD x hj]; exact putB_bd x j) (by rw [putL_length]; exact HOWN.out)
      exact ⟨g, cap, by rw [hv]; rfl, hb, hrow⟩
end Go.Proofs.YtgchdiocbllppaaDoor
