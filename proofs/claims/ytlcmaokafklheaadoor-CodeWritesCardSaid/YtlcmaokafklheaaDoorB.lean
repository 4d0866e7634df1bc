/- Contracts of word.Get and word.Put and of the document's own: the number of bytes, and the bytes of a number. -/
import Derived.Test.YtlcmaokafklheaaDoorA
import Derived.Deep.OwnRows
import Derived.Laws.CopyOwn
namespace Go.Proofs.YtlcmaokafklheaaDoor
open Go.RowKit M

theorem bcell {W w1 : World} (hb : Below W.heap.size W w1) : (∀ b o, b < W.heap.size → w1.cell? ⟨b, o, none⟩ = W.cell? ⟨b, o, none⟩) ∧ (∀ b o, b < W.heap.size → w1.frozen? ⟨b, o, none⟩ = W.frozen? ⟨b, o, none⟩) :=
  ⟨fun b o h => hb.cell (p := ⟨b, o, none⟩) h, fun b o h => hb.frozen (p := ⟨b, o, none⟩) h⟩
theorem below_next {w w1 w2 : World} (h : Below w.heap.size w w1) (h2 : Below w1.heap.size w1 w2) : Below w.heap.size w w2 :=
  h.trans (h2.mono h.size)
theorem info5 : (Tryd.prog.info? 5).map (fun i => (i.zero, i.size, i.bytes)) = some (some (.int .u8 0), 1, 1) := by kernel_rfl

theorem owns_cells {w : World} {base : Nat} {e : TypeId} {v : Value} {n : Nat} {xs : List Value} (h : w.ownsRow base e 1 v n xs) (hn : 0 < n) :
    ∃ g cap cur, v = .slice (some ⟨g, 0, none⟩) n cap ∧ base ≤ g ∧ g < w.heap.size ∧ n ≤ cap ∧ cap ≤ maxLen ∧ w.heap[g]? = some (.cells cur e (0, 0)) ∧ ∀ i x, i < n → xs[i]? = some x → w.cell? ⟨g, i, none⟩ = some x := by
  obtain ⟨hl, h | ⟨g, cap, cur, hv, hg, hh, h1, h2, h3, h4⟩⟩ := h
  · omega
  · refine ⟨g, cap, cur, hv, hg, ?_, h1, h2, hh, fun i x hi hx => ?_⟩
    · exact (Array.getElem?_eq_some_iff.1 hh).1
    · rw [Nat.mul_one] at h4
      rw [← h4, List.getElem?_take_of_lt hi] at hx
      simp only [World.cell?, hh]
      simpa using hx

theorem own_ge {w : World} {base : Nat} {e : TypeId} {size : Nat} {v : Value} {n : Nat} {xs : List Value} (h : w.ownsRow base e size v n xs) : ∀ k, v.ownBlock = some k → base ≤ k := by
  obtain ⟨_, ⟨rfl, _⟩ | ⟨g, cap, cur, rfl, hb, _⟩⟩ := h
  · simp [Value.ownBlock]
  · intro k hk
    simp [Value.ownBlock] at hk
    omega
theorem cell_one_new' (w : World) (o : Obj) (x : Value) (t : TypeId) : ∀ j u, [x][j]? = some u → ((w.alloc o).alloc (.cells #[x] t)).cell? ((⟨w.heap.size + 1, 0, none⟩ : Addr).add j) = some u := by
  have h := cell_one_new (w.alloc o) x t
  rw [World.size_alloc] at h
  exact h
theorem rowIs_below {B : Nat} {w w' : World} {b : Nat} {t : TypeId} {n : Nat} {f : Nat → Value} (h : w.rowIs b t n f) (hb : Below B w w') (hlt : b < B) : w'.rowIs b t n f := h.of_block (hb.block b hlt)
theorem heap_new (w : World) (o : Obj) : (w.alloc o).heap[w.heap.size]? = some o := by
  show (w.heap.push o)[w.heap.size]? = _
  simp
theorem one_in {w w1 : World} {o1 : Obj} (h : Below (w.alloc o1).heap.size (w.alloc o1) w1) : w.heap.size < w1.heap.size := by
  have := h.size; simp at this; omega
theorem two_in {w w1 : World} {o1 o2 : Obj} (h : Below ((w.alloc o1).alloc o2).heap.size ((w.alloc o1).alloc o2) w1) : w.heap.size < w1.heap.size ∧ w.heap.size + 1 < w1.heap.size := by
  have := h.size; simp at this; omega
theorem more_in {a b : Nat} {B : Nat} {w w1 : World} (h1 : a < w.heap.size) (h2 : b < w.heap.size) (h : Below B w w1) : a < w1.heap.size ∧ b < w1.heap.size :=
  ⟨Nat.lt_of_lt_of_le h1 h.size, Nat.lt_of_lt_of_le h2 h.size⟩
theorem below1 {w w1 : World} {o1 : Obj} (h : Below (w.alloc o1).heap.size (w.alloc o1) w1) : Below w.heap.size w w1 :=
  ((Below.refl _ _).alloc (Nat.le_refl _) _).trans (h.mono (by simp))
theorem below2 {w w1 : World} {o1 o2 : Obj} (h : Below ((w.alloc o1).alloc o2).heap.size ((w.alloc o1).alloc o2) w1) : Below w.heap.size w w1 :=
  (((Below.refl _ _).alloc (Nat.le_refl _) _).alloc (by simp) _).trans (h.mono (by simp; omega))
theorem below_drewN {B : Nat} {a w : World} (h : Below B a w) (n : Nat) : Below B a (w.drewN n) := ⟨h.os, h.tape, h.output, h.size, h.block⟩
theorem cell_new (w : World) {cs : Array Value} {t : TypeId} {fr : Nat × Nat} {i : Nat} {v : Value} (h : cs[i]? = some v) : (w.alloc (.cells cs t fr)).cell? ⟨w.heap.size, i, none⟩ = some v := by
  simp only [World.cell?, heap_new]
  exact h
theorem cell_new2 (w : World) (o : Obj) {cs : Array Value} {t : TypeId} {fr : Nat × Nat} {i : Nat} {v : Value} (_ : True) (h : cs[i]? = some v) : ((w.alloc o).alloc (.cells cs t fr)).cell? ⟨w.heap.size + 1, i, none⟩ = some v := by
  have := cell_new (w.alloc o) (t := t) (fr := fr) h
  rwa [World.size_alloc] at this
/-- a slice of bytes lies in memory -/
structure RowAt (w : World) (q : Option Addr) (xs : List Int) : Prop where
  small : xs.length ≤ 140737488351232
  cells : ∀ j, j < xs.length → ∃ b off, q = some ⟨b, off, none⟩ ∧ b < w.heap.size ∧ w.cell? ⟨b, off + j, none⟩ = some (.int .u8 (xs.getD j 0))
  byte : ∀ j, j < xs.length → 0 ≤ xs.getD j 0 ∧ xs.getD j 0 < 256
theorem RowAt.below {w w' : World} {q : Option Addr} {xs : List Int} (h : RowAt w q xs) (hb : Below w.heap.size w w') : RowAt w' q xs :=
  ⟨h.small, fun j hj => by
    obtain ⟨b, off, e, hl, hc⟩ := h.cells j hj
    exact ⟨b, off, e, Nat.lt_of_lt_of_le hl hb.size, (hb.cell (p := ⟨b, off + j, none⟩) hl).trans hc⟩, h.byte⟩
theorem RowAt.alloc {w : World} {q : Option Addr} {xs : List Int} (h : RowAt w q xs) (o : Obj) : RowAt (w.alloc o) q xs := h.below ((Below.refl _ _).alloc (Nat.le_refl _) _)
theorem RowAt.nil (w : World) (q : Option Addr) : RowAt w q [] := ⟨Nat.zero_le _, fun _ hj => absurd hj (Nat.not_lt_zero _), fun _ hj => absurd hj (Nat.not_lt_zero _)⟩
/-- bytes as cells -/
def bytesV (xs : List Int) : List Value := xs.map (Value.int .u8)
theorem bytesV_length (xs : List Int) : (bytesV xs).length = xs.length := by simp [bytesV]
theorem bytesV_one (xs : List Int) : ∀ v ∈ bytesV xs, v.oneCell' = true := by
  intro v hv
  obtain ⟨n, _, rfl⟩ := List.mem_map.1 hv
  rfl
theorem RowAt.src {w : World} {q : Option Addr} {xs : List Int} (h : RowAt w q xs) (hp : 0 < xs.length) : ∃ ad, q = some ad ∧ ∀ j v, (bytesV xs)[j]? = some v → w.cell? (ad.add j) = some v := by
  obtain ⟨b, off, rfl, _, _⟩ := h.cells 0 hp
  refine ⟨_, rfl, fun j v hv => ?_⟩
  have hj : j < xs.length := by
    have := (List.getElem?_eq_some_iff.1 hv).1
    rwa [bytesV_length] at this
  obtain ⟨b', off', e, _, hc⟩ := h.cells j hj
  injection e with e
  injection e with e1 e2
  subst e1 e2
  have : v = .int .u8 (xs.getD j 0) := by
    simp [bytesV, hj] at hv
    simp [hj, hv]
  rw [this]
  by_cases h0 : j = 0
  · subst h0; simpa [Addr.add] using hc
  · simpa [Addr.add, h0] using hc
/-- a block that holds just these bytes reads as they are -/
theorem RowAt.of_block {w : World} {g : Nat} {xs : List Int} {t : TypeId} {fr : Nat × Nat} (hs : xs.length ≤ 140737488351232) (hb : ∀ j, j < xs.length → 0 ≤ xs.getD j 0 ∧ xs.getD j 0 < 256) (h : w.heap[g]? = some (.cells (bytesV xs).toArray t fr)) : RowAt w (some ⟨g, 0, none⟩) xs :=
  ⟨hs, fun j hj => ⟨g, 0, rfl, (Array.getElem?_eq_some_iff.1 h).1, by simp [World.cell?, h, bytesV, hj]⟩, hb⟩
theorem made_list (z : Value) (n : Nat) : madeCells #[z] n = (List.replicate n z).toArray := by
  apply Array.ext
  · simp [madeCells]
  · intro i h1 h2
    simp [madeCells, Nat.mod_one]
theorem size5 : (Tryd.prog.info? 5).map (·.size) = some 1 := by kernel_rfl

def getTo (xs : List Int) : Nat → Int
  | 0 => 0
  | k + 1 => bits .or .u64 (getTo xs k) (IntKind.u64.wrap (xs.getD k 0 * 2 ^ (8 * k)))
def getN (xs : List Int) : Int := getTo xs (min xs.length 8)

set_option maxHeartbeats 400000 in
theorem get_any (q : Option Addr) (qc : Nat) (xs : List Int) (w : World) (h : RowAt w q xs) :
    Calls Tryd.prog 63 #[.slice q xs.length qc] w fun e w' => e = .returned (.int .u64 (getN xs)) ∧ w = w' := by
  have hs := h.small
  obtain ⟨N, hN⟩ : ∃ N, xs.length = N := ⟨_, rfl⟩
  rw [hN] at hs ⊢
  have HN := Lib.hid hN
  have H := Lib.hid h
  clear hN h
  go_enter Tryd.func63, Tryd.ntmps63
  go_wp2
  all_goals
    go_loop [3, 8] (fun x i => ∃ k : Nat, k ≤ N ∧ k ≤ 8 ∧ i = .int .i64 k ∧ x = .int .u64 (getTo xs k)) (fun _ i => 8 - (intOf i).toNat)
    case atStart => exact ⟨0, Nat.zero_le _, Nat.zero_le _, rfl, rfl⟩
    case round =>
      obtain ⟨k, hk, hk8, rfl, rfl⟩ := hrel
      by_cases hlt : k < N ∧ k < 8
      · obtain ⟨hl1, hl2⟩ := hlt
        obtain ⟨b, off, rfl, hbl, hc⟩ := H.out.cells k (by rw [HN.out]; exact hl1)
        have hby := H.out.byte k (by rw [HN.out]; exact hl1)
        obtain ⟨X, hX⟩ : ∃ X, getTo xs k = X := ⟨_, rfl⟩
        obtain ⟨y, hy⟩ : ∃ y, xs.getD k 0 = y := ⟨_, rfl⟩
        rw [hX]
        rw [hy] at hc hby
        have HX := Lib.hid hX
        have HY := Lib.hid hy
        clear hX hy
        go_wp2
        go_round
        case rel => exact ⟨k + 1, by omega, by omega, by go_num, by rw [getTo, HX.out, HY.out]⟩
        case measure => simp [intOf]; omega
      · have hE := Lib.hid (show min xs.length 8 = k by rw [HN.out]; omega)
        go_wp2
        go_ret
        exact ⟨by unfold getN; rw [hE.out]; rfl, rfl⟩
set_option maxHeartbeats 400000 in
theorem rget_any (q : Option Addr) (qc : Nat) (xs : List Int) (w : World) (h : RowAt w q xs) :
    Calls Tryd.prog 35 #[.slice q xs.length qc] w fun e w' => e = .returned (.int .u64 (getN xs)) ∧ w = w' := by
  have hs := h.small
  obtain ⟨N, hN⟩ : ∃ N, xs.length = N := ⟨_, rfl⟩
  rw [hN] at hs ⊢
  have HN := Lib.hid hN
  have H := Lib.hid h
  clear hN h
  go_enter Tryd.func35, Tryd.ntmps35
  go_wp2
  all_goals
    go_loop [3, 4] (fun x i => ∃ k : Nat, k ≤ N ∧ k ≤ 8 ∧ i = .int .i64 k ∧ x = .int .u64 (getTo xs k)) (fun _ i => 8 - (intOf i).toNat)
    case atStart => exact ⟨0, Nat.zero_le _, Nat.zero_le _, rfl, rfl⟩
    case round =>
      obtain ⟨k, hk, hk8, rfl, rfl⟩ := hrel
      by_cases hlt : k < N ∧ k < 8
      · obtain ⟨hl1, hl2⟩ := hlt
        obtain ⟨b, off, rfl, hbl, hc⟩ := H.out.cells k (by rw [HN.out]; exact hl1)
        have hby := H.out.byte k (by rw [HN.out]; exact hl1)
        obtain ⟨X, hX⟩ : ∃ X, getTo xs k = X := ⟨_, rfl⟩
        obtain ⟨y, hy⟩ : ∃ y, xs.getD k 0 = y := ⟨_, rfl⟩
        rw [hX]
        rw [hy] at hc hby
        have HX := Lib.hid hX
        have HY := Lib.hid hy
        clear hX hy
        go_wp2
        go_round
        case rel => exact ⟨k + 1, by omega, by omega, by go_num, by rw [getTo, HX.out, HY.out]⟩
        case measure => simp [intOf]; omega
      · have hE := Lib.hid (show min xs.length 8 = k by rw [HN.out]; omega)
        by_cases hlt2 : k < N
        · go_wp2
          go_ret
          exact ⟨by unfold getN; rw [hE.out]; rfl, rfl⟩
        · go_wp2
          go_ret
          exact ⟨by unfold getN; rw [hE.out]; rfl, rfl⟩
def putB (x : Int) (j : Nat) : Int := x / 2 ^ (8 * j) % 256
def putL (x : Int) (n : Nat) : List Int := (List.range n).map (putB x)
theorem putL_length (x : Int) (n : Nat) : (putL x n).length = n := by simp [putL]
theorem putL_getD (x : Int) {n j : Nat} (h : j < n) : (putL x n).getD j 0 = putB x j := by simp [putL, h]
theorem putB_bd (x : Int) (j : Nat) : 0 ≤ putB x j ∧ putB x j < 256 := by unfold putB; omega
def putRow (x : Int) (k j : Nat) : Value := .int .u8 (if j < k then putB x j else 0)
set_option maxHeartbeats 400000 in
theorem put_no (x n : Int) (w : World) (hz : isSize n = false) :
    Calls Tryd.prog 55 #[.int .u64 x, .int .i64 n] w fun e w' => e = .returned (.slice none 0 0) ∧ w = w' := by
  have HZ := Lib.hid hz
  clear hz
  go_enter Tryd.func55, Tryd.ntmps55
  go_wp2_with (go_at_call 70; refine (size_is _ _ HZ.out).mono ?_; rintro e w1 ⟨rfl, rfl⟩)
  go_ret
  exact ⟨rfl, rfl⟩
theorem slice94_1 (b : Nat) (w : World) : (Instr.sliceAt 126 (.pointer (some ⟨b, 0, none⟩)) none (some (.int .i64 1)) (some (.int .i64 1))).run Tryd.prog w = .ok (.slice (some ⟨b, 0, none⟩) 1 1) w := by kernel_rfl
theorem slice94_2 (b : Nat) (w : World) : (Instr.sliceAt 126 (.pointer (some ⟨b, 0, none⟩)) none (some (.int .i64 2)) (some (.int .i64 2))).run Tryd.prog w = .ok (.slice (some ⟨b, 0, none⟩) 2 2) w := by kernel_rfl
theorem slice94_4 (b : Nat) (w : World) : (Instr.sliceAt 126 (.pointer (some ⟨b, 0, none⟩)) none (some (.int .i64 4)) (some (.int .i64 4))).run Tryd.prog w = .ok (.slice (some ⟨b, 0, none⟩) 4 4) w := by kernel_rfl
theorem slice94_8 (b : Nat) (w : World) : (Instr.sliceAt 126 (.pointer (some ⟨b, 0, none⟩)) none (some (.int .i64 8)) (some (.int .i64 8))).run Tryd.prog w = .ok (.slice (some ⟨b, 0, none⟩) 8 8) w := by kernel_rfl
theorem isSize_of {n : Nat} (h : isSize (n : Int) = true) : n = 1 ∨ n = 2 ∨ n = 4 ∨ n = 8 := by
  simp [isSize] at h; omega
theorem slice94 (n : Nat) (hz : isSize (n : Int) = true) (b : Nat) (w : World) : (Instr.sliceAt 126 (.pointer (some ⟨b, 0, none⟩)) none (some (.int .i64 n)) (some (.int .i64 n))).run Tryd.prog w = .ok (.slice (some ⟨b, 0, none⟩) n n) w := by
  rcases isSize_of hz with rfl | rfl | rfl | rfl
  · exact slice94_1 b w
  · exact slice94_2 b w
  · exact slice94_4 b w
  · exact slice94_8 b w
def PutPost (x : Int) (n : Nat) (w : World) (e : Ending) (w' : World) : Prop :=
  ∃ g cap, e = .returned (.slice (some ⟨g, 0, none⟩) (putL x n).length cap) ∧ Below w.heap.size w w' ∧ RowAt w' (some ⟨g, 0, none⟩) (putL x n)
theorem put8_row {w wr : World} {x : Int} {n : Nat} {t : TypeId} (hn : n ≤ 8) (h : wr.rowIs w.heap.size t 8 (putRow x 8)) : RowAt wr (some ⟨w.heap.size, 0, none⟩) (putL x n) :=
  ⟨by rw [putL_length]; omega, fun j hj => by
    rw [putL_length] at hj
    refine ⟨_, _, rfl, h.lt, ?_⟩
    rw [putL_getD x hj, Nat.zero_add, h.cell (i := j) (by omega)]
    simp only [putRow]
    rw [if_pos (by omega)],
   fun j hj => by
    rw [putL_length] at hj
    rw [putL_getD x hj]
    exact putB_bd x j⟩
set_option maxRecDepth 100000 in
set_option maxHeartbeats 400000 in
theorem put_yes (x : Int) (n : Nat) (w : World) (hz : isSize n = true) (hn : n ≤ 8) :
    Calls Tryd.prog 55 #[.int .u64 x, .int .i64 n] w (PutPost x n w) := by
  have HP : Hid (∀ wr, Below w.heap.size w wr → wr.rowIs w.heap.size 126 8 (putRow x 8) → ∀ cap, PutPost x n w (.returned (.slice (some ⟨w.heap.size, 0, none⟩) n cap)) wr) :=
    fun wr hb hr cap => ⟨_, cap, by rw [putL_length], hb, put8_row hn hr⟩
  have HZ := Lib.hid hz
  clear hz
  go_enter Tryd.func55, Tryd.ntmps55
  go_wp2_with (go_at_call 70; refine (size_is _ _ HZ.out).mono ?_; rintro e w1 ⟨rfl, rfl⟩)
  go_loopw [10] (fun i wr => ∃ k : Nat, k ≤ 8 ∧ i = .int .i64 k ∧ Below w.heap.size w wr ∧ wr.rowIs w.heap.size 126 8 (putRow x k)) (fun i _ => 8 - (intOf i).toNat)
  case atStart =>
    refine ⟨0, Nat.zero_le _, rfl, (Below.refl _ _).alloc (Nat.le_refl _) _, World.rowIs_alloc w #[.int .u8 0, .int .u8 0, .int .u8 0, .int .u8 0, .int .u8 0, .int .u8 0, .int .u8 0, .int .u8 0] 126 (putRow x 0) ?_⟩
    intro i hi
    have : i < 8 := hi
    match i, this with
    | 0, _ => rfl
    | 1, _ => rfl
    | 2, _ => rfl
    | 3, _ => rfl
    | 4, _ => rfl
    | 5, _ => rfl
    | 6, _ => rfl
    | 7, _ => rfl
  case round =>
    obtain ⟨k, hk, rfl, hb, hrow⟩ := hrel
    by_cases hlt : k < 8
    · have d1 := hrow.cell hlt
      have d2 := hrow.frozen k
      have HR := Lib.hid hrow
      clear hrow
      obtain ⟨Y, hY⟩ : ∃ Y, putRow x k k = Y := ⟨_, rfl⟩
      rw [hY] at d1
      clear hY
      go_wp2
      go_roundw
      case rel =>
        refine ⟨k + 1, by omega, by go_num, hb.setCell (p := ⟨w.heap.size, k, none⟩) (Nat.le_refl _) _, (HR.out.set k _).congr fun i hi => ?_⟩
        simp only [putRow]
        by_cases h1 : i = k
        · subst h1; simp [putB]
        · by_cases h2 : i < k
          · rw [if_neg h1, if_pos h2, if_pos (by omega)]
          · rw [if_neg h1, if_neg h2, if_neg (by omega)]
      case measure => simp [intOf]; omega
    · have hk8 : k = 8 := by omega
      subst hk8
      have HR := Lib.hid hrow
      have hsl := slice94 n HZ.out
      clear hrow
      go_wp2
      go_ret
      exact HP.out _ hb HR.out _

set_option maxHeartbeats 400000 in
theorem rput_no (x n : Int) (w : World) (hz : isSize n = false) :
    Calls Tryd.prog 38 #[.int .u64 x, .int .i64 n] w fun e w' => e = .returned (.slice none 0 0) ∧ w = w' := by
  have HZ := Lib.hid hz
  clear hz
  by_cases h0 : 0 < n
  · go_enter Tryd.func38, Tryd.ntmps38
    go_wp2
    refine wp_loop_rounds 1 ?_
    rw [rounds_succ]
    go_wp2_with (go_at_call 51; refine (rsize_is _ _ HZ.out).mono ?_; rintro e w1 ⟨rfl, rfl⟩)
    go_ret
    exact ⟨rfl, rfl⟩
  · go_enter Tryd.func38, Tryd.ntmps38
    go_wp2
    refine wp_loop_rounds 1 ?_
    rw [rounds_succ]
    go_wp2
    go_ret
    exact ⟨rfl, rfl⟩
theorem putL_snoc (x : Int) (k : Nat) : bytesV (putL x (k + 1)) = bytesV (putL x k) ++ [.int .u8 (x / 2 ^ (8 * k) % 256)] := by
  simp [bytesV, putL, List.range_succ, putB]
theorem row_of_owns {w : World} {base : Nat} {v : Value} {xs : List Int} (hn : 0 < xs.length) (hs : xs.length ≤ 140737488351232) (hb : ∀ j, j < xs.length → 0 ≤ xs.getD j 0 ∧ xs.getD j 0 < 256) (h : w.ownsRow base 5 1 v xs.length (bytesV xs)) :
    ∃ g cap, v = .slice (some ⟨g, 0, none⟩) xs.length cap ∧ RowAt w (some ⟨g, 0, none⟩) xs := by
  obtain ⟨g, cap, cur, hv, _, hg, _, _, _, hc⟩ := owns_cells h hn
  refine ⟨g, cap, hv, hs, fun j hj => ⟨g, 0, rfl, hg, ?_⟩, hb⟩
  rw [Nat.zero_add]
  exact hc j _ hj (by simp [bytesV, hj])
set_option maxRecDepth 100000 in
set_option maxHeartbeats 400000 in
theorem rput_yes (x : Int) (n : Nat) (w : World) (hz : isSize n = true) (hn : n ≤ 8) (hn1 : 1 ≤ n) :
    Calls Tryd.prog 38 #[.int .u64 x, .int .i64 n] w (PutPost x n w) := by
  have HZ := Lib.hid hz
  obtain ⟨i5, h5, g5, s5, b5⟩ := info_parts info5
  have H5 := Lib.hid h5
  have G5 := Lib.hid g5
  have S5 := Lib.hid s5
  have B5 := Lib.hid b5
  clear hz h5 g5 s5 b5
  go_enter Tryd.func38, Tryd.ntmps38
  go_wp2
  go_loopw [5, 6] (fun v i wr => ∃ k : Nat, k ≤ n ∧ i = .int .i64 k ∧ Below w.heap.size w wr ∧ wr.ownsRow w.heap.size 5 1 v k (bytesV (putL x k))) (fun _ i _ => n - (intOf i).toNat)
  case atStart => exact ⟨0, Nat.zero_le _, rfl, Below.refl _ _, ⟨rfl, .inl ⟨rfl, rfl⟩⟩⟩
  case round =>
    obtain ⟨k, hk, rfl, hb, hown⟩ := hrel
    have HOWN := Lib.hid hown
    clear hown
    by_cases hlt : k < n
    · go_wp2_with (first
        | (go_at_call 51; refine (rsize_is _ _ HZ.out).mono ?_; rintro e w1 ⟨rfl, rfl⟩)
        | (at_builtin; refine wpList_append_own _ rfl (.tmp 16) (.tmp 23) 22 rfl w.heap.size 5 i5 _ 1 1 Tryd.underlying22 H5.out G5.out S5.out B5.out rfl (by decide) _ _ _ rfl (HOWN.out.alloc _) ⟨wr.heap.size, 0, none⟩ 1 1 [.int .u8 (x / 2 ^ (8 * k) % 256)] rfl rfl ?c1 ?c2 ?c3 ?c4 ?c5 ?_))
      case c1 => exact cell_one_new _ _ _
      case c2 => simp [Value.oneCell']
      case c3 => simp only [maxLen]; omega
      case c4 => omega
      case c5 => have := hb.size; simp; omega
      intro v' w3 hown' hg _
      have hb3 := (hb.trans ((Below.refl w.heap.size wr).alloc hb.size (.cells #[.int .u8 (x / 2 ^ (8 * k) % 256)] 5))).grown hg (by have := hb.size; simp; omega) (own_ge HOWN.out)
      have HO3 := Lib.hid hown'
      clear hown' hg
      go_wp2
      go_roundw
      case rel =>
        refine ⟨k + 1, by omega, by go_num, hb3, ?_⟩
        rw [putL_snoc]
        exact HO3.out
      case measure => simp [intOf]; omega
    · have hkn : k = n := by omega
      subst hkn
      go_wp2
      go_ret
      obtain ⟨g, cap, hv, hrow⟩ := row_of_owns (xs := putL x k) (by rw [putL_length]; omega) (by rw [putL_length]; omega) (fun j hj => by rw [putL_length] at hj; rw [putL_getD x hj]; exact putB_bd x j) (by rw [putL_length]; exact HOWN.out)
      exact ⟨g, cap, by rw [hv]; rfl, hb, hrow⟩
end Go.Proofs.YtlcmaokafklheaaDoor
