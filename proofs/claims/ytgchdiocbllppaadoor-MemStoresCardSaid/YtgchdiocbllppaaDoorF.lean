/- Contracts of twin, and of reading a memory. -/
import Derived.Test.YtgchdiocbllppaaDoorE2
import Derived.Laws.CopyOwn
namespace Go.Proofs.YtgchdiocbllppaaDoor
open Go.RowKit M

/-- a slice of bytes lies in memory -/
structure RowAt (w : World) (q : Option Addr) (xs : List Int) : Prop where
  small : xs.length ≤ 140737488351232
  cells : ∀ j, j < xs.length → ∃ b off, q = some ⟨b, off, none⟩ ∧ b < w.heap.size ∧ w.cell? ⟨b, off + j, none⟩ = some (.int .u8 (xs.getD j 0))
  byte : ∀ j, j < xs.length → 0 ≤ xs.getD j 0 ∧ xs.getD j 0 < 256
theorem RowAt.below {w w' : World} {q : Option Addr} {xs : List Int} (h : RowAt w q xs) (hb : Below w.heap.size w w') : RowAt w' q xs :=
  ⟨h.small, fun j hj => by
    obtain ⟨b, off, e, hl, hc⟩ := h.cells j hj
    exact ⟨b, off, e, Nat.lt_of_lt_of_le hl hb.size, (hb.cell (p := ⟨b, off + j, none⟩) hl).trans hc⟩, h.byte⟩
theorem RowAt.alloc {w : World} {q : Option Addr} {xs : List Int} (h : RowAt w q xs) (o : Obj) : RowAt (w.alloc o) q xs := h.below ((Below.refl _ _).alloc (Nat.le_refl _) _)
theorem MemAt.row {w : World} {mp : Option Addr} {Q : Nat → Option Addr} {C : Nat → Nat} {M : List (List Int)} (h : MemAt w mp Q C M) {i : Nat} (hi : i < M.length) : RowAt w (Q i) (M.getD i []) :=
  ⟨h.rsmall i, fun j hj => h.rows i j hi hj, fun j hj => h.byte i j hi hj⟩
theorem RowAt.nil (w : World) (q : Option Addr) : RowAt w q [] := ⟨Nat.zero_le _, fun _ hj => absurd hj (Nat.not_lt_zero _), fun _ hj => absurd hj (Nat.not_lt_zero _)⟩
/-- bytes as cells -/
def bytesV (xs : List Int) : List Value := xs.map (Value.int .u8)
theorem bytesV_length (xs : List Int) : (bytesV xs).length = xs.length := by simp [bytesV]
theorem bytesV_one (xs : List Int) : ∀ v ∈ bytesV xs, v.oneCell' = true := by
  intro v hv
  obtain ⟨n, _, rfl⟩ := List.mem_map.1 hv
  rfl
theorem RowAt.src {w : World} {q : Option Addr} {xs : List Int} (h : RowAt w q xs) (hp : 0 < xs.length) : ∃ ad, q = some ad ∧ ∀ j v, (bytesV xs)[j]? = some v → w.cell? (ad.add j) = some v := by
  obtain ⟨b, off, rfl, _, _⟩ := h.cells 0 hp
  refine ⟨_, rfl, fun j v hv => ?_⟩
  have hj : j < xs.length := by
    have := (List.getElem?_eq_some_iff.1 hv).1
    rwa [bytesV_length] at this
  obtain ⟨b', off', e, _, hc⟩ := h.cells j hj
  injection e with e
  injection e with e1 e2
  subst e1 e2
  have : v = .int .u8 (xs.getD j 0) := by
    simp [bytesV, hj] at hv
    simp [hj, hv]
  rw [this]
  by_cases h0 : j = 0
  · subst h0; simpa [Addr.add] using hc
  · simpa [Addr.add, h0] using hc
/-- a block that holds just these bytes reads as they are -/
theorem RowAt.of_block {w : World} {g : Nat} {xs : List Int} {t : TypeId} {fr : Nat × Nat} (hs : xs.length ≤ 140737488351232) (hb : ∀ j, j < xs.length → 0 ≤ xs.getD j 0 ∧ xs.getD j 0 < 256) (h : w.heap[g]? = some (.cells (bytesV xs).toArray t fr)) : RowAt w (some ⟨g, 0, none⟩) xs :=
  ⟨hs, fun j hj => ⟨g, 0, rfl, (Array.getElem?_eq_some_iff.1 h).1, by simp [World.cell?, h, bytesV, hj]⟩, hb⟩
theorem made_list (z : Value) (n : Nat) : madeCells #[z] n = (List.replicate n z).toArray := by
  apply Array.ext
  · simp [madeCells]
  · intro i h1 h2
    simp [madeCells, Nat.mod_one]
theorem heap_new (w : World) (o : Obj) : (w.alloc o).heap[w.heap.size]? = some o := by
  show (w.heap.push o)[w.heap.size]? = _
  simp
theorem size5 : (Tryd.prog.info? 5).map (·.size) = some 1 := by kernel_rfl

set_option maxHeartbeats 400000 in
theorem twin_any (q : Option Addr) (qc : Nat) (xs : List Int) (w : World) (h : RowAt w q xs) :
    Calls Tryd.prog 42 #[.slice q xs.length qc] w fun e w' =>
      e = .returned (.slice (some ⟨w.heap.size, 0, none⟩) xs.length xs.length) ∧ Below w.heap.size w w' ∧ w'.heap[w.heap.size]? = some (.cells (bytesV xs).toArray 5 (0, 0)) := by
  have H := Lib.hid h
  have hs := h.small
  obtain ⟨N, hN⟩ : ∃ N, xs.length = N := ⟨_, rfl⟩
  rw [hN] at hs ⊢
  have HN := Lib.hid hN
  have hmk := fun W => run_make_row' (P := Tryd.prog) 36 5 (.int .u8 0) 1 Tryd.underlying36 info5 rfl .i64 .i64 N (by omega) (by omega) W
  clear hN h
  go_enter Tryd.func42, Tryd.ntmps42
  go_wp2_with (with_reducible refine wpList_copy_splice rfl (.tmp 7) (.tmp 8) 36 36 rfl 5 Tryd.underlying36 size5 (some ⟨w.heap.size, 0, none⟩) q N N N qc rfl rfl w.heap.size 0 (List.replicate N (.int .u8 0)) 5 ?c1 (bytesV xs) ?c2 ?c3 ?c4 (bytesV_one xs) w.heap.size w ?c5 (Nat.le_refl _) ?_)
  case c1 => rw [made_list]; exact heap_new _ _
  case c2 => rw [bytesV_length, HN.out]; simp
  case c3 =>
    intro hp
    exact (H.out.alloc _).src (by rwa [bytesV_length] at hp)
  case c4 => rw [bytesV_length, HN.out]; simp
  case c5 => exact (Below.refl _ _).alloc (Nat.le_refl _) _
  intro w1 hblk hb
  go_wp2
  go_ret
  refine ⟨rfl, hb, ?_⟩
  have h2 := hblk.out
  rw [show splice (List.replicate N (Value.int .u8 0)) 0 (bytesV xs) = bytesV xs by simp [splice, bytesV_length, HN.out]] at h2
  exact h2
end Go.Proofs.YtgchdiocbllppaaDoor
