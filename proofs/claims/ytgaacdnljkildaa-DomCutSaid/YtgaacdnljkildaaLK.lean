/- Dominance: slices.Repeat of one number. -/
import Derived.Test.YtgaacdnljkildaaLA
import Derived.Test.YtgaacdnljkildaaShelf
import Derived.Deep.RegionLaw
import Derived.Laws.CopyOwn
namespace Go.Proofs.Ytgaacdnljkildaa
open Go.RowKit
open Dm

/-- so many numbers x, then noughts -/
def rpc (x : Int) (N n : Nat) : List Value := List.replicate n (.int .i64 x) ++ List.replicate (N - n) (.int .i64 0)
theorem cell_al' {w : World} {o : Obj} {a : Addr} {v : Value} (h : w.cell? a = some v) : (w.alloc o).cell? a = some v := (b1.cell (World.block_lt_of_cell? w a h)).trans h
theorem rpc_len {x : Int} {N n : Nat} (h : n ≤ N) : (rpc x N n).length = N := by simp [rpc]; omega
theorem rpc_splice {x : Int} {N n m : Nat} (h : n + m ≤ N) : splice (rpc x N n) n (List.replicate m (.int .i64 x)) = rpc x N (n + m) := by
  have e : (List.replicate n (Value.int .i64 x)).length = n := by simp
  unfold splice rpc
  have e1 : (List.replicate n (Value.int .i64 x) ++ List.replicate (N - n) (Value.int .i64 0)).take n = List.replicate n (Value.int .i64 x) := by
    rw [List.take_append_of_le_length (by simp)]; simp
  have e2 : (List.replicate n (Value.int .i64 x) ++ List.replicate (N - n) (Value.int .i64 0)).drop (n + m) = List.replicate (N - (n + m)) (Value.int .i64 0) := by
    rw [List.drop_append, List.drop_of_length_le (by simp), List.nil_append, List.length_replicate, List.drop_replicate]
    congr 1
    omega
  rw [e1, List.length_replicate, e2, ← List.append_assoc, List.replicate_append_replicate]
theorem rpc_get {x : Int} {N n j : Nat} (hj : j < n) : (rpc x N n)[j]? = some (.int .i64 x) := by
  unfold rpc
  rw [List.getElem?_append_left (by simpa using hj), List.getElem?_replicate, if_pos hj]
set_option maxRecDepth 100000 in
set_option maxHeartbeats 2000000 in
/-- a fresh row of so many x -/
theorem rep_any (q : Option Addr) (c : Nat) (x : Int) (N : Nat) (w : World) (hN : N ≤ 1048576) (h : NumsAt .i64 w q [x]) : Calls Try.prog 25 #[.slice q 1 c, .int .i64 (N : Int)] w fun e w' => ∃ g, e = .returned (.slice (some ⟨g, 0, none⟩) N N) ∧ w.heap.size ≤ g ∧ w'.heap[g]? = some (.cells (rpc x N N).toArray 3 (0, 0)) ∧ Below w.heap.size w w' := by
  obtain ⟨b, off, rfl, hb, hc⟩ := h.cells 0 (by simp)
  have hmul := Lib.hid (fun W => Try.bits_Mul 1 N (by omega) (by omega) W)
  have e1 : 1 * N / 18446744073709551616 = 0 := by omega
  have e2 : 1 * N % 18446744073709551616 = N := by omega
  rw [e1, e2, show ((1 : Nat) : Int) = 1 from rfl, show ((0 : Nat) : Int) = 0 from rfl] at hmul
  have hmk := fun W => run_make_row' (P := Try.prog) 27 3 (.int .i64 0) 8 Try.underlying27 infoInt rfl .i64 .i64 N (by omega) (by omega) W
  have HC0 := Lib.hid (show (w.alloc (.cells (madeCells #[.int .i64 0] N) 3)).heap[w.heap.size]? = some (.cells (rpc x N 0).toArray 3 (0, 0)) by
    rw [heap_new]
    have e : madeCells #[Value.int .i64 0] N = (rpc x N 0).toArray := by
      apply Array.toList_inj.1
      rw [toList_madeCells_one]
      simp [rpc]
    rw [e])
  have HSZ : Hid ((Try.prog.info? 3).map (·.size) = some 1) := Lib.hid (by kernel_rfl)
  have HSRC : Hid (∀ j v, (List.replicate (Nat.min 1 N) (Value.int .i64 x))[j]? = some v → (w.alloc (.cells (madeCells #[.int .i64 0] N) 3)).cell? ((⟨b, off, none⟩ : Addr).add j) = some v) := Lib.hid (fun j v hv => by
    have hj : j = 0 := by
      have := (List.getElem?_eq_some_iff.1 hv).1
      simp at this
      have : j < Nat.min 1 N := this
      have : Nat.min 1 N ≤ 1 := Nat.min_le_left ..
      omega
    subst hj
    have e : v = .int .i64 x := by
      obtain ⟨h1, h2⟩ := List.getElem?_eq_some_iff.1 hv
      rw [← h2]; simp
    rw [e]
    have := cell_al' (o := .cells (madeCells #[.int .i64 0] N) 3) hc
    simpa [Addr.add] using this)
  have HONE : Hid (∀ m, ∀ v ∈ List.replicate m (Value.int .i64 x), v.oneCell' = true) := Lib.hid (fun m v hv => by rw [List.eq_of_mem_replicate hv]; rfl)
  have HSP : Hid (∀ n m, n + m ≤ N → splice (rpc x N n) n (List.replicate m (.int .i64 x)) = rpc x N (n + m)) := Lib.hid (fun n m h => rpc_splice h)
  have HLN : Hid (∀ n, n ≤ N → (rpc x N n).length = N) := Lib.hid (fun n h => rpc_len h)
  have HGT : Hid (∀ n j, j < n → (rpc x N n)[j]? = some (.int .i64 x)) := Lib.hid (fun n j h => rpc_get h)
  have HB0 : Hid (Below w.heap.size w (w.alloc (.cells (madeCells #[.int .i64 0] N) 3))) := Lib.hid b1
  have HD : Hid (∀ W, W.heap[w.heap.size]? = some (.cells (rpc x N N).toArray 3 (0, 0)) → Below w.heap.size w W → ∃ g, Ending.returned (.slice (some ⟨w.heap.size, 0, none⟩) N N) = .returned (.slice (some ⟨g, 0, none⟩) N N) ∧ w.heap.size ≤ g ∧ W.heap[g]? = some (.cells (rpc x N N).toArray 3 (0, 0)) ∧ Below w.heap.size w W) := Lib.hid (fun W h1 h2 => ⟨_, rfl, Nat.le_refl _, h1, h2⟩)
  generalize rpc x N = R at *
  obtain ⟨m0, hm0⟩ : ∃ m, Nat.min 1 N = m := ⟨_, rfl⟩
  have HM0 : Hid (m0 ≤ N ∧ (N = 0 → m0 = 0) ∧ (0 < N → m0 = 1)) := Lib.hid (by
    rw [← hm0]
    refine ⟨Nat.min_le_right .., fun e => by rw [e]; rfl, fun e => ?_⟩
    exact Nat.min_eq_left e)
  rw [hm0] at HSRC
  have HMI := Lib.hid hm0
  clear hm0 hc h
  go_enter Try.func25, Try.ntmps25
  go_wp2_with (first
    | (go_at_call 36; (with_reducible refine (hmul.out _).mono ?_); rintro e w1 ⟨rfl, hw⟩; rw [hw]; clear hw)
    | (with_reducible refine wpList_copy_splice rfl (.tmp 31) (.tmp 32) 27 27 rfl 3 Try.underlying27 HSZ.out (some ⟨w.heap.size, 0, none⟩) (some ⟨b, off, none⟩) N N 1 c rfl rfl w.heap.size 0 (R 0) 3 HC0.out (List.replicate m0 (.int .i64 x)) ?c1 (fun _ => ⟨rfl, _, rfl, HSRC.out⟩) ?c2 (HONE.out _) w.heap.size w HB0.out (Nat.le_refl _) ?c3))
  case c1 => rw [List.length_replicate]; exact HMI.out.symm
  case c2 => rw [List.length_replicate, HLN.out 0 (Nat.zero_le _)]; have := HM0.out.1; omega
  intro w2 hw2 hb2
  rw [HSP.out 0 m0 (by have := HM0.out.1; omega), Nat.zero_add] at hw2
  have hm0N := HM0.out.1
  go_wp2
  go_loopw [8] (fun v wr => ∃ n : Nat, n ≤ N ∧ v = .int .i64 (n : Int) ∧ Hid (0 < N → 0 < n) ∧ wr.heap[w.heap.size]? = some (.cells (R n).toArray 3 (0, 0)) ∧ Below w.heap.size w wr) (fun v _ => N - (RowKit.intOf v).toNat)
  case atStart => exact ⟨m0, hm0N, rfl, Lib.hid (fun h => by have := HM0.out.2.2 h; omega), hw2.out, hb2⟩
  case round =>
    clear hw2 hb2
    obtain ⟨n, hn, rfl, HP, hw, hb⟩ := hrel
    have HW := Lib.hid hw
    have HB := Lib.hid hb
    by_cases hnN : n < N
    · have hp := HP.out (by omega)
      obtain ⟨m, hm⟩ : ∃ m, Nat.min n (N - n) = m := ⟨_, rfl⟩
      have HMN := Lib.hid hm
      have HMB : Hid (n + m ≤ N ∧ 0 < m ∧ m ≤ n) := Lib.hid (by
        have h1 : m ≤ n := by rw [← hm]; exact Nat.min_le_left ..
        have h2 : m ≤ N - n := by rw [← hm]; exact Nat.min_le_right ..
        have h3 : 0 < m := by rw [← hm]; exact Nat.lt_min.2 ⟨hp, by omega⟩
        omega)
      have HS2 : Hid (∀ j v, (List.replicate m (Value.int .i64 x))[j]? = some v → wr.cell? ((⟨w.heap.size, 0, none⟩ : Addr).add j) = some v) := Lib.hid (fun j v hv => by
        have hj : j < m := by simpa using (List.getElem?_eq_some_iff.1 hv).1
        have e : v = .int .i64 x := by
          obtain ⟨h1, h2⟩ := List.getElem?_eq_some_iff.1 hv
          rw [← h2]; simp
        have ea : (⟨w.heap.size, 0, none⟩ : Addr).add j = ⟨w.heap.size, j, none⟩ := by
          unfold Addr.add
          by_cases h0 : j = 0
          · subst h0; rfl
          · rw [if_neg h0, Nat.zero_add]
        rw [e, ea]
        simp only [World.cell?, HW.out]
        have := HGT.out n j (by have := HMB.out; omega)
        simpa using this)
      clear hw hb hm
      go_wp2_with fail
      go_region_law (refine step_copy_splice rfl (.tmp 41) (.tmp 44) 27 27 rfl 3 Try.underlying27 HSZ.out (some ⟨w.heap.size, n, none⟩) (some ⟨w.heap.size, 0, none⟩) (N - n) (N - n) n N (by simp [Act.eval, Act.put]; omega) (by simp [Act.eval, Act.put]) w.heap.size n (R n) 3 HW.out (List.replicate m (.int .i64 x)) (by rw [List.length_replicate]; exact HMN.out.symm) (fun _ => ⟨rfl, _, rfl, HS2.out⟩) (by rw [List.length_replicate, HLN.out n hn]; exact HMB.out.1) (HONE.out _) w.heap.size w HB.out.drew (Nat.le_refl _) ?_; intro w3 hw3 hb3; rw [HSP.out n m HMB.out.1] at hw3)
      all_goals go_wp2_with fail
      have hwr : IntKind.i64.wrap ((n : Int) + (m : Int)) = ((n + m : Nat) : Int) := by
        have := HMB.out
        rw [IntKind.wrap_i64] <;> omega
      all_goals
        rw [hwr]
        have := HMB.out
        exact ⟨⟨n + m, by omega, rfl, Lib.hid (fun _ => by omega), hw3.out⟩, by simp [RowKit.intOf]; omega⟩
    · obtain rfl : N = n := by omega
      clear hw hb
      go_wp2_with fail
      go_ret
      exact HD.out _ HW.out HB.out
end Go.Proofs.Ytgaacdnljkildaa
