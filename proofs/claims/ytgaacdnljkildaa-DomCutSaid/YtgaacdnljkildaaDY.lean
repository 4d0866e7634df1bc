/- Dominance: what rows of numbers that came in read as, where nothing is asked of their sum: each takes at most 2^47 bytes. -/
import Derived.Test.YtgaacdnljkildaaDX
namespace Go.Proofs.Ytgaacdnljkildaa
open Go.ChangeShapes Go.WideShapes Go.ChangeAt Go.RowKit

theorem bytesInt : Try.prog.bytesOf 3 = 8 := by kernel_rfl
section
variable {H : Type} {enc : TypeId × Value → H} {W : World}
theorem weights_in {P : Program} {e : TypeId} : ∀ {l : List (DataW H)} {d : DataW H} {k : Nat}, d ∈ l → k ∈ d.weights P e → k ∈ DataW.weightsAll P e l
  | [], _, _, h, _ => by cases h
  | x :: l, d, k, h, hk => by
    show k ∈ x.weights P e ++ DataW.weightsAll P e l
    rcases List.mem_cons.1 h with e' | h
    · exact List.mem_append_left _ (e' ▸ hk)
    · exact List.mem_append_right _ (weights_in h hk)
set_option maxRecDepth 100000 in
theorem open_ints_w {n : Nat} {cs : List Value} {x : DataW H × List MemPlace} (h : DataW.trod enc Try.prog W 0 (fun _ => true) true n 27 cs = some x) (hw : ∀ k ∈ x.1.weights Try.prog 27, k ≤ 140737488351232) :
    ∃ q cap l, cs = [.slice q l.length cap] ∧ NumsAt .i64 W q l := by
  rcases Deep.open_slice Try.underlying27 h with ⟨rfl, _⟩ | ⟨a, len, cap, m, k, D, Pl, rfl, _, hl, _, hm, hx, hi⟩
  · exact ⟨none, 0, [], rfl, nums_nil _ _⟩
  · have hmc : m = cap := by simpa using hm
    have hsm : len ≤ 140737488351232 := by
      have := hw ((len + (m - len)) * Try.prog.bytesOf 3) (by rw [hx]; simp [DataW.weights, Try.underlying27])
      rw [bytesInt] at this
      omega
    have hrow : ∀ i, i < len → ∃ z : Int, W.cell? (a.add i) = some (.int .i64 z) := by
      intro i hil
      obtain ⟨cs', hc, ht⟩ := hi i (by omega)
      rw [cellsInt, Nat.mul_one] at hc
      obtain ⟨_, _, hat⟩ := World.cells?_some hc
      obtain ⟨z, rfl, _, _⟩ := DataW.trod_int Try.underlying3 ht
      have h0 := hat 0 (by omega)
      rw [Addr.add_add, Nat.add_zero] at h0
      exact ⟨z, by simpa using h0⟩
    obtain ⟨l, hlen, hP⟩ := list_of 0 len hrow
    refine ⟨some a, cap, l, by rw [hlen], ⟨by omega, fun i hil => ?_⟩⟩
    rw [hlen] at hil
    have hs : a.spot = none := by
      have := hP 0 (by omega)
      exact (spot_none (a := a) (by simpa [Addr.add] using this)).1
    obtain ⟨bb, off, sp⟩ := a
    subst hs
    have f := hP i hil
    rw [add_plain] at f
    exact ⟨bb, off, rfl, (spot_none f).2, f⟩
set_option maxRecDepth 100000 in
theorem open_rows_w {v : Value} {d : DataW H} {p : List MemPlace} (hv : Value.okWide Try.prog W .any 0 22 v) (h : DataW.Trod enc Try.prog W 0 (fun _ => true) true 22 v d p) (hw : ∀ k ∈ d.weights Try.prog 22, k ≤ 140737488351232) :
    ∃ q cap g, v = .slice q g.length cap ∧ GsAt W q g := by
  obtain ⟨q, len, c, rfl⟩ := okWide_slice Try.underlying22 hv
  obtain ⟨fuel, hf⟩ := h
  rcases Deep.open_slice Try.underlying22 hf with ⟨e, _⟩ | ⟨a, len', cap, m, k, D, Pl, e, _, hl, _, hm, hx, hi⟩
  · simp [Value.cells] at e
    obtain ⟨rfl, rfl, rfl⟩ := e
    exact ⟨none, 0, [], rfl, ⟨fun i hi => absurd hi (Nat.not_lt_zero _)⟩⟩
  · simp [Value.cells] at e
    obtain ⟨rfl, rfl, rfl⟩ := e
    have hmc : m = c := by simpa using hm
    simp only [Prod.mk.injEq] at hx
    have hrow : ∀ i, i < len → ∃ l : List Int, ∃ q cap, W.cell? (a.add i) = some (.slice q l.length cap) ∧ NumsAt .i64 W q l := by
      intro i hil
      obtain ⟨cs', hc, ht⟩ := hi i (by omega)
      rw [cellsInts, Nat.mul_one] at hc
      obtain ⟨_, _, hat⟩ := World.cells?_some hc
      obtain ⟨q, cap, l, rfl, hn⟩ := open_ints_w ht (fun k hk => hw k (by
        rw [hx.1]
        have hm := weights_in (P := Try.prog) (e := 27) (l := (List.range len).map D) (List.mem_map.2 ⟨i, List.mem_range.2 hil, rfl⟩) hk
        simp only [DataW.weights, Try.underlying22]
        exact List.mem_cons_of_mem _ (List.mem_append_left _ hm)))
      have h0 := hat 0 (by omega)
      rw [Addr.add_add, Nat.add_zero] at h0
      exact ⟨l, q, cap, by simpa using h0, hn⟩
    obtain ⟨g, hlen, hP⟩ := list_of [] len hrow
    refine ⟨some a, c, g, by rw [hlen], ⟨fun i hil => ?_⟩⟩
    rw [hlen] at hil
    obtain ⟨q, cap, f, hn⟩ := hP i hil
    have hs : a.spot = none := by
      obtain ⟨q0, cap0, f0, _⟩ := hP 0 (by omega)
      exact (spot_none (a := a) (by simpa [Addr.add] using f0)).1
    obtain ⟨bb, off, sp⟩ := a
    subst hs
    rw [add_plain] at f
    exact ⟨bb, off, q, cap, rfl, (spot_none f).2, f, hn⟩
end
end Go.Proofs.Ytgaacdnljkildaa
