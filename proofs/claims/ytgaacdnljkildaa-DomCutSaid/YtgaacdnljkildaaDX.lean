/- Dominance: what rows of numbers that came in read as. -/
import Derived.Test.YtgaacdnljkildaaZ
import Derived.Deep.Slices
import Derived.Test.YtgaacdnljkildaaDV
namespace Go.Proofs.Ytgaacdnljkildaa
open Go.ChangeShapes Go.WideShapes Go.ChangeAt Go.RowKit

theorem cellsInt : Try.prog.cellsOf 3 = 1 := by kernel_rfl
theorem cellsInts : Try.prog.cellsOf 27 = 1 := by kernel_rfl
theorem spot_none {w : World} {a : Addr} {v : Value} (h : w.cell? a = some v) : a.spot = none ∧ a.block < w.heap.size := by
  obtain ⟨b, o, s⟩ := a
  unfold World.cell? at h
  cases hh : w.heap[b]? with
  | none => simp [hh] at h
  | some ob =>
    refine ⟨?_, (Array.getElem?_eq_some_iff.1 hh).1⟩
    cases s with
    | none => rfl
    | some x => cases ob <;> simp [hh] at h
theorem add_plain (b o k : Nat) : (⟨b, o, none⟩ : Addr).add k = ⟨b, o + k, none⟩ := by
  unfold Addr.add
  by_cases h : k = 0
  · subst h; simp
  · rw [if_neg h]
theorem list_of {α : Type} (d : α) {P : Nat → α → Prop} : ∀ n : Nat, (∀ i, i < n → ∃ k, P i k) → ∃ l : List α, l.length = n ∧ ∀ i, i < n → P i (l.getD i d)
  | 0, _ => ⟨[], rfl, fun i h => absurd h (Nat.not_lt_zero i)⟩
  | n + 1, h => by
    obtain ⟨l, hl, hp⟩ := list_of d n (fun i hi => h i (by omega))
    obtain ⟨k, hk⟩ := h n (by omega)
    refine ⟨l ++ [k], by simp [hl], fun i hi => ?_⟩
    by_cases e : i < n
    · rw [List.getD_eq_getElem?_getD, List.getElem?_append_left (by omega), ← List.getD_eq_getElem?_getD]; exact hp i e
    · obtain rfl : i = n := by omega
      rw [List.getD_eq_getElem?_getD, List.getElem?_append_right (by omega), hl, Nat.sub_self]; exact hk
section
variable {H : Type} {enc : TypeId × Value → H} {W : World}
theorem bulk_one (d : DataW H) : 1 ≤ Rows.uptoBulk d := by
  cases d <;> first | (simp [Rows.uptoBulk]; done) | (rename_i l; cases l <;> simp [Rows.uptoBulk])
theorem bulk_len : ∀ l : List (DataW H), l.length ≤ Rows.uptoBulkAll l
  | [] => Nat.zero_le _
  | d :: l => by
    have := bulk_one d
    have := bulk_len l
    simp only [Rows.uptoBulkAll, List.length_cons]
    omega
theorem bulk_in : ∀ {l : List (DataW H)} {d : DataW H}, d ∈ l → Rows.uptoBulk d ≤ Rows.uptoBulkAll l
  | [], _, h => by cases h
  | x :: l, d, h => by
    simp only [Rows.uptoBulkAll]
    rcases List.mem_cons.1 h with e | h
    · rw [e]; omega
    · have := bulk_in h; omega
theorem tot_le : ∀ (g : List (List Int)) (ds : List (DataW H)), g.length = ds.length → (∀ i, i < g.length → (g.getD i []).length ≤ Rows.uptoBulk (ds.getD i .nil)) → tot g ≤ Rows.uptoBulkAll ds
  | [], _, _, _ => Nat.zero_le _
  | _ :: _, [], h, _ => by cases h
  | r :: g, d :: ds, h, hi => by
    have h0 := hi 0 (by simp)
    have ih := tot_le g ds (by simpa using h) (fun i hlt => by
      have := hi (i + 1) (by simpa using hlt)
      simpa using this)
    have h0' : r.length ≤ Rows.uptoBulk d := h0
    simp only [Rows.uptoBulkAll]
    show r.length + tot g ≤ _
    omega
set_option maxRecDepth 100000 in
theorem open_ints {n : Nat} {cs : List Value} {x : DataW H × List MemPlace} (h : DataW.trod enc Try.prog W 0 (fun _ => true) true n 27 cs = some x) (hw : Rows.uptoBulk x.1 ≤ 1048576) :
    ∃ q cap l, cs = [.slice q l.length cap] ∧ NumsAt .i64 W q l ∧ l.length ≤ Rows.uptoBulk x.1 ∧ ∀ z ∈ l, (lit z).wf = true := by
  rcases Deep.open_slice Try.underlying27 h with ⟨rfl, _⟩ | ⟨a, len, cap, m, k, D, Pl, rfl, _, hl, _, hm, hx, hi⟩
  · exact ⟨none, 0, [], rfl, nums_nil _ _, Nat.zero_le _, fun z hz => by cases hz⟩
  · have hmc : m = cap := by simpa using hm
    have hbl : len ≤ Rows.uptoBulk x.1 := by
      rw [hx]
      simp only [Rows.uptoBulk]
      have := bulk_len ((List.range len).map D)
      simp at this
      omega
    have hrow : ∀ i, i < len → ∃ z : Int, W.cell? (a.add i) = some (.int .i64 z) ∧ (lit z).wf = true := by
      intro i hil
      obtain ⟨cs', hc, ht⟩ := hi i (by omega)
      rw [cellsInt, Nat.mul_one] at hc
      obtain ⟨_, _, hat⟩ := World.cells?_some hc
      obtain ⟨z, rfl, _, hz⟩ := DataW.trod_int Try.underlying3 ht
      have h0 := hat 0 (by omega)
      rw [Addr.add_add, Nat.add_zero] at h0
      exact ⟨z, by simpa using h0, hz⟩
    obtain ⟨l, hlen, hP⟩ := list_of 0 len hrow
    refine ⟨some a, cap, l, by rw [hlen], ⟨by omega, fun i hil => ?_⟩, by omega, fun z hz => ?_⟩
    rotate_left
    · obtain ⟨i, hi', rfl⟩ := List.mem_iff_getElem.1 hz
      have := (hP i (by omega)).2
      rwa [List.getD_eq_getElem?_getD, List.getElem?_eq_getElem hi'] at this
    rw [hlen] at hil
    have hs : a.spot = none := by
      have := (hP 0 (by omega)).1
      exact (spot_none (a := a) (by simpa [Addr.add] using this)).1
    obtain ⟨bb, off, sp⟩ := a
    subst hs
    have f := (hP i hil).1
    rw [add_plain] at f
    exact ⟨bb, off, rfl, (spot_none f).2, f⟩
set_option maxRecDepth 100000 in
theorem open_rows {v : Value} {d : DataW H} {p : List MemPlace} (hv : Value.okWide Try.prog W .any 0 22 v) (h : DataW.Trod enc Try.prog W 0 (fun _ => true) true 22 v d p) (hw : Rows.uptoBulk d ≤ 1048576) :
    ∃ q cap g, v = .slice q g.length cap ∧ GsAt W q g ∧ tot g ≤ 1048576 ∧ Wd g := by
  obtain ⟨q, len, c, rfl⟩ := okWide_slice Try.underlying22 hv
  obtain ⟨fuel, hf⟩ := h
  rcases Deep.open_slice Try.underlying22 hf with ⟨e, _⟩ | ⟨a, len', cap, m, k, D, Pl, e, _, hl, _, hm, hx, hi⟩
  · simp [Value.cells] at e
    obtain ⟨rfl, rfl, rfl⟩ := e
    exact ⟨none, 0, [], rfl, ⟨fun i hi => absurd hi (Nat.not_lt_zero _)⟩, Nat.zero_le _, wd_nil⟩
  · simp [Value.cells] at e
    obtain ⟨rfl, rfl, rfl⟩ := e
    have hmc : m = c := by simpa using hm
    simp only [Prod.mk.injEq] at hx
    have hbl : Rows.uptoBulkAll ((List.range len).map D) ≤ 1048576 := by
      rw [hx.1] at hw
      simp only [Rows.uptoBulk] at hw
      omega
    have hrow : ∀ i, i < len → ∃ l : List Int, (∃ q cap, W.cell? (a.add i) = some (.slice q l.length cap) ∧ NumsAt .i64 W q l) ∧ l.length ≤ Rows.uptoBulk (D i) ∧ ∀ z ∈ l, (lit z).wf = true := by
      intro i hil
      obtain ⟨cs', hc, ht⟩ := hi i (by omega)
      rw [cellsInts, Nat.mul_one] at hc
      obtain ⟨_, _, hat⟩ := World.cells?_some hc
      have hD : Rows.uptoBulk (D i) ≤ 1048576 := Nat.le_trans (bulk_in (List.mem_map.2 ⟨i, List.mem_range.2 hil, rfl⟩)) hbl
      obtain ⟨q, cap, l, rfl, hn, hle, hz⟩ := open_ints ht hD
      have h0 := hat 0 (by omega)
      rw [Addr.add_add, Nat.add_zero] at h0
      exact ⟨l, ⟨q, cap, by simpa using h0, hn⟩, hle, hz⟩
    obtain ⟨g, hlen, hP⟩ := list_of [] len hrow
    refine ⟨some a, c, g, by rw [hlen], ⟨fun i hil => ?_⟩, ?_, ?_⟩
    · rw [hlen] at hil
      obtain ⟨⟨q, cap, f, hn⟩, _⟩ := hP i hil
      have hs : a.spot = none := by
        obtain ⟨⟨q0, cap0, f0, _⟩, _⟩ := hP 0 (by omega)
        exact (spot_none (a := a) (by simpa [Addr.add] using f0)).1
      obtain ⟨bb, off, sp⟩ := a
      subst hs
      rw [add_plain] at f
      exact ⟨bb, off, q, cap, rfl, (spot_none f).2, f, hn⟩
    · refine Nat.le_trans (tot_le g ((List.range len).map D) (by simpa using hlen) (fun i hil => ?_)) hbl
      rw [hlen] at hil
      rw [show ((List.range len).map D).getD i .nil = D i by rw [List.getD_eq_getElem?_getD, List.getElem?_map, List.getElem?_range hil]; rfl]
      exact (hP i hil).2.1
    · intro i x hx
      by_cases hil : i < len
      · exact (hP i hil).2.2 x hx
      · rw [List.getD_eq_getElem?_getD, List.getElem?_eq_none (by omega)] at hx
        cases hx
end
end Go.Proofs.Ytgaacdnljkildaa
