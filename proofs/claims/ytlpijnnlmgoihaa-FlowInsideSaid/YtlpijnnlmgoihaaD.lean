/- Contracts of nought, and of the fields' bounds. -/
import Derived.Test.YtlpijnnlmgoihaaH
import Derived.Deep.OwnRows
import Derived.Laws.CopyOwn
namespace Go.Proofs.Ytlpijnnlmgoihaa
open Go.RowKit M

theorem bcell {W w1 : World} (hb : Below W.heap.size W w1) : (∀ b o, b < W.heap.size → w1.cell? ⟨b, o, none⟩ = W.cell? ⟨b, o, none⟩) ∧ (∀ b o, b < W.heap.size → w1.frozen? ⟨b, o, none⟩ = W.frozen? ⟨b, o, none⟩) :=
  ⟨fun b o h => hb.cell (p := ⟨b, o, none⟩) h, fun b o h => hb.frozen (p := ⟨b, o, none⟩) h⟩
theorem below_next {w w1 w2 : World} (h : Below w.heap.size w w1) (h2 : Below w1.heap.size w1 w2) : Below w.heap.size w w2 :=
  h.trans (h2.mono h.size)
theorem owns_cells {w : World} {base : Nat} {e : TypeId} {v : Value} {n : Nat} {xs : List Value} (h : w.ownsRow base e 1 v n xs) (hn : 0 < n) :
    ∃ g cap cur, v = .slice (some ⟨g, 0, none⟩) n cap ∧ base ≤ g ∧ g < w.heap.size ∧ n ≤ cap ∧ cap ≤ maxLen ∧ w.heap[g]? = some (.cells cur e (0, 0)) ∧ ∀ i x, i < n → xs[i]? = some x → w.cell? ⟨g, i, none⟩ = some x := by
  obtain ⟨hl, h | ⟨g, cap, cur, hv, hg, hh, h1, h2, h3, h4⟩⟩ := h
  · omega
  · refine ⟨g, cap, cur, hv, hg, ?_, h1, h2, hh, fun i x hi hx => ?_⟩
    · exact (Array.getElem?_eq_some_iff.1 hh).1
    · rw [Nat.mul_one] at h4
      rw [← h4, List.getElem?_take_of_lt hi] at hx
      simp only [World.cell?, hh]
      simpa using hx

theorem own_ge {w : World} {base : Nat} {e : TypeId} {size : Nat} {v : Value} {n : Nat} {xs : List Value} (h : w.ownsRow base e size v n xs) : ∀ k, v.ownBlock = some k → base ≤ k := by
  obtain ⟨_, ⟨rfl, _⟩ | ⟨g, cap, cur, rfl, hb, _⟩⟩ := h
  · simp [Value.ownBlock]
  · intro k hk
    simp [Value.ownBlock] at hk
    omega
theorem heap_new (w : World) (o : Obj) : (w.alloc o).heap[w.heap.size]? = some o := by
  show (w.heap.push o)[w.heap.size]? = _
  simp
theorem one_in {w w1 : World} {o1 : Obj} (h : Below (w.alloc o1).heap.size (w.alloc o1) w1) : w.heap.size < w1.heap.size := by
  have := h.size; simp at this; omega
theorem two_in {w w1 : World} {o1 o2 : Obj} (h : Below ((w.alloc o1).alloc o2).heap.size ((w.alloc o1).alloc o2) w1) : w.heap.size < w1.heap.size ∧ w.heap.size + 1 < w1.heap.size := by
  have := h.size; simp at this; omega
theorem more_in {a b : Nat} {B : Nat} {w w1 : World} (h1 : a < w.heap.size) (h2 : b < w.heap.size) (h : Below B w w1) : a < w1.heap.size ∧ b < w1.heap.size :=
  ⟨Nat.lt_of_lt_of_le h1 h.size, Nat.lt_of_lt_of_le h2 h.size⟩
theorem below1 {w w1 : World} {o1 : Obj} (h : Below (w.alloc o1).heap.size (w.alloc o1) w1) : Below w.heap.size w w1 :=
  ((Below.refl _ _).alloc (Nat.le_refl _) _).trans (h.mono (by simp))
theorem below2 {w w1 : World} {o1 o2 : Obj} (h : Below ((w.alloc o1).alloc o2).heap.size ((w.alloc o1).alloc o2) w1) : Below w.heap.size w w1 :=
  (((Below.refl _ _).alloc (Nat.le_refl _) _).alloc (by simp) _).trans (h.mono (by simp; omega))
theorem below_drewN {B : Nat} {a w : World} (h : Below B a w) (n : Nat) : Below B a (w.drewN n) := ⟨h.os, h.tape, h.output, h.size, h.block⟩
theorem cell_new (w : World) {cs : Array Value} {t : TypeId} {fr : Nat × Nat} {i : Nat} {v : Value} (h : cs[i]? = some v) : (w.alloc (.cells cs t fr)).cell? ⟨w.heap.size, i, none⟩ = some v := by
  simp only [World.cell?, heap_new]
  exact h
theorem cell_new2 (w : World) (o : Obj) {cs : Array Value} {t : TypeId} {fr : Nat × Nat} {i : Nat} {v : Value} (_ : True) (h : cs[i]? = some v) : ((w.alloc o).alloc (.cells cs t fr)).cell? ⟨w.heap.size + 1, i, none⟩ = some v := by
  have := cell_new (w.alloc o) (t := t) (fr := fr) h
  rwa [World.size_alloc] at this
theorem below1d {w w1 : World} {o1 : Obj} (h : Below (w.alloc o1).drew.heap.size (w.alloc o1).drew w1) : Below w.heap.size w w1 :=
  ((Below.refl _ _).alloc (Nat.le_refl _) _).drew.trans (h.mono (by simp))
theorem box_in {w w1 : World} {o : Obj} (h : Below (w.alloc o).drew.heap.size (w.alloc o).drew w1) {i : Nat} {v : Value} (hv : (w.alloc o).cell? ⟨w.heap.size, i, none⟩ = some v) : w1.cell? ⟨w.heap.size, i, none⟩ = some v := by
  have h' : Below (w.alloc o).heap.size (w.alloc o) w1 := ⟨h.os, h.tape, h.output, h.size, h.block⟩
  exact (h'.cell (p := ⟨w.heap.size, i, none⟩) (by simp)).trans hv
theorem own_below {w w' : World} {B : Nat} {e : TypeId} {size n : Nat} {v : Value} {xs : List Value} (h : w.ownsRow B e size v n xs) (hb : Below w.heap.size w w') : w'.ownsRow B e size v n xs := by
  obtain ⟨hl, h | ⟨g, cap, cur, hv, hg, hh, h1, h2, h3, h4⟩⟩ := h
  · exact ⟨hl, .inl h⟩
  · exact ⟨hl, .inr ⟨g, cap, cur, hv, hg, (hb.block g (Array.getElem?_eq_some_iff.1 hh).1).trans hh, h1, h2, h3, h4⟩⟩
/-- numbers lie in memory -/
structure NumsAt (k : IntKind) (w : World) (q : Option Addr) (xs : List Int) : Prop where
  small : xs.length ≤ 140737488351232
  cells : ∀ i, i < xs.length → ∃ b off, q = some ⟨b, off, none⟩ ∧ b < w.heap.size ∧ w.cell? ⟨b, off + i, none⟩ = some (.int k (xs.getD i 0))
theorem NumsAt.below {k : IntKind} {w w' : World} {q : Option Addr} {l : List Int} (h : NumsAt k w q l) (hb : Below w.heap.size w w') : NumsAt k w' q l :=
  ⟨h.small, fun i hi => by
    obtain ⟨b, off, hp, hbl, h0⟩ := h.cells i hi
    exact ⟨b, off, hp, Nat.lt_of_lt_of_le hbl hb.size, (hb.cell (p := ⟨b, off + i, none⟩) hbl).trans h0⟩⟩
def zeroB (xs : List Int) : Bool := xs.all fun x => x == 0
theorem zero_no {xs : List Int} {i : Nat} (hi : i < xs.length) (h : ¬ xs.getD i 0 = 0) : zeroB xs = false := by
  cases hz : zeroB xs
  · rfl
  · unfold zeroB at hz
    rw [List.all_eq_true] at hz
    have := hz (xs.getD i 0) (by simp [hi])
    simp at this h
    exact absurd this h
theorem zero_yes {xs : List Int} (h : ∀ i, i < xs.length → xs.getD i 0 = 0) : zeroB xs = true := by
  unfold zeroB
  rw [List.all_eq_true]
  intro x hx
  obtain ⟨i, hi, rfl⟩ := List.getElem_of_mem hx
  have := h i hi
  simpa [hi] using this
set_option maxHeartbeats 1000000 in
theorem nought_any (q : Option Addr) (qc : Nat) (l : List Int) (w : World) (h : NumsAt .i64 w q l) :
    Calls Try.prog 68 #[.slice q l.length qc] w fun e w' => e = .returned (.bool (zeroB l)) ∧ w = w' := by
  have hs := h.small
  have H := Lib.hid h
  have HY := Lib.hid (fun h => zero_yes (xs := l) h)
  have HZ := Lib.hid (fun i hi h => zero_no (xs := l) (i := i) hi h)
  generalize zeroB l = v at *
  obtain ⟨N, hN⟩ : ∃ N, l.length = N := ⟨_, rfl⟩
  rw [hN] at hs HY HZ ⊢
  have HN := Lib.hid hN
  clear hN h
  go_enter Try.func68, Try.ntmps68
  go_wp2
  go_loop [7] (fun i => ∃ k : Nat, k ≤ N ∧ i = .int .i64 k ∧ Hid (∀ j, j < k → l.getD j 0 = 0)) (fun i => N - (intOf i).toNat)
  case atStart => exact ⟨0, Nat.zero_le _, rfl, Lib.hid (fun j hj => absurd hj (Nat.not_lt_zero _))⟩
  case round =>
    obtain ⟨k, hk, rfl, hx⟩ := hrel
    by_cases hlt : k < N
    · obtain ⟨bk, off, rfl, hbl, c0⟩ := H.out.cells k (by rw [HN.out]; exact hlt)
      have HO := Lib.hid (show l.getD k 0 = l.getD k 0 from rfl)
      obtain ⟨o, ho⟩ : ∃ o, l.getD k 0 = o := ⟨_, rfl⟩
      rw [ho] at c0
      have HO2 := Lib.hid ho
      clear ho
      by_cases h0 : o = 0
      · subst h0
        go_wp2
        go_round
        case rel => exact ⟨k + 1, by omega, by go_num, Lib.hid (fun j hj => by
          by_cases e : j = k
          · rw [e]; exact HO2.out
          · exact hx.out j (by omega))⟩
        case measure => simp [intOf]; omega
      · have HV := Lib.hid (HZ.out k hlt (by rw [HO2.out]; exact h0))
        have hne : (o != 0) = true := by simpa using h0
        clear h0
        go_wp2
        go_ret
        rw [HV.out]
        exact ⟨rfl, rfl⟩
    · have hkN : k = N := by omega
      subst hkN
      have HV := Lib.hid (HY.out hx.out)
      go_wp2
      go_ret
      rw [HV.out]
      exact ⟨rfl, rfl⟩
set_option maxHeartbeats 1000000 in
theorem noughtu_any (q : Option Addr) (qc : Nat) (l : List Int) (w : World) (h : NumsAt .u64 w q l) :
    Calls Try.prog 58 #[.slice q l.length qc] w fun e w' => e = .returned (.bool (zeroB l)) ∧ w = w' := by
  have hs := h.small
  have H := Lib.hid h
  have HY := Lib.hid (fun h => zero_yes (xs := l) h)
  have HZ := Lib.hid (fun i hi h => zero_no (xs := l) (i := i) hi h)
  generalize zeroB l = v at *
  obtain ⟨N, hN⟩ : ∃ N, l.length = N := ⟨_, rfl⟩
  rw [hN] at hs HY HZ ⊢
  have HN := Lib.hid hN
  clear hN h
  go_enter Try.func58, Try.ntmps58
  go_wp2
  go_loop [7] (fun i => ∃ k : Nat, k ≤ N ∧ i = .int .i64 k ∧ Hid (∀ j, j < k → l.getD j 0 = 0)) (fun i => N - (intOf i).toNat)
  case atStart => exact ⟨0, Nat.zero_le _, rfl, Lib.hid (fun j hj => absurd hj (Nat.not_lt_zero _))⟩
  case round =>
    obtain ⟨k, hk, rfl, hx⟩ := hrel
    by_cases hlt : k < N
    · obtain ⟨bk, off, rfl, hbl, c0⟩ := H.out.cells k (by rw [HN.out]; exact hlt)
      obtain ⟨o, ho⟩ : ∃ o, l.getD k 0 = o := ⟨_, rfl⟩
      rw [ho] at c0
      have HO2 := Lib.hid ho
      clear ho
      by_cases h0 : o = 0
      · subst h0
        go_wp2
        go_round
        case rel => exact ⟨k + 1, by omega, by go_num, Lib.hid (fun j hj => by
          by_cases e : j = k
          · rw [e]; exact HO2.out
          · exact hx.out j (by omega))⟩
        case measure => simp [intOf]; omega
      · have HV := Lib.hid (HZ.out k hlt (by rw [HO2.out]; exact h0))
        have hne : (o != 0) = true := by simpa using h0
        clear h0
        go_wp2
        go_ret
        rw [HV.out]
        exact ⟨rfl, rfl⟩
    · have hkN : k = N := by omega
      subst hkN
      have HV := Lib.hid (HY.out hx.out)
      go_wp2
      go_ret
      rw [HV.out]
      exact ⟨rfl, rfl⟩
end Go.Proofs.Ytlpijnnlmgoihaa
