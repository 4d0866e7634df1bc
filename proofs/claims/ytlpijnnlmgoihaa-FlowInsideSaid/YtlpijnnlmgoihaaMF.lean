/- Plain facts on flow (no program): what one may come to, blocks, their ways. -/
import Derived.Below

/- Plain facts on flow (no program): what one may come to, blocks, their ways. -/
namespace Go.Proofs.Ytlpijnnlmgoihaa
namespace Fl

/-- places, where one goes on from each, which are jumps, what stands behind, which are no instructions -/
structure Fg where
  N : Nat
  su : Nat → List Nat
  ju : Nat → Bool
  nx : Nat → Nat
  ho : Nat → Bool
structure Fg.Ok (G : Fg) : Prop where
  pos : 0 < G.N
  h0 : G.ho 0 = false
  su : ∀ i, i < G.N → G.ho i = false → ∀ s ∈ G.su i, s < G.N ∧ G.ho s = false
  one : ∀ i, i < G.N → G.ho i = false → G.ju i = false → G.su i = [] ∨ G.su i = [G.nx i]
  nx : ∀ i, i < G.N → G.ho i = false → G.nx i = i + 1 ∨ (G.nx i = i + 2 ∧ G.ho (i + 1) = true)
/-- one may come to it -/
inductive Fg.R (G : Fg) : Nat → Prop
  | zero : Fg.R G 0
  | step {i s : Nat} : Fg.R G i → s ∈ G.su i → Fg.R G s
variable {G : Fg}
theorem Fg.R.ok (hG : G.Ok) {i : Nat} (h : G.R i) : i < G.N ∧ G.ho i = false := by
  induction h with
  | zero => exact ⟨hG.pos, hG.h0⟩
  | step _ hs ih => exact hG.su _ ih.1 ih.2 _ hs
open Classical in
noncomputable def Fg.rB (G : Fg) (i : Nat) : Bool := decide (G.R i)
theorem Fg.rB_iff {i : Nat} : G.rB i = true ↔ G.R i := by
  unfold Fg.rB
  simp
noncomputable def Fg.reach (G : Fg) : List Nat := (List.range G.N).filter G.rB
theorem Fg.mem_reach (hG : G.Ok) {i : Nat} : i ∈ G.reach ↔ G.R i := by
  unfold Fg.reach
  rw [List.mem_filter, List.mem_range, Fg.rB_iff]
  exact ⟨fun h => h.2, fun h => ⟨(h.ok hG).1, h⟩⟩
/-- a leader -/
noncomputable def Fg.lead (G : Fg) (j : Nat) : Bool := decide (j = 0) || G.reach.any fun i => (G.su i).any fun s => decide (s = j) && (G.ju i || decide (s ≠ G.nx i))
theorem Fg.lead_iff {j : Nat} : G.lead j = true ↔ j = 0 ∨ ∃ i ∈ G.reach, j ∈ G.su i ∧ (G.ju i = true ∨ j ≠ G.nx i) := by
  unfold Fg.lead
  simp only [Bool.or_eq_true, decide_eq_true_eq, List.any_eq_true, Bool.and_eq_true]
  constructor
  · rintro (h | ⟨i, hi, s, hs, rfl, h⟩)
    · exact .inl h
    · exact .inr ⟨i, hi, hs, h⟩
  · rintro (h | ⟨i, hi, hs, h⟩)
    · exact .inl h
    · exact .inr ⟨i, hi, j, hs, rfl, h⟩
/-- a block ends here -/
noncomputable def Fg.fin (G : Fg) (i : Nat) : Bool := decide ((G.su i).length ≠ 1) || G.ju i || G.lead ((G.su i).getD 0 0)
theorem Fg.fin_no (hG : G.Ok) {i : Nat} (hi : G.R i) (h : G.fin i = false) : G.su i = [G.nx i] ∧ G.ju i = false ∧ G.lead (G.nx i) = false ∧ i < G.nx i ∧ G.R (G.nx i) := by
  unfold Fg.fin at h
  simp only [Bool.or_eq_false_iff, decide_eq_false_iff_not, Decidable.not_not] at h
  obtain ⟨⟨h1, h2⟩, h3⟩ := h
  obtain ⟨k1, k2⟩ := hi.ok hG
  rcases hG.one i k1 k2 h2 with e | e
  · rw [e] at h1; cases h1
  · rw [e] at h3
    refine ⟨e, h2, h3, ?_, .step hi (by rw [e]; exact List.mem_singleton.2 rfl)⟩
    rcases hG.nx i k1 k2 with e | ⟨e, _⟩ <;> omega
noncomputable def Fg.lastF (G : Fg) : Nat → Nat → Nat
  | 0, i => i
  | f + 1, i => if G.fin i = true then i else G.lastF f (G.nx i)
/-- a block's last instruction -/
noncomputable def Fg.last (G : Fg) (i : Nat) : Nat := G.lastF (G.N - i) i
theorem Fg.lastF_spec (hG : G.Ok) : ∀ f i, G.R i → G.N - i ≤ f → G.lastF f i = G.last i
  | 0, i, hi, h => by have := (hi.ok hG).1; omega
  | f + 1, i, hi, h => by
    have hN := (hi.ok hG).1
    obtain ⟨m, hm⟩ : ∃ m, G.N - i = m + 1 := ⟨G.N - i - 1, by omega⟩
    unfold Fg.last
    rw [hm]
    show (if G.fin i = true then i else G.lastF f (G.nx i)) = (if G.fin i = true then i else G.lastF m (G.nx i))
    split
    · rfl
    · rename_i hf
      obtain ⟨_, _, _, h4, h5⟩ := Fg.fin_no hG hi (by simpa using hf)
      rw [Fg.lastF_spec hG f _ h5 (by omega), Fg.last]
      by_cases e : m = G.N - G.nx i
      · rw [e]
      · exact (Fg.lastF_spec hG m _ h5 (by omega)).symm
theorem Fg.last_fin (hG : G.Ok) {i : Nat} (hi : G.R i) (h : G.fin i = true) : G.last i = i := by
  have hN := (hi.ok hG).1
  obtain ⟨m, hm⟩ : ∃ m, G.N - i = m + 1 := ⟨G.N - i - 1, by omega⟩
  unfold Fg.last
  rw [hm]
  show (if G.fin i = true then i else _) = i
  rw [if_pos h]
theorem Fg.last_go (hG : G.Ok) {i : Nat} (hi : G.R i) (h : G.fin i = false) : G.last i = G.last (G.nx i) := by
  have hN := (hi.ok hG).1
  obtain ⟨m, hm⟩ : ∃ m, G.N - i = m + 1 := ⟨G.N - i - 1, by omega⟩
  obtain ⟨_, _, _, h4, h5⟩ := Fg.fin_no hG hi h
  conv => lhs; unfold Fg.last
  rw [hm]
  show (if G.fin i = true then i else G.lastF m (G.nx i)) = _
  rw [if_neg (by rw [h]; simp)]
  exact Fg.lastF_spec hG m _ h5 (by omega)
/-- what a block's walk says, by induction from its end -/
theorem Fg.walk (hG : G.Ok) {P : Nat → Prop} (h1 : ∀ i, G.R i → G.fin i = true → P i) (h2 : ∀ i, G.R i → G.fin i = false → P (G.nx i) → P i) : ∀ i, G.R i → P i := by
  have : ∀ f i, G.R i → G.N - i ≤ f → P i := by
    intro f
    induction f with
    | zero => intro i hi h; have := (hi.ok hG).1; omega
    | succ f ih =>
      intro i hi h
      have hN := (hi.ok hG).1
      cases hf : G.fin i with
      | true => exact h1 i hi hf
      | false =>
        obtain ⟨_, _, _, h4, h5⟩ := Fg.fin_no hG hi hf
        exact h2 i hi hf (ih _ h5 (by omega))
  exact fun i hi => this _ i hi (Nat.le_refl _)
/-- the last instruction: one comes to it, the block ends there, it is not ahead of the first -/
theorem Fg.last_ok (hG : G.Ok) : ∀ i, G.R i → G.R (G.last i) ∧ G.fin (G.last i) = true ∧ i ≤ G.last i := by
  refine Fg.walk hG (fun i hi hf => ?_) (fun i hi hf ih => ?_)
  · rw [Fg.last_fin hG hi hf]; exact ⟨hi, hf, Nat.le_refl _⟩
  · obtain ⟨_, _, _, h4, _⟩ := Fg.fin_no hG hi hf
    rw [Fg.last_go hG hi hf]
    exact ⟨ih.1, ih.2.1, by omega⟩
noncomputable def Fg.to (G : Fg) (i : Nat) : Nat := G.nx (G.last i)
theorem Fg.to_ok (hG : G.Ok) {i : Nat} (hi : G.R i) : G.last i < G.to i ∧ G.to i ≤ G.last i + 2 ∧ i < G.to i := by
  obtain ⟨h1, _, h3⟩ := Fg.last_ok hG i hi
  obtain ⟨k1, k2⟩ := h1.ok hG
  unfold Fg.to
  rcases hG.nx _ k1 k2 with e | ⟨e, _⟩ <;> omega
/-- an instruction that one may come to, inside a block, is no leader unless it is the first -/
theorem Fg.inside (hG : G.Ok) : ∀ i, G.R i → ∀ r, G.R r → i ≤ r → r < G.to i → r = i ∨ G.lead r = false := by
  refine Fg.walk hG (fun i hi hf => ?_) (fun i hi hf ih => ?_)
  · intro r hr h1 h2
    unfold Fg.to at h2
    rw [Fg.last_fin hG hi hf] at h2
    obtain ⟨k1, k2⟩ := hi.ok hG
    rcases hG.nx i k1 k2 with e | ⟨e, hh⟩
    · exact .inl (by omega)
    · by_cases e2 : r = i
      · exact .inl e2
      · obtain rfl : r = i + 1 := by omega
        have := (hr.ok hG).2
        rw [hh] at this
        cases this
  · intro r hr h1 h2
    obtain ⟨_, _, h3, h4, h5⟩ := Fg.fin_no hG hi hf
    have et : G.to i = G.to (G.nx i) := by unfold Fg.to; rw [Fg.last_go hG hi hf]
    rw [et] at h2
    by_cases e : r = i
    · exact .inl e
    · obtain ⟨k1, k2⟩ := hi.ok hG
      have hge : G.nx i ≤ r := by
        rcases hG.nx i k1 k2 with e1 | ⟨e1, hh⟩
        · omega
        · by_cases e2 : r = i + 1
          · subst e2
            have := (hr.ok hG).2
            rw [hh] at this
            cases this
          · omega
      rcases ih r hr hge h2 with e3 | e3
      · exact .inr (e3 ▸ h3)
      · exact .inr e3
/-- two leaders' blocks don't meet -/
theorem Fg.apart (hG : G.Ok) {a b : Nat} (ha : G.R a) (hb : G.R b) (hlb : G.lead b = true) (h : a < b) : G.to a ≤ b := by
  rcases Nat.lt_or_ge b (G.to a) with h2 | h2
  · rcases Fg.inside hG a ha b hb (by omega) h2 with e | e
    · omega
    · rw [hlb] at e; cases e
  · exact h2
theorem Fg.lead0 : G.lead 0 = true := Fg.lead_iff.2 (.inl rfl)
/-- where a walk stands: the place s is in the block that begins at a -/
theorem Fg.on (hG : G.Ok) : ∀ a, G.R a → ∀ i, G.R i → a ≤ i → i < G.to a → G.fin i = false → G.nx i < G.to a := by
  refine Fg.walk hG (fun a ha hf => ?_) (fun a ha hf ih => ?_)
  · intro i hi h1 h2 h3
    unfold Fg.to at h2
    rw [Fg.last_fin hG ha hf] at h2
    obtain ⟨k1, k2⟩ := ha.ok hG
    have : i = a := by
      rcases hG.nx a k1 k2 with e | ⟨e, hh⟩
      · omega
      · by_cases e2 : i = a
        · exact e2
        · obtain rfl : i = a + 1 := by omega
          have := (hi.ok hG).2
          rw [hh] at this
          cases this
    rw [this, hf] at h3
    cases h3
  · intro i hi h1 h2 h3
    obtain ⟨_, _, _, h4, h5⟩ := Fg.fin_no hG ha hf
    have et : G.to a = G.to (G.nx a) := by unfold Fg.to; rw [Fg.last_go hG ha hf]
    by_cases e : i = a
    · rw [e, et]; exact (Fg.to_ok hG h5).2.2
    · obtain ⟨k1, k2⟩ := ha.ok hG
      have hge : G.nx a ≤ i := by
        rcases hG.nx a k1 k2 with e1 | ⟨e1, hh⟩
        · omega
        · by_cases e2 : i = a + 1
          · subst e2
            have := (hi.ok hG).2
            rw [hh] at this
            cases this
          · omega
      rw [et]
      exact ih i hi hge (et ▸ h2) h3
/-- each instruction that one may come to is in a leader's block -/
theorem Fg.cover (hG : G.Ok) {r : Nat} (h : G.R r) : ∃ a, G.R a ∧ G.lead a = true ∧ a ≤ r ∧ r < G.to a := by
  induction h with
  | zero => exact ⟨0, .zero, Fg.lead0, Nat.le_refl _, (Fg.to_ok hG .zero).2.2⟩
  | @step i s hi hs ih =>
    have hsR : G.R s := .step hi hs
    cases hl : G.lead s with
    | true => exact ⟨s, hsR, hl, Nat.le_refl _, (Fg.to_ok hG hsR).2.2⟩
    | false =>
      obtain ⟨a, ha, hla, h1, h2⟩ := ih
      have hj : ¬ (G.ju i = true ∨ s ≠ G.nx i) := fun c => by
        have := Fg.lead_iff.2 (.inr ⟨i, (Fg.mem_reach hG).2 hi, hs, c⟩)
        rw [hl] at this
        cases this
      have e1 : G.ju i = false := by cases h : G.ju i <;> simp_all
      have e2 : s = G.nx i := Classical.byContradiction fun c => hj (.inr c)
      obtain ⟨k1, k2⟩ := hi.ok hG
      have e3 : G.su i = [G.nx i] := by
        rcases hG.one i k1 k2 e1 with e | e
        · rw [e] at hs; cases hs
        · exact e
      have hf : G.fin i = false := by
        unfold Fg.fin
        rw [e1, e3]
        simp only [List.length_singleton, ne_eq, not_true_eq_false, decide_false, Bool.or_self, List.getD_cons_zero, Bool.false_or]
        rw [← e2]; exact hl
      refine ⟨a, ha, hla, ?_, ?_⟩
      · have := (Fg.fin_no hG hi hf).2.2.2.1
        omega
      · rw [e2]; exact Fg.on hG a ha i hi h1 h2 hf
end Fl
end Go.Proofs.Ytlpijnnlmgoihaa

/- Plain facts on flow: leaders, found one by one. -/
namespace Go.Proofs.Ytlpijnnlmgoihaa
namespace Fl
variable {G : Fg}

/-- leaders, when k of those that one may come to are done, and m of the next one's ways -/
structure Fg.Ld (G : Fg) (k m : Nat) (L : List Bool) : Prop where
  len : L.length = G.N + 2
  is : ∀ j, L.getD j false = true ↔ j = 0 ∨ (∃ i ∈ G.reach.take k, j ∈ G.su i ∧ (G.ju i = true ∨ j ≠ G.nx i)) ∨
    ∃ m', m' < m ∧ m' < (G.su (G.reach.getD k 0)).length ∧ (G.su (G.reach.getD k 0)).getD m' 0 = j ∧ (G.ju (G.reach.getD k 0) = true ∨ j ≠ G.nx (G.reach.getD k 0))
theorem getD_set_v (L : List Bool) (s j : Nat) (v : Bool) (hs : s < L.length) : (L.set s v).getD j false = if j = s then v else L.getD j false := by
  rw [List.getD_eq_getElem?_getD, List.getElem?_set, List.getD_eq_getElem?_getD]
  by_cases e : s = j
  · subst e
    simp [hs]
  · rw [if_neg e, if_neg (fun h => e h.symm)]
theorem Fg.Ld.start (G : Fg) : G.Ld 0 0 ((List.replicate (G.N + 2) false).set 0 true) := by
  refine ⟨by simp, fun j => ?_⟩
  rw [getD_set_v _ _ _ _ (by simp)]
  have h0 : (List.replicate (G.N + 2) false).getD j false = false := by
    rw [List.getD_eq_getElem?_getD, List.getElem?_replicate]
    by_cases h : j < G.N + 2
    · rw [if_pos h]; rfl
    · rw [if_neg h]; rfl
  rw [h0]
  by_cases e : j = 0
  · rw [if_pos e]; exact ⟨fun _ => .inl e, fun _ => rfl⟩
  · rw [if_neg e]
    constructor
    · intro h; cases h
    · rintro (h | ⟨i, hi, _⟩ | ⟨m, hm, _⟩)
      · exact absurd h e
      · simp at hi
      · exact absurd hm (Nat.not_lt_zero _)
theorem Fg.Ld.step {k m : Nat} {L : List Bool} (h : G.Ld k m L) (hm : m < (G.su (G.reach.getD k 0)).length) (hs : (G.su (G.reach.getD k 0)).getD m 0 < G.N + 2) :
    G.Ld k (m + 1) (L.set ((G.su (G.reach.getD k 0)).getD m 0) (L.getD ((G.su (G.reach.getD k 0)).getD m 0) false || G.ju (G.reach.getD k 0) || decide ((G.su (G.reach.getD k 0)).getD m 0 ≠ G.nx (G.reach.getD k 0)))) := by
  refine ⟨by simpa using h.len, fun j => ?_⟩
  rw [getD_set_v _ _ _ _ (by rw [h.len]; exact hs)]
  have hj := h.is j
  generalize G.reach.getD k 0 = i at *
  by_cases e : j = (G.su i).getD m 0
  · rw [if_pos e, ← e, Bool.or_eq_true, Bool.or_eq_true, hj, decide_eq_true_eq]
    constructor
    · rintro (((h | h | ⟨m', h1, h2⟩) | h) | h)
      · exact .inl h
      · exact .inr (.inl h)
      · exact .inr (.inr ⟨m', by omega, h2⟩)
      · exact .inr (.inr ⟨m, by omega, hm, e.symm, .inl h⟩)
      · exact .inr (.inr ⟨m, by omega, hm, e.symm, .inr h⟩)
    · rintro (h | h | ⟨m', h1, h2, h3, h4⟩)
      · exact .inl (.inl (.inl h))
      · exact .inl (.inl (.inr (.inl h)))
      · rcases h4 with h4 | h4
        · exact .inl (.inr h4)
        · exact .inr h4
  · rw [if_neg e, hj]
    constructor
    · rintro (h | h | ⟨m', h1, h2⟩)
      · exact .inl h
      · exact .inr (.inl h)
      · exact .inr (.inr ⟨m', by omega, h2⟩)
    · rintro (h | h | ⟨m', h1, h2, h3, h4⟩)
      · exact .inl h
      · exact .inr (.inl h)
      · refine .inr (.inr ⟨m', ?_, h2, h3, h4⟩)
        by_cases e2 : m' = m
        · rw [e2] at h3; exact absurd h3.symm e
        · omega
theorem Fg.Ld.next {k : Nat} {L : List Bool} (h : G.Ld k (G.su (G.reach.getD k 0)).length L) (hk : k < G.reach.length) : G.Ld (k + 1) 0 L := by
  refine ⟨h.len, fun j => ?_⟩
  rw [h.is j]
  have ht : G.reach.take (k + 1) = G.reach.take k ++ [G.reach.getD k 0] := by
    rw [List.take_add_one, List.getD_eq_getElem?_getD, List.getElem?_eq_getElem hk]; rfl
  rw [ht]
  generalize G.reach.getD k 0 = i at *
  constructor
  · rintro (h | ⟨a, h1, h2⟩ | ⟨m, h1, h2, h3, h4⟩)
    · exact .inl h
    · exact .inr (.inl ⟨a, List.mem_append_left _ h1, h2⟩)
    · refine .inr (.inl ⟨i, by simp, ?_, h4⟩)
      rw [← h3, List.getD_eq_getElem?_getD, List.getElem?_eq_getElem h2]
      exact List.getElem_mem h2
  · rintro (h | ⟨a, h1, h2, h3⟩ | ⟨m, h1, _⟩)
    · exact .inl h
    · rcases List.mem_append.1 h1 with h1 | h1
      · exact .inr (.inl ⟨a, h1, h2, h3⟩)
      · obtain rfl := List.mem_singleton.1 h1
        obtain ⟨m, hm, e⟩ := List.getElem_of_mem h2
        exact .inr (.inr ⟨m, hm, hm, by rw [List.getD_eq_getElem?_getD, List.getElem?_eq_getElem hm]; exact e, h3⟩)
    · exact absurd h1 (Nat.not_lt_zero _)
theorem Fg.Ld.done {L : List Bool} (h : G.Ld G.reach.length 0 L) : ∀ j, L.getD j false = G.lead j := by
  intro j
  rw [Bool.eq_iff_iff, h.is j, Fg.lead_iff, List.take_length]
  constructor
  · rintro (h | h | ⟨m, hm, _⟩)
    · exact .inl h
    · exact .inr h
    · exact absurd hm (Nat.not_lt_zero _)
  · rintro (h | h)
    · exact .inl h
    · exact .inr (.inl h)
end Fl
end Go.Proofs.Ytlpijnnlmgoihaa

/- Plain facts on flow (no program): the blocks in their order, who leads where. -/
namespace Go.Proofs.Ytlpijnnlmgoihaa
namespace Fl

variable {G : Fg}
theorem range_pairwise (n : Nat) : (List.range n).Pairwise (· < ·) := List.pairwise_lt_range
theorem Fg.reach_sorted (G : Fg) : G.reach.Pairwise (· < ·) := List.Pairwise.filter _ (range_pairwise _)
/-- the blocks' first instructions -/
noncomputable def Fg.ls (G : Fg) : List Nat := G.reach.filter G.lead
theorem Fg.ls_sorted (G : Fg) : G.ls.Pairwise (· < ·) := List.Pairwise.filter _ G.reach_sorted
theorem Fg.mem_ls (hG : G.Ok) {a : Nat} : a ∈ G.ls ↔ G.R a ∧ G.lead a = true := by
  unfold Fg.ls
  rw [List.mem_filter, Fg.mem_reach hG]
noncomputable def Fg.n (G : Fg) : Nat := G.ls.length
noncomputable def Fg.fr (G : Fg) (k : Nat) : Nat := G.ls.getD k 0
theorem getD_mem {l : List Nat} {k : Nat} (h : k < l.length) : l.getD k 0 ∈ l := by
  rw [List.getD_eq_getElem?_getD, List.getElem?_eq_getElem h]
  exact List.getElem_mem h
theorem mem_getD {l : List Nat} {a : Nat} (h : a ∈ l) : ∃ k, k < l.length ∧ l.getD k 0 = a := by
  obtain ⟨k, hk, e⟩ := List.getElem_of_mem h
  exact ⟨k, hk, by rw [List.getD_eq_getElem?_getD, List.getElem?_eq_getElem hk]; exact e⟩
theorem sorted_lt {l : List Nat} (h : l.Pairwise (· < ·)) {i j : Nat} (hij : i < j) (hj : j < l.length) : l.getD i 0 < l.getD j 0 := by
  rw [List.getD_eq_getElem?_getD, List.getD_eq_getElem?_getD, List.getElem?_eq_getElem hj, List.getElem?_eq_getElem (by omega)]
  exact List.pairwise_iff_getElem.1 h i j (by omega) hj hij
theorem Fg.fr_ok (hG : G.Ok) {k : Nat} (h : k < G.n) : G.R (G.fr k) ∧ G.lead (G.fr k) = true := (Fg.mem_ls hG).1 (getD_mem h)
theorem Fg.fr_lt (G : Fg) {i j : Nat} (hij : i < j) (hj : j < G.n) : G.fr i < G.fr j := sorted_lt G.ls_sorted hij hj
theorem Fg.fr_inj (G : Fg) {i j : Nat} (hi : i < G.n) (hj : j < G.n) (h : G.fr i = G.fr j) : i = j := by
  rcases Nat.lt_trichotomy i j with c | c | c
  · have := G.fr_lt c hj; omega
  · exact c
  · have := G.fr_lt c hi; omega
/-- does block k hold place r? -/
noncomputable def Fg.inB (G : Fg) (k r : Nat) : Bool := decide (G.fr k ≤ r) && decide (r < G.to (G.fr k))
theorem Fg.inB_iff {k r : Nat} : G.inB k r = true ↔ G.fr k ≤ r ∧ r < G.to (G.fr k) := by
  unfold Fg.inB
  rw [Bool.and_eq_true, decide_eq_true_eq, decide_eq_true_eq]
theorem Fg.in_one (hG : G.Ok) {i j r : Nat} (hi : i < G.n) (hj : j < G.n) (h1 : G.inB i r = true) (h2 : G.inB j r = true) : i = j := by
  obtain ⟨a1, a2⟩ := Fg.inB_iff.1 h1
  obtain ⟨b1, b2⟩ := Fg.inB_iff.1 h2
  have A := Fg.fr_ok hG hi
  have B := Fg.fr_ok hG hj
  rcases Nat.lt_trichotomy i j with c | c | c
  · have := Fg.apart hG A.1 B.1 B.2 (G.fr_lt c hj); omega
  · exact c
  · have := Fg.apart hG B.1 A.1 A.2 (G.fr_lt c hi); omega
theorem Fg.in_some (hG : G.Ok) {r : Nat} (h : G.R r) : ∃ k, k < G.n ∧ G.inB k r = true := by
  obtain ⟨a, h1, h2, h3, h4⟩ := Fg.cover hG h
  obtain ⟨k, hk, e⟩ := mem_getD ((Fg.mem_ls hG).2 ⟨h1, h2⟩)
  have e' : G.fr k = a := e
  exact ⟨k, hk, Fg.inB_iff.2 ⟨by omega, by rw [e']; exact h4⟩⟩
/-- the block of a place -/
noncomputable def Fg.fd (G : Fg) (r : Nat) : Nat := ((List.range G.n).find? fun k => G.inB k r).getD G.n
theorem Fg.fd_is (hG : G.Ok) {k r : Nat} (hk : k < G.n) (h : G.inB k r = true) : G.fd r = k := by
  have hf : (List.range G.n).find? (fun k => G.inB k r) = some k := by
    rw [List.find?_range_eq_some]
    refine ⟨h, List.mem_range.2 hk, fun j hj => ?_⟩
    cases hc : G.inB j r with
    | false => rfl
    | true => have := Fg.in_one hG (by omega) hk hc h; omega
  unfold Fg.fd
  rw [hf]; rfl
theorem Fg.fd_lead (hG : G.Ok) {s : Nat} (h : G.R s) (hl : G.lead s = true) : G.fd s < G.n ∧ G.fr (G.fd s) = s ∧ G.inB (G.fd s) s = true := by
  obtain ⟨k, hk, e⟩ := mem_getD ((Fg.mem_ls hG).2 ⟨h, hl⟩)
  have e' : G.fr k = s := e
  have hb : G.inB k s = true := Fg.inB_iff.2 ⟨by omega, by rw [e']; exact (Fg.to_ok hG h).2.2⟩
  rw [Fg.fd_is hG hk hb]
  exact ⟨hk, e', hb⟩
/-- from a block's last instruction one goes to leaders alone -/
theorem Fg.su_lead (hG : G.Ok) {i s : Nat} (hi : G.R i) (hf : G.fin i = true) (hs : s ∈ G.su i) : G.R s ∧ G.lead s = true := by
  refine ⟨.step hi hs, ?_⟩
  obtain ⟨k1, k2⟩ := hi.ok hG
  cases hj : G.ju i with
  | true => exact Fg.lead_iff.2 (.inr ⟨i, (Fg.mem_reach hG).2 hi, hs, .inl hj⟩)
  | false =>
    rcases hG.one i k1 k2 hj with e | e
    · rw [e] at hs; cases hs
    · unfold Fg.fin at hf
      rw [hj, e] at hf
      simp at hf
      rw [e] at hs
      rw [List.mem_singleton.1 hs]; exact hf
def once (l : List Nat) (x : Nat) : List Nat := if x ∈ l then l else l ++ [x]
theorem once_mem {l : List Nat} {x y : Nat} : y ∈ once l x ↔ y ∈ l ∨ y = x := by
  unfold once
  split
  · exact ⟨.inl, fun h => h.elim id (fun e => e ▸ ‹_›)⟩
  · simp
theorem once_nodup {l : List Nat} {x : Nat} (h : l.Nodup) : (once l x).Nodup := by
  unfold once
  split
  · exact h
  · rename_i hx
    rw [List.nodup_append]
    exact ⟨h, List.pairwise_singleton _ _, fun a ha b hb e => by rw [List.mem_singleton.1 hb] at e; exact hx (e ▸ ha)⟩
theorem fold_mem {f : Nat → Nat} : ∀ (xs acc : List Nat) (y : Nat), y ∈ xs.foldl (fun a s => once a (f s)) acc ↔ y ∈ acc ∨ ∃ s ∈ xs, y = f s
  | [], acc, y => by simp
  | x :: xs, acc, y => by
    rw [List.foldl_cons, fold_mem xs _ y, once_mem]
    simp only [List.mem_cons, exists_eq_or_imp, or_assoc]
theorem fold_nodup {f : Nat → Nat} : ∀ (xs acc : List Nat), acc.Nodup → (xs.foldl (fun a s => once a (f s)) acc).Nodup
  | [], _, h => h
  | x :: xs, acc, h => by rw [List.foldl_cons]; exact fold_nodup xs _ (once_nodup h)
noncomputable def Fg.la (G : Fg) (k : Nat) : Nat := G.last (G.fr k)
/-- a block's successors, the first j ways looked at -/
noncomputable def Fg.sx (G : Fg) (k j : Nat) : List Nat := ((G.su (G.la k)).take j).foldl (fun a s => once a (G.fd s)) []
noncomputable def Fg.sk (G : Fg) (k : Nat) : List Nat := (G.su (G.la k)).foldl (fun a s => once a (G.fd s)) []
noncomputable def Fg.pk (G : Fg) (t : Nat) : List Nat := (List.range G.n).filter fun k => decide (t ∈ G.sk k)
theorem Fg.sk_mem {k t : Nat} : t ∈ G.sk k ↔ ∃ s ∈ G.su (G.la k), t = G.fd s := by
  unfold Fg.sk
  rw [fold_mem]
  simp
theorem Fg.sk_nodup {k : Nat} : (G.sk k).Nodup := fold_nodup _ _ List.nodup_nil
theorem Fg.pk_mem {t k : Nat} : k ∈ G.pk t ↔ k < G.n ∧ t ∈ G.sk k := by
  unfold Fg.pk
  rw [List.mem_filter, List.mem_range, decide_eq_true_eq]
theorem Fg.pk_sorted (G : Fg) (t : Nat) : (G.pk t).Pairwise (· < ·) := List.Pairwise.filter _ (range_pairwise _)
theorem sorted_nodup {l : List Nat} (h : l.Pairwise (· < ·)) : l.Nodup := h.imp (fun h => Nat.ne_of_lt h)
theorem count_one {l : List Nat} (h : l.Nodup) {x : Nat} (hx : x ∈ l) : l.count x = 1 := by
  have h1 := List.nodup_iff_count.1 h x
  have h2 := List.count_pos_iff.2 hx
  omega
/-- FlowEdges, the first half -/
theorem Fg.edge (hG : G.Ok) {k s : Nat} (hk : k < G.n) (hs : s ∈ G.su (G.la k)) : G.fd s < G.n ∧ G.fr (G.fd s) = s ∧ (G.sk k).count (G.fd s) = 1 ∧ (G.pk (G.fd s)).count k = 1 := by
  have A := Fg.fr_ok hG hk
  obtain ⟨h1, h2, _⟩ := Fg.last_ok hG _ A.1
  obtain ⟨b1, b2⟩ := Fg.su_lead hG h1 h2 hs
  obtain ⟨c1, c2, _⟩ := Fg.fd_lead hG b1 b2
  have hm : G.fd s ∈ G.sk k := Fg.sk_mem.2 ⟨s, hs, rfl⟩
  exact ⟨c1, c2, count_one Fg.sk_nodup hm, count_one (sorted_nodup (G.pk_sorted _)) (Fg.pk_mem.2 ⟨hk, hm⟩)⟩
/-- FlowEdges, the second half -/
theorem Fg.back {t i : Nat} (hi : i < (G.pk t).length) : (G.pk t).getD i 0 < G.n ∧ (G.sk ((G.pk t).getD i 0)).count t = 1 ∧ (0 < i → (G.pk t).getD (i - 1) 0 < (G.pk t).getD i 0) := by
  obtain ⟨h1, h2⟩ := Fg.pk_mem.1 (getD_mem hi)
  exact ⟨h1, count_one Fg.sk_nodup h2, fun h0 => sorted_lt (G.pk_sorted t) (by omega) hi⟩
/-- FlowOnce: how many of the first j blocks hold a place -/
noncomputable def Fg.cnt (G : Fg) (r j : Nat) : Nat := ((List.range j).filter fun k => G.inB k r).length
theorem Fg.cnt_zero (r : Nat) : G.cnt r 0 = 0 := rfl
theorem Fg.cnt_succ (r j : Nat) : G.cnt r (j + 1) = G.cnt r j + (if G.inB j r = true then 1 else 0) := by
  unfold Fg.cnt
  rw [List.range_succ, List.filter_append, List.length_append]
  by_cases h : G.inB j r = true
  · rw [if_pos h, List.filter_cons_of_pos (by exact h)]; rfl
  · rw [if_neg h, List.filter_cons_of_neg (by exact h)]; rfl
theorem Fg.cnt_le (r j : Nat) : G.cnt r j ≤ j := by
  unfold Fg.cnt
  have := List.length_filter_le (fun k => G.inB k r) (List.range j)
  rw [List.length_range] at this
  exact this
theorem Fg.cnt_low (hG : G.Ok) {r k : Nat} (hk : k < G.n) (hr : G.inB k r = true) : ∀ j, j ≤ k → G.cnt r j = 0
  | 0, _ => rfl
  | j + 1, h => by
    rw [Fg.cnt_succ, Fg.cnt_low hG hk hr j (by omega), if_neg]
    intro c
    have := Fg.in_one hG (by omega) hk c hr
    omega
theorem Fg.cnt_high (hG : G.Ok) {r k : Nat} (hk : k < G.n) (hr : G.inB k r = true) : ∀ j, k < j → j ≤ G.n → G.cnt r j = 1
  | 0, h, _ => by omega
  | j + 1, h, hn => by
    rw [Fg.cnt_succ]
    by_cases e : k = j
    · subst e
      rw [Fg.cnt_low hG hk hr k (Nat.le_refl _), if_pos hr]
    · rw [Fg.cnt_high hG hk hr j (by omega) (by omega), if_neg]
      intro c
      have := Fg.in_one hG (by omega) hk c hr
      omega
/-- each in just one -/
theorem Fg.cnt_all (hG : G.Ok) {r : Nat} (h : G.R r) : G.cnt r G.n = 1 := by
  obtain ⟨k, hk, hr⟩ := Fg.in_some hG h
  exact Fg.cnt_high hG hk hr _ hk (Nat.le_refl _)
/-- FlowOnce: blocks behind one another -/
theorem Fg.behind (hG : G.Ok) {k : Nat} (h0 : 0 < k) (hk : k < G.n) : G.to (G.fr (k - 1)) ≤ G.fr k :=
  Fg.apart hG (Fg.fr_ok hG (by omega)).1 (Fg.fr_ok hG hk).1 (Fg.fr_ok hG hk).2 (G.fr_lt (by omega) hk)
theorem Fg.some (hG : G.Ok) : 0 < G.reach.length := List.length_pos_of_mem ((Fg.mem_reach hG).2 .zero)
/-- FlowInside: one step -/
theorem Fg.go (hG : G.Ok) {i : Nat} (hi : G.R i) (h : i ≠ G.last i) : G.su i = [G.nx i] ∧ i < G.nx i ∧ G.R (G.nx i) ∧ G.last (G.nx i) = G.last i ∧ G.nx i ≤ G.last i := by
  cases hf : G.fin i with
  | true => exact absurd (Fg.last_fin hG hi hf).symm h
  | false =>
    obtain ⟨h1, _, _, h4, h5⟩ := Fg.fin_no hG hi hf
    have e := Fg.last_go hG hi hf
    exact ⟨h1, h4, h5, e.symm, by rw [e]; exact (Fg.last_ok hG _ h5).2.2⟩
end Fl
end Go.Proofs.Ytlpijnnlmgoihaa

/- Plain facts on flow (no program): blocks found one by one, and who leads where, way by way. -/
namespace Go.Proofs.Ytlpijnnlmgoihaa
namespace Fl
variable {G : Fg}

def upd {α : Type} (f : Nat → α) (r : Nat) (x : α) : Nat → α := fun s => if s = r then x else f s
theorem upd_same {α : Type} (f : Nat → α) (r : Nat) (x : α) : upd f r x r = x := if_pos rfl
theorem upd_other {α : Type} (f : Nat → α) {r s : Nat} (x : α) (h : s ≠ r) : upd f r x s = f s := if_neg h
theorem upd_self {α : Type} (f : Nat → α) (r : Nat) : upd f r (f r) = f := by
  funext s
  unfold upd
  by_cases e : s = r
  · rw [if_pos e, e]
  · rw [if_neg e]
theorem Fg.sx_zero (G : Fg) (k : Nat) : G.sx k 0 = [] := by simp [Fg.sx]
theorem Fg.sx_all (G : Fg) (k : Nat) : G.sx k (G.su (G.la k)).length = G.sk k := by
  unfold Fg.sx Fg.sk
  rw [List.take_length]
theorem Fg.sx_succ {k j : Nat} (hj : j < (G.su (G.la k)).length) : G.sx k (j + 1) = once (G.sx k j) (G.fd ((G.su (G.la k)).getD j 0)) := by
  unfold Fg.sx
  rw [List.take_add_one, List.foldl_append, List.getD_eq_getElem?_getD, List.getElem?_eq_getElem hj]
  rfl
theorem Fg.sx_old {k j : Nat} (hj : j < (G.su (G.la k)).length) (h : G.fd ((G.su (G.la k)).getD j 0) ∈ G.sx k j) : G.sx k (j + 1) = G.sx k j := by
  rw [Fg.sx_succ hj]; exact if_pos h
theorem Fg.sx_new {k j : Nat} (hj : j < (G.su (G.la k)).length) (h : ¬ G.fd ((G.su (G.la k)).getD j 0) ∈ G.sx k j) : G.sx k (j + 1) = G.sx k j ++ [G.fd ((G.su (G.la k)).getD j 0)] := by
  rw [Fg.sx_succ hj]; exact if_neg h
/-- Pred of t, when blocks ahead of k are done, and j of k's ways -/
noncomputable def Fg.px (G : Fg) (k j t : Nat) : List Nat := ((List.range k).filter fun a => decide (t ∈ G.sk a)) ++ (if t ∈ G.sx k j then [k] else [])
theorem Fg.px_zero (G : Fg) (k t : Nat) : G.px k 0 t = (List.range k).filter fun a => decide (t ∈ G.sk a) := by
  unfold Fg.px
  rw [Fg.sx_zero]
  simp
theorem Fg.px_next (G : Fg) (k t : Nat) : G.px k (G.su (G.la k)).length t = G.px (k + 1) 0 t := by
  rw [Fg.px_zero, List.range_succ, List.filter_append]
  unfold Fg.px
  rw [Fg.sx_all]
  by_cases h : t ∈ G.sk k
  · rw [if_pos h, List.filter_cons_of_pos (by simpa using h)]; rfl
  · rw [if_neg h, List.filter_cons_of_neg (by simpa using h)]; rfl
theorem Fg.px_len (G : Fg) (k j t : Nat) : (G.px k j t).length ≤ k + 1 := by
  unfold Fg.px
  rw [List.length_append]
  have := List.length_filter_le (fun a => decide (t ∈ G.sk a)) (List.range k)
  rw [List.length_range] at this
  split <;> simp <;> omega
theorem fold_len {f : Nat → Nat} : ∀ (xs acc : List Nat), (xs.foldl (fun a s => once a (f s)) acc).length ≤ acc.length + xs.length
  | [], acc => by simp
  | x :: xs, acc => by
    rw [List.foldl_cons]
    have := fold_len (f := f) xs (once acc (f x))
    have h2 : (once acc (f x)).length ≤ acc.length + 1 := by unfold once; split <;> simp
    simp only [List.length_cons]
    omega
theorem Fg.sx_len (G : Fg) (k j : Nat) : (G.sx k j).length ≤ j := by
  unfold Fg.sx
  have := fold_len (f := G.fd) ((G.su (G.la k)).take j) []
  have h2 := List.length_take_le j (G.su (G.la k))
  simp at this
  omega
theorem Fg.sk_len (G : Fg) (k : Nat) : (G.sk k).length ≤ (G.su (G.la k)).length := by
  rw [← Fg.sx_all]; exact Fg.sx_len G k _
/-- the rows: of block b Succ is the row 2 b, Pred the row 2 b + 1 -/
noncomputable def Fg.row (G : Fg) (k j r : Nat) : List Nat := if r % 2 = 0 then (if r / 2 < k then G.sk (r / 2) else if r / 2 = k then G.sx k j else []) else G.px k j (r / 2)
theorem Fg.row_start (G : Fg) : G.row 0 0 = fun _ => [] := by
  funext r
  unfold Fg.row
  rw [Fg.px_zero, Fg.sx_zero]
  simp
theorem Fg.row_here (G : Fg) (k j : Nat) : G.row k j (2 * k) = G.sx k j := by
  unfold Fg.row
  rw [if_pos (by omega), if_neg (by omega), if_pos (by omega)]
theorem Fg.row_pred (G : Fg) (k j t : Nat) : G.row k j (2 * t + 1) = G.px k j t := by
  unfold Fg.row
  rw [if_neg (by omega), show (2 * t + 1) / 2 = t by omega]
theorem Fg.row_old {k j : Nat} (hj : j < (G.su (G.la k)).length) (h : G.fd ((G.su (G.la k)).getD j 0) ∈ G.sx k j) : G.row k (j + 1) = G.row k j := by
  funext r
  unfold Fg.row Fg.px
  rw [Fg.sx_old hj h]
theorem Fg.row_new {k j t : Nat} (hj : j < (G.su (G.la k)).length) (ht : G.fd ((G.su (G.la k)).getD j 0) = t) (h : ¬ t ∈ G.sx k j) :
    G.row k (j + 1) = upd (upd (G.row k j) (2 * k) (G.row k j (2 * k) ++ [t])) (2 * t + 1) (G.row k j (2 * t + 1) ++ [k]) := by
  have e := Fg.sx_new hj (by rw [ht]; exact h)
  rw [ht] at e
  funext r
  rw [Fg.row_here, Fg.row_pred]
  by_cases h1 : r = 2 * t + 1
  · subst h1
    rw [upd_same, Fg.row_pred]
    unfold Fg.px
    rw [e, if_pos (by simp), if_neg h, List.append_nil]
  · rw [upd_other _ _ h1]
    by_cases h2 : r = 2 * k
    · subst h2
      rw [upd_same, Fg.row_here, e]
    · rw [upd_other _ _ h2]
      unfold Fg.row
      by_cases h3 : r % 2 = 0
      · rw [if_pos h3, if_pos h3]
        by_cases h4 : r / 2 < k
        · rw [if_pos h4, if_pos h4]
        · rw [if_neg h4, if_neg h4, if_neg (by omega), if_neg (by omega)]
      · rw [if_neg h3, if_neg h3]
        unfold Fg.px
        rw [e]
        have : (r / 2 ∈ G.sx k j ++ [t]) ↔ r / 2 ∈ G.sx k j := by
          rw [List.mem_append, List.mem_singleton]
          exact ⟨fun c => c.resolve_right (by omega), .inl⟩
        simp only [this]
theorem Fg.row_next (G : Fg) (k : Nat) : G.row k (G.su (G.la k)).length = G.row (k + 1) 0 := by
  funext r
  unfold Fg.row
  rw [Fg.px_next, Fg.sx_all, Fg.sx_zero]
  by_cases h3 : r % 2 = 0
  · rw [if_pos h3, if_pos h3]
    by_cases h4 : r / 2 < k
    · rw [if_pos h4, if_pos (by omega)]
    · rw [if_neg h4]
      by_cases h5 : r / 2 = k
      · rw [if_pos h5, if_pos (by omega), h5]
      · rw [if_neg h5, if_neg (by omega)]
        split <;> rfl
  · rw [if_neg h3, if_neg h3]
theorem Fg.row_su {k b : Nat} (h : b < k) : G.row k 0 (2 * b) = G.sk b := by
  unfold Fg.row
  rw [if_pos (by omega), if_pos (by omega), show 2 * b / 2 = b by omega]
theorem Fg.row_pr (G : Fg) (b : Nat) : G.row G.n 0 (2 * b + 1) = G.pk b := by
  rw [Fg.row_pred, Fg.px_zero]; rfl
theorem Fg.row_len {k j : Nat} (hG : ∀ k, (G.su (G.la k)).length ≤ 2) (hj : j ≤ 2) (r : Nat) : (G.row k j r).length ≤ k + 2 := by
  unfold Fg.row
  split
  · split
    · have := Fg.sk_len G (r / 2); have := hG (r / 2); omega
    · split
      · have := Fg.sx_len G k j; omega
      · simp
  · have := Fg.px_len G k j (r / 2); omega
/-- the leaders among the first k that one may come to -/
noncomputable def Fg.lk (G : Fg) (k : Nat) : List Nat := (G.reach.take k).filter G.lead
theorem Fg.lk_zero (G : Fg) : G.lk 0 = [] := rfl
theorem Fg.lk_all (G : Fg) : G.lk G.reach.length = G.ls := by
  unfold Fg.lk Fg.ls
  rw [List.take_length]
theorem Fg.lk_yes {k : Nat} (hk : k < G.reach.length) (h : G.lead (G.reach.getD k 0) = true) : G.lk (k + 1) = G.lk k ++ [G.reach.getD k 0] := by
  unfold Fg.lk
  have e : G.reach.getD k 0 = G.reach[k] := by rw [List.getD_eq_getElem?_getD, List.getElem?_eq_getElem hk]; rfl
  rw [List.take_add_one, List.getElem?_eq_getElem hk, List.filter_append, e]
  rw [e] at h
  show _ ++ List.filter G.lead [G.reach[k]] = _
  rw [List.filter_cons_of_pos h]; rfl
theorem Fg.lk_no {k : Nat} (hk : k < G.reach.length) (h : G.lead (G.reach.getD k 0) = false) : G.lk (k + 1) = G.lk k := by
  unfold Fg.lk
  have e : G.reach.getD k 0 = G.reach[k] := by rw [List.getD_eq_getElem?_getD, List.getElem?_eq_getElem hk]; rfl
  rw [List.take_add_one, List.getElem?_eq_getElem hk, List.filter_append]
  rw [e] at h
  show _ ++ List.filter G.lead [G.reach[k]] = _
  rw [List.filter_cons_of_neg (by rw [h]; simp)]
  simp
theorem Fg.lk_len (G : Fg) (k : Nat) : (G.lk k).length ≤ k := by
  unfold Fg.lk
  have := List.length_filter_le G.lead (G.reach.take k)
  have := List.length_take_le k G.reach
  omega
theorem flat_len {α : Type} (f : Nat → List α) (m : Nat) (hf : ∀ a, (f a).length = m) : ∀ l : List Nat, (l.flatMap f).length = l.length * m
  | [] => by simp
  | a :: l => by rw [List.flatMap_cons, List.length_append, hf, flat_len f m hf l, List.length_cons, Nat.add_mul]; omega
theorem flat_get {α : Type} (f : Nat → List α) (m : Nat) (hf : ∀ a, (f a).length = m) : ∀ (l : List Nat) (k r : Nat), r < m → k < l.length → (l.flatMap f)[k * m + r]? = (f (l.getD k 0))[r]?
  | [], k, r, _, hk => absurd hk (Nat.not_lt_zero _)
  | a :: l, 0, r, hr, _ => by
    rw [List.flatMap_cons, List.getElem?_append_left (by rw [hf]; omega)]
    simp
  | a :: l, k + 1, r, hr, hk => by
    rw [List.flatMap_cons, List.getElem?_append_right (by rw [hf, Nat.add_mul]; omega), hf]
    rw [show (k + 1) * m + r - m = k * m + r by rw [Nat.add_mul]; omega]
    rw [flat_get f m hf l k r hr (by simpa using hk)]
    simp
end Fl
end Go.Proofs.Ytlpijnnlmgoihaa
