/- Plain facts on flow: a right program's flow. -/
import Derived.Test.YtlpijnnlmgoihaaMF
import Derived.Test.YtlpijnnlmgoihaaMS
namespace Go.Proofs.Ytlpijnnlmgoihaa
open Go.RowKit M

/-- is it a jump? -/
def jB (x : In) : Bool := jmpB x.op || (x.op == 5)
/-- the place behind -/
def nxI (x : In) (i : Nat) : Nat := if x.op = 24 then i + 2 else i + 1
/-- a program's flow -/
def gOf (l : List In) : Fl.Fg := { N := l.length, su := fun i => (succL l (i : Int)).map Int.toNat, ju := fun i => jB (l.getD i z), nx := fun i => nxI (l.getD i z) i, ho := fun i => holeB l (i : Int) }
theorem place_nat {l : List In} {i : Nat} : placeB l (i : Int) = true ↔ i < l.length ∧ holeB l (i : Int) = false := by
  rw [placeB_true]
  constructor
  · rintro ⟨h1, h2⟩; exact ⟨by omega, h2⟩
  · rintro ⟨h1, h2⟩; exact ⟨by omega, h2⟩
theorem succ_at {l : List In} {i : Nat} (h : placeB l (i : Int) = true) : succL l (i : Int) = nexts (l.getD i z) (i : Int) := by
  unfold succL
  rw [if_pos h, Int.toNat_natCast]
theorem check_flow {l : List In} (h : (checkS l).2 = 0) : (gOf l).Ok := by
  obtain ⟨h1, h2, h3⟩ := check_ok h
  refine ⟨by show 0 < l.length; omega, ?_, ?_, ?_, ?_⟩
  · show holeB l ((0 : Nat) : Int) = false
    rw [holeB_nat (by omega)]; rfl
  · intro i hi hh s hs
    obtain ⟨n, hn, rfl⟩ := List.mem_map.1 hs
    have hp := may_place h3 (place_nat.2 ⟨hi, hh⟩) n hn
    obtain ⟨⟨p1, p2⟩, p3⟩ := placeB_true.1 hp
    have e : ((n.toNat : Nat) : Int) = n := Int.toNat_of_nonneg p1
    refine ⟨by show n.toNat < l.length; omega, ?_⟩
    show holeB l ((n.toNat : Nat) : Int) = false
    rw [e]; exact p3
  · intro i hi hh hj
    have hp : placeB l (i : Int) = true := place_nat.2 ⟨hi, hh⟩
    have hj' : jmpB (l.getD i z).op = false ∧ (l.getD i z).op ≠ 5 := by
      have : (jmpB (l.getD i z).op || ((l.getD i z).op == 5)) = false := hj
      simpa using this
    show (succL l (i : Int)).map Int.toNat = [] ∨ (succL l (i : Int)).map Int.toNat = [nxI (l.getD i z) i]
    rw [succ_at hp]
    unfold nexts nxI
    by_cases c1 : (l.getD i z).op = 149
    · rw [if_pos c1]; exact .inl rfl
    · rw [if_neg c1, if_neg hj'.2]
      by_cases c2 : (l.getD i z).op = 24
      · rw [if_pos c2, if_pos c2]
        right
        show [((i : Int) + 2).toNat] = [i + 2]
        congr 1
      · rw [if_neg c2, if_neg c2, if_neg (by rw [hj'.1]; simp)]
        right
        show [((i : Int) + 1).toNat] = [i + 1]
        congr 1
  · intro i hi hh
    show nxI (l.getD i z) i = i + 1 ∨ (nxI (l.getD i z) i = i + 2 ∧ holeB l (((i + 1 : Nat)) : Int) = true)
    unfold nxI
    by_cases c : (l.getD i z).op = 24
    · rw [if_pos c]
      right
      have hb := h3 i hi
      unfold badI at hb
      rw [show holeB l (i : Int) = false from hh] at hb
      have hm : mayB l i = true := by simpa using hb
      unfold mayB at hm
      rw [Bool.and_eq_true, Bool.and_eq_true] at hm
      have hw := hm.1.2
      unfold wideOk blankB at hw
      rw [c] at hw
      simp at hw
      have hlt : i + 1 < l.length := by omega
      refine ⟨rfl, ?_⟩
      rw [holeB_nat hlt, hR_succ]
      have : hR (opL l) i = false := by rw [← holeB_nat hi]; exact hh
      rw [this]
      have c' : opL l i = 24 := c
      rw [c']; rfl
    · rw [if_neg c]; exact .inl rfl
/-- what one may come to, as the program tells it -/
noncomputable def reachI (l : List In) : List Int := if (checkS l).2 = 0 then (gOf l).reach.map Int.ofNat else []
theorem reachI_ok {l : List In} (h : (checkS l).2 = 0) : reachI l = (gOf l).reach.map Int.ofNat := if_pos h
theorem reachI_no {l : List In} (h : ¬ (checkS l).2 = 0) : reachI l = [] := if_neg h
/-- the places that are seen, and those to do: all that one may come to is there -/
structure Todo (l : List In) (seen : List Bool) (todo : List Nat) : Prop where
  len : seen.length = l.length
  in1 : ∀ i, seen.getD i false = true → (gOf l).R i
  in2 : ∀ i ∈ todo, (gOf l).R i
  zero : seen.getD 0 false = true ∨ 0 ∈ todo
  on : ∀ i, seen.getD i false = true → ∀ s ∈ (gOf l).su i, seen.getD s false = true ∨ s ∈ todo
theorem Todo.start (l : List In) : Todo l (List.replicate l.length false) [0] := by
  have e : ∀ i, (List.replicate l.length false).getD i false = false := fun i => by
    rw [List.getD_eq_getElem?_getD, List.getElem?_replicate]; split <;> rfl
  exact ⟨by simp, fun i h => (by rw [e] at h; cases h), fun i h => (by rw [List.mem_singleton.1 h]; exact .zero), .inr (List.mem_singleton.2 rfl), fun i h => (by rw [e] at h; cases h)⟩
theorem getD_set_b (seen : List Bool) (i j : Nat) : (seen.set i true).getD j false = (decide (j = i ∧ i < seen.length) || seen.getD j false) := by
  rw [List.getD_eq_getElem?_getD, List.getD_eq_getElem?_getD, List.getElem?_set]
  by_cases e : i = j
  · subst e
    by_cases h : i < seen.length
    · simp [h]
    · rw [if_pos rfl, if_neg h, List.getElem?_eq_none (by omega)]; simp [h]
  · rw [if_neg e]
    have : ¬ (j = i ∧ i < seen.length) := fun c => e c.1.symm
    simp [this]
/-- one that was seen -/
theorem Todo.old {l : List In} {seen : List Bool} {todo : List Nat} {i : Nat} (h : Todo l seen (todo ++ [i])) (hs : seen.getD i false = true) : Todo l seen todo := by
  refine ⟨h.len, h.in1, fun j hj => h.in2 j (List.mem_append_left _ hj), ?_, fun j hj s hm => ?_⟩
  · rcases h.zero with c | c
    · exact .inl c
    · rcases List.mem_append.1 c with c | c
      · exact .inr c
      · rw [List.mem_singleton.1 c]; exact .inl hs
  · rcases h.on j hj s hm with c | c
    · exact .inl c
    · rcases List.mem_append.1 c with c | c
      · exact .inr c
      · rw [List.mem_singleton.1 c]; exact .inl hs
/-- one that was not -/
theorem Todo.new {l : List In} {seen : List Bool} {todo : List Nat} {i : Nat} (hG : (gOf l).Ok) (h : Todo l seen (todo ++ [i])) : i < l.length ∧ Todo l (seen.set i true) (todo ++ (gOf l).su i) := by
  have hi : (gOf l).R i := h.in2 i (List.mem_append_right _ (List.mem_singleton.2 rfl))
  have hlt : i < l.length := (hi.ok hG).1
  have hl : i < seen.length := by rw [h.len]; exact hlt
  have hle : ∀ j, seen.getD j false = true → (seen.set i true).getD j false = true := fun j hj => by rw [getD_set_b, hj, Bool.or_true]
  have hii : (seen.set i true).getD i false = true := by rw [getD_set_b]; simp [hl]
  refine ⟨hlt, by rw [List.length_set]; exact h.len, fun j hj => ?_, fun j hj => ?_, ?_, fun j hj s hm => ?_⟩
  · rw [getD_set_b, Bool.or_eq_true, decide_eq_true_eq] at hj
    rcases hj with ⟨rfl, _⟩ | hj
    · exact hi
    · exact h.in1 j hj
  · rcases List.mem_append.1 hj with c | c
    · exact h.in2 j (List.mem_append_left _ c)
    · exact .step hi c
  · rcases h.zero with c | c
    · exact .inl (hle 0 c)
    · rcases List.mem_append.1 c with c | c
      · exact .inr (List.mem_append_left _ c)
      · rw [List.mem_singleton.1 c]; exact .inl hii
  · rw [getD_set_b, Bool.or_eq_true, decide_eq_true_eq] at hj
    rcases hj with ⟨rfl, _⟩ | hj
    · exact .inr (List.mem_append_right _ hm)
    · rcases h.on j hj s hm with c | c
      · exact .inl (hle s c)
      · rcases List.mem_append.1 c with c | c
        · exact .inr (List.mem_append_left _ c)
        · rw [List.mem_singleton.1 c]; exact .inl hii
/-- at the end -/
theorem Todo.done {l : List In} {seen : List Bool} (h : Todo l seen []) : ∀ i, seen.getD i false = (gOf l).rB i := by
  intro i
  have hR : ∀ j, (gOf l).R j → seen.getD j false = true := by
    intro j hj
    induction hj with
    | zero => exact h.zero.resolve_right (fun c => by cases c)
    | step _ hs ih => exact (h.on _ ih _ hs).resolve_right (fun c => by cases c)
  cases hv : (gOf l).rB i with
  | true => exact hR i (Fl.Fg.rB_iff.1 hv)
  | false =>
    cases hs : seen.getD i false with
    | false => rfl
    | true => rw [Fl.Fg.rB_iff.2 (h.in1 i hs)] at hv; cases hv
/-- how many are not seen -/
def unseen (seen : List Bool) : Nat := seen.count false
theorem unseen_set : ∀ {seen : List Bool} {i : Nat}, i < seen.length → seen.getD i false = false → unseen (seen.set i true) + 1 = unseen seen
  | [], i, hi, _ => absurd hi (Nat.not_lt_zero _)
  | b :: l, 0, _, h => by
    have e : b = false := by simpa using h
    subst e
    simp [unseen]
  | b :: l, i + 1, hi, h => by
    have := unseen_set (seen := l) (i := i) (by simpa using hi) (by simpa using h)
    unfold unseen at *
    cases b <;> simp <;> omega
end Go.Proofs.Ytlpijnnlmgoihaa
