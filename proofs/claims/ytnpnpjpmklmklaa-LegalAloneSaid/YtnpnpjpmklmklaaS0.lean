/- Plain facts on places, on where one may go on, and on which programs may be. -/
import Derived.Test.YtnpnpjpmklmklaaM2
namespace Go.Proofs.Ytnpnpjpmklmklaa
open Go.RowKit M

def placeB (l : List In) (i : Int) : Bool := decide (0 ≤ i ∧ i < l.length) && !holeB l i
theorem placeB_true {l : List In} {i : Int} : placeB l i = true ↔ (0 ≤ i ∧ i < l.length) ∧ holeB l i = false := by
  unfold placeB; simp
def wrI (n : Int) : Int := IntKind.i64.wrap n
def nexts (x : In) (i : Int) : List Int :=
  if x.op = 149 then [] else if x.op = 5 then [wrI (i + 1 + x.off)] else if x.op = 24 then [i + 2] else if jmpB x.op = true then [i + 1, wrI (i + 1 + x.off)] else [i + 1]
def succL (l : List In) (i : Int) : List Int := if placeB l i = true then nexts (l.getD i.toNat z) i else []
theorem nexts_le (x : In) (i : Int) : (nexts x i).length ≤ 2 := by
  unfold nexts
  repeat' split
  all_goals simp
theorem succL_le (l : List In) (i : Int) : (succL l i).length ≤ 2 := by
  unfold succL
  split
  · exact nexts_le _ _
  · simp
def blankB (l : List In) (i : Int) : Bool := decide (i < l.length) && eqB (l.getD i.toNat z) z
def wideOk (l : List In) (i : Nat) : Bool := !((l.getD i z).op == 24) || blankB l ((i : Int) + 1)
def mayB (l : List In) (i : Nat) : Bool := (insB (l.getD i z) && wideOk l i) && (succL l i).all (placeB l)
def badI (l : List In) (i : Nat) : Bool := !holeB l i && !mayB l i
def checkS (l : List In) : Int × Int :=
  if 4096 < l.length then (0, 31) else if l.length = 0 then (0, 40) else
    match (List.range l.length).find? (badI l) with
    | some i => ((i : Int), 40)
    | none => (0, 0)
theorem check_bad {l : List In} {k : Nat} (h1 : l.length ≤ 4096) (hk : k < l.length) (hb : badI l k = true) (hj : ∀ j, j < k → badI l j = false) : checkS l = ((k : Int), 40) := by
  have hf : (List.range l.length).find? (badI l) = some k := by
    rw [List.find?_range_eq_some]
    exact ⟨hb, List.mem_range.2 hk, fun j h => by rw [hj j h]; rfl⟩
  unfold checkS
  rw [if_neg (by omega), if_neg (by omega), hf]
theorem check_good {l : List In} (h1 : l.length ≤ 4096) (h0 : ¬ l.length = 0) (hj : ∀ j, j < l.length → badI l j = false) : checkS l = (0, 0) := by
  have hf : (List.range l.length).find? (badI l) = none := by
    rw [List.find?_eq_none]
    intro j h
    rw [hj j (List.mem_range.1 h)]
    simp
  unfold checkS
  rw [if_neg (by omega), if_neg h0, hf]
theorem check_ok {l : List In} (h : (checkS l).2 = 0) : l.length ≤ 4096 ∧ ¬ l.length = 0 ∧ ∀ j, j < l.length → badI l j = false := by
  unfold checkS at h
  split at h
  · simp at h
  · split at h
    · simp at h
    · split at h
      · simp at h
      · rename_i h1 h0 _ hf
        rw [List.find?_eq_none] at hf
        refine ⟨by omega, h0, fun j hj => ?_⟩
        have := hf j (List.mem_range.2 hj)
        simpa using this
theorem holeB_nat {l : List In} {i : Nat} (hi : i < l.length) : holeB l (i : Int) = hR (opL l) i := by
  unfold holeB
  rw [decide_eq_true ⟨by omega, by omega⟩, Bool.true_and, Int.toNat_natCast]
theorem may_place {l : List In} (h : ∀ j, j < l.length → badI l j = false) {i : Int} (hp : placeB l i = true) : ∀ n ∈ succL l i, placeB l n = true := by
  obtain ⟨⟨h0, h1⟩, hh⟩ := placeB_true.1 hp
  obtain ⟨j, rfl⟩ := Int.eq_ofNat_of_zero_le h0
  have hb := h j (by omega)
  unfold badI at hb
  rw [hh] at hb
  have hm : mayB l j = true := by simpa using hb
  unfold mayB at hm
  rw [Bool.and_eq_true] at hm
  intro n hn
  exact List.all_eq_true.1 hm.2 n hn
theorem next_none {l : List In} {i : Int} (hp : placeB l i = true) (h : (succL l i).length = 0) : (l.getD i.toNat z).op = 149 := by
  unfold succL at h
  rw [if_pos hp] at h
  unfold nexts at h
  repeat' split at h
  all_goals simp at h
  assumption
end Go.Proofs.Ytnpnpjpmklmklaa
