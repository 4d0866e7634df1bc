/- Plain facts on bounds (no program): what is cut; known numbers. -/
import Derived.Test.YtaolcmmdefchmaaPB
namespace Go.Proofs.Ytaolcmmdefchmaa

theorem tidyB_uh (b : Bd) : (tidyB b).uh.toNat ≤ b.uh.toNat := umin_le.1
theorem tidyS_uh (b : Bd) : (tidyS b).uh.toNat ≤ b.uh.toNat := by
  unfold tidyS
  split
  · exact umin_le.1
  · rename_i h1
    split
    · rename_i h2
      have d1 := two b.uh
      have d2 := two b.sh
      show (smin b.sh b.uh).toNat ≤ _
      unfold smin
      split <;> omega
    · split <;> exact Nat.le_refl _
theorem tidy1_uh {a b : Bd} (h : tidy1 a = some b) : b.uh.toNat ≤ a.uh.toNat := by
  unfold tidy1 at h
  by_cases h1 : bgood (tidyB a) = false
  · rw [if_pos h1] at h; cases h
  rw [if_neg h1] at h
  by_cases h2 : tagree (tidyS (tidyB a)).t (rangeT (tidyS (tidyB a)).ul (tidyS (tidyB a)).uh) = false ∨ bgood (tidyS (tidyB a)) = false
  · rw [if_pos h2] at h; cases h
  rw [if_neg h2] at h
  injection h with h
  subst h
  exact Nat.le_trans (tidyS_uh _) (tidyB_uh _)
theorem tidy_uh {a b : Bd} (h : tidy a = some b) : b.uh.toNat ≤ a.uh.toNat := by
  unfold tidy at h
  cases h1 : tidy1 a with
  | none => rw [h1] at h; cases h
  | some c =>
    rw [h1] at h
    exact Nat.le_trans (tidy1_uh h) (tidy1_uh h1)
theorem low_le (x : B) : (x &&& low32).toNat ≤ 4294967295 := by
  rw [BitVec.toNat_and]
  exact Nat.and_le_right
theorem low_same {x : B} (h : x.toNat ≤ 4294967295) : x &&& low32 = x := by
  apply BitVec.eq_of_toNat_eq
  rw [BitVec.toNat_and]
  show x.toNat &&& (2 ^ 32 - 1) = _
  rw [Nat.and_two_pow_sub_one_eq_mod]
  exact Nat.mod_eq_of_lt (by omega)
theorem low_toInt (x : B) : (x &&& low32).toInt = ((x &&& low32).toNat : Int) := by
  have := low_le x
  rcases two (x &&& low32) with h | h
  · exact h.2
  · omega
/-- a number's lowest 32 bits are in what is cut -/
theorem blow_in {b : Bd} {x : B} (hb : bcheck b = true) (hx : bin b x = true) : bin (blow b) (x &&& low32) = true ∧ (blow b).uh.toNat ≤ 4294967295 := by
  have h := bin_iff.1 hx
  have ht := (bcheck_iff.1 hb).2
  unfold blow
  split
  · rename_i h1
    rw [low_same (by omega)]
    exact ⟨hx, h1⟩
  · have e : bin { bupto low32 with t := tlow b.t } (x &&& low32) = true := by
      rw [bin_iff]
      have := low_le x
      have h2 := low_toInt x
      refine ⟨⟨⟨Nat.zero_le _, this⟩, ?_, ?_⟩, tlow_in h.2⟩
      · show (0 : Int) ≤ _
        omega
      · show _ ≤ (4294967295 : Int)
        omega
    have tt : tcheck ({ bupto low32 with t := tlow b.t } : Bd).t = true := tlow_check ht
    cases hd : tidy { bupto low32 with t := tlow b.t } with
    | none => rw [tidy_none tt hd] at e; cases e
    | some m =>
      refine ⟨?_, ?_⟩
      · show bin m _ = true
        rw [(tidy_some tt hd).2]
        exact e
      · exact tidy_uh hd
theorem and_all (x : B) : x &&& 18446744073709551615#64 = x := by
  have : (18446744073709551615#64 : B) = BitVec.allOnes 64 := by decide +kernel
  rw [this, BitVec.and_allOnes]
/-- known numbers -/
def bvalue (b : Bd) : B × Bool := if b.ul = b.uh then (b.ul, true) else (0#64, false)
theorem umax_self (x : B) : umax x x = x := by simp [umax]
theorem umin_self (x : B) : umin x x = x := by simp [umin]
theorem smax_self (x : B) : smax x x = x := by simp [smax]
theorem smin_self (x : B) : smin x x = x := by simp [smin]
theorem range_self (x : B) : rangeT x x = ⟨x, 0#64⟩ := by
  simp [rangeT, tof, fillN, lenN, and_all]
theorem tidy1_const (x : B) : tidy1 (bconst x) = some (bconst x) := by
  have e1 : tidyB (bconst x) = bconst x := by
    simp [tidyB, bconst, umax_self, umin_self, smax_self, smin_self, tlo, thi]
  have e2 : tidyS (bconst x) = bconst x := by
    unfold tidyS
    rw [if_pos (show 0 ≤ (bconst x).sl.toInt ∨ (bconst x).sh.toInt < 0 by show 0 ≤ x.toInt ∨ x.toInt < 0; omega)]
    simp [bconst, umax_self, umin_self]
  have e3 : bgood (bconst x) = true := by simp [bgood, bconst]
  have e4 : tagree (bconst x).t (rangeT (bconst x).ul (bconst x).uh) = true := by simp [bconst, range_self, tagree]
  unfold tidy1
  rw [e1, e2, if_neg (by rw [e3]; simp), if_neg (by rw [e3, e4]; simp)]
  simp [tidyR, bconst, range_self, tmeetT, tof, and_all]
theorem tidy_const (x : B) : tidy (bconst x) = some (bconst x) := by
  unfold tidy
  rw [tidy1_const]
  exact tidy1_const x
theorem const_in (x y : B) : bin (bconst x) y = (x == y) := by
  rw [Bool.eq_iff_iff, bin_iff, beq_iff_eq]
  constructor
  · rintro ⟨⟨⟨h1, h2⟩, _⟩, _⟩
    exact BitVec.eq_of_toNat_eq (Nat.le_antisymm h1 h2)
  · rintro rfl
    exact ⟨⟨⟨Nat.le_refl _, Nat.le_refl _⟩, Int.le_refl _, Int.le_refl _⟩, by simp [bconst, tin, and_all]⟩
theorem top_int (x : B) : topB.toInt ≤ x.toInt ∧ x.toInt ≤ mostB.toInt := by
  have e1 : topB.toInt = -9223372036854775808 := by decide +kernel
  have e2 : mostB.toInt = 9223372036854775807 := by decide +kernel
  rw [e1, e2]
  have := two x
  omega
theorem any_within (x : B) : bwithin bany (bconst x) = true := by
  have h := top_int x
  have hl : x.toNat ≤ 18446744073709551615 := by have := x.isLt; omega
  unfold bwithin uinB sinB
  simp only [Bool.and_eq_true, decide_eq_true_eq]
  refine ⟨⟨⟨⟨⟨Nat.zero_le _, hl⟩, Nat.zero_le _, hl⟩, h⟩, h⟩, ?_⟩
  rw [twithin_bit]
  intro i hi
  have : ∀ i : Fin 64, banyT.m.getLsbD i = true := by decide +kernel
  have hm : bany.t.m.getLsbD i = true := this ⟨i, hi⟩
  rw [hm]
  simp [bany, banyT]
theorem join_const (x : B) : bjoin (bconst x) (bconst x) = bconst x := by
  simp [bjoin, bconst, umin_self, umax_self, smin_self, smax_self, tjoin, tof, and_all]
/-- all numbers, but from x to x -/
def bone (x : B) : Bd := { bany with ul := x, uh := x }
theorem smax_top (x : B) : smax topB x = x := by
  have := (top_int x).1
  unfold smax
  split
  · rfl
  · exact BitVec.eq_of_toInt_eq (by omega)
theorem smin_most (x : B) : smin mostB x = x := by
  have := (top_int x).2
  unfold smin
  split
  · rfl
  · exact BitVec.eq_of_toInt_eq (by omega)
theorem tidy1_one (x : B) : tidy1 (bone x) = some (bconst x) := by
  have e1 : tidyB (bone x) = bone x := by
    have l1 : tlo banyT = topB := by decide +kernel
    have l2 : thi banyT = mostB := by decide +kernel
    have l3 : (banyT.v ||| banyT.m) = 18446744073709551615#64 := by decide +kernel
    have u1 : umax x 0#64 = x := by unfold umax; rw [if_neg (by simp)]
    have u2 : umin x 18446744073709551615#64 = x := by unfold umin; rw [if_neg (by have := x.isLt; simp; omega)]
    show (⟨umax x 0#64, umin x (banyT.v ||| banyT.m), smax topB (tlo banyT), smin mostB (thi banyT), banyT⟩ : Bd) = _
    rw [l1, l2, l3, u1, u2, smax_self, smin_self]
    rfl
  have e2 : tidyS (bone x) = { bconst x with t := banyT } := by
    unfold tidyS
    have n1 : ¬ (0 ≤ (bone x).sl.toInt ∨ (bone x).sh.toInt < 0) := by
      have a : (bone x).sl.toInt = -9223372036854775808 := by show topB.toInt = _; decide +kernel
      have b : (bone x).sh.toInt = 9223372036854775807 := by show mostB.toInt = _; decide +kernel
      omega
    rw [if_neg n1]
    show (if 0 ≤ x.toInt then (⟨x, smin mostB x, x, smin mostB x, banyT⟩ : Bd) else if x.toInt < 0 then ⟨smax topB x, x, smax topB x, x, banyT⟩ else bone x) = _
    rw [smin_most, smax_top]
    split
    · rfl
    · rw [if_pos (by omega)]; rfl
  have e3 : bgood (bone x) = true := by
    rw [bgood_iff]
    exact ⟨Nat.le_refl _, (top_int topB).2⟩
  have e4 : bgood { bconst x with t := banyT } = true := by rw [bgood_iff]; exact ⟨Nat.le_refl _, Int.le_refl _⟩
  have hm : ∀ i, i < 64 → banyT.m.getLsbD i = true := fun i hi => by
    have : ∀ i : Fin 64, banyT.m.getLsbD i = true := by decide +kernel
    exact this ⟨i, hi⟩
  have e5 : tagree banyT (rangeT x x) = true := by
    rw [tagree_bit]
    intro i hi
    rw [hm i hi]
    simp
  have e6 : tmeetT banyT ⟨x, 0#64⟩ = ⟨x, 0#64⟩ := by
    simp [tmeetT, tof, banyT, and_all]
  unfold tidy1
  rw [e1, e2, if_neg (by rw [e3]; simp), if_neg (by rw [e4]; show ¬ (tagree banyT (rangeT x x) = false ∨ _); rw [e5]; simp)]
  show some ({ bconst x with t := tmeetT banyT (rangeT x x) } : Bd) = _
  rw [range_self, e6]
  rfl
theorem tidy_one (x : B) : tidy (bone x) = some (bconst x) := by
  unfold tidy
  rw [tidy1_one]
  exact tidy1_const x
/-- what the laws ask at any rate -/
theorem heads8 : tidy ⟨0#64, 5#64, 18446744073709551613#64, 9#64, banyT⟩ = some ⟨0#64, 5#64, 0#64, 5#64, ⟨0#64, 7#64⟩⟩ ∧ bmeet (bconst 1#64) (bconst 2#64) = none ∧ bin (bupto 255#64) 255#64 = true ∧ bin (bupto 255#64) 256#64 = false := by
  decide +kernel
end Go.Proofs.Ytaolcmmdefchmaa
