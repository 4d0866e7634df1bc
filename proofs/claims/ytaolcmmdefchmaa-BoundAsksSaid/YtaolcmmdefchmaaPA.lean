/- Plain facts on known bits (no program): words of 64 bits, what tnums hold, meet, join, range. -/
import Derived.IntWalk
namespace Go.Proofs.Ytaolcmmdefchmaa

abbrev B := BitVec 64
theorem bext {a b : B} (h : ∀ i, i < 64 → a.getLsbD i = b.getLsbD i) : a = b := BitVec.eq_of_getLsbD_eq h
theorem bat {a b : B} (h : a = b) (i : Nat) : a.getLsbD i = b.getLsbD i := by rw [h]
structure Tn where
  v : B
  m : B
deriving DecidableEq
def tin (t : Tn) (x : B) : Bool := x &&& ~~~t.m == t.v
def tcheck (t : Tn) : Bool := t.v &&& t.m == 0#64
def twithin (a b : Tn) : Bool := (b.m &&& ~~~a.m == 0#64) && (b.v &&& ~~~a.m == a.v)
def tof (v m : B) : Tn := ⟨v &&& ~~~m, m⟩
def tmeetT (a b : Tn) : Tn := tof (a.v ||| b.v) (a.m &&& b.m)
def tagree (a b : Tn) : Bool := (a.v ^^^ b.v) &&& ~~~(a.m ||| b.m) == 0#64
def tjoin (a b : Tn) : Tn := tof (a.v &&& b.v) (a.m ||| b.m ||| (a.v ^^^ b.v))
def low32 : B := 4294967295#64
def tlow (t : Tn) : Tn := ⟨t.v &&& low32, t.m &&& low32⟩

theorem tin_bit {t : Tn} {x : B} : tin t x = true ↔ ∀ i, i < 64 → (x.getLsbD i && !t.m.getLsbD i) = t.v.getLsbD i := by
  unfold tin
  rw [beq_iff_eq]
  constructor
  · intro h i hi
    have := bat h i
    simpa [hi] using this
  · intro h
    apply bext
    intro i hi
    simpa [hi] using h i hi
theorem tcheck_bit {t : Tn} : tcheck t = true ↔ ∀ i, i < 64 → (t.v.getLsbD i && t.m.getLsbD i) = false := by
  unfold tcheck
  rw [beq_iff_eq]
  constructor
  · intro h i hi
    have := bat h i
    simpa [hi] using this
  · intro h
    apply bext
    intro i hi
    simpa [hi] using h i hi
theorem twithin_bit {a b : Tn} : twithin a b = true ↔ ∀ i, i < 64 → (b.m.getLsbD i && !a.m.getLsbD i) = false ∧ (b.v.getLsbD i && !a.m.getLsbD i) = a.v.getLsbD i := by
  unfold twithin
  rw [Bool.and_eq_true, beq_iff_eq, beq_iff_eq]
  constructor
  · intro ⟨h1, h2⟩ i hi
    exact ⟨by simpa [hi] using bat h1 i, by simpa [hi] using bat h2 i⟩
  · intro h
    exact ⟨bext fun i hi => by simpa [hi] using (h i hi).1, bext fun i hi => by simpa [hi] using (h i hi).2⟩
theorem tagree_bit {a b : Tn} : tagree a b = true ↔ ∀ i, i < 64 → ((a.v.getLsbD i ^^ b.v.getLsbD i) && !(a.m.getLsbD i || b.m.getLsbD i)) = false := by
  unfold tagree
  rw [beq_iff_eq]
  constructor
  · intro h i hi
    simpa [hi] using bat h i
  · intro h
    exact bext fun i hi => by simpa [hi] using h i hi
theorem tof_v {v m : B} {i : Nat} (hi : i < 64) : (tof v m).v.getLsbD i = (v.getLsbD i && !m.getLsbD i) := by simp [tof, hi]
theorem tof_m {v m : B} {i : Nat} : (tof v m).m.getLsbD i = m.getLsbD i := rfl
theorem tof_check (v m : B) : tcheck (tof v m) = true := tcheck_bit.2 fun i hi => by
  rw [tof_v hi, tof_m]
  cases v.getLsbD i <;> cases m.getLsbD i <;> rfl
theorem tmeet_in {a b : Tn} {x : B} (ha : tcheck a = true) (hb : tcheck b = true) : (tin a x = true ∧ tin b x = true) ↔ (tagree a b = true ∧ tin (tmeetT a b) x = true) := by
  rw [tin_bit, tin_bit, tin_bit, tagree_bit]
  have ha := tcheck_bit.1 ha
  have hb := tcheck_bit.1 hb
  unfold tmeetT
  constructor
  · rintro ⟨h1, h2⟩
    refine ⟨fun i hi => ?_, fun i hi => ?_⟩
    · have a1 := ha i hi; have b1 := hb i hi; have c1 := h1 i hi; have d1 := h2 i hi
      revert a1 b1 c1 d1
      cases x.getLsbD i <;> cases a.v.getLsbD i <;> cases a.m.getLsbD i <;> cases b.v.getLsbD i <;> cases b.m.getLsbD i <;> simp
    · rw [tof_v hi, tof_m, BitVec.getLsbD_and, BitVec.getLsbD_or]
      have a1 := ha i hi; have b1 := hb i hi; have c1 := h1 i hi; have d1 := h2 i hi
      revert a1 b1 c1 d1
      cases x.getLsbD i <;> cases a.v.getLsbD i <;> cases a.m.getLsbD i <;> cases b.v.getLsbD i <;> cases b.m.getLsbD i <;> simp
  · rintro ⟨h1, h2⟩
    refine ⟨fun i hi => ?_, fun i hi => ?_⟩
    · have a1 := ha i hi; have b1 := hb i hi; have c1 := h1 i hi; have d1 := h2 i hi
      rw [tof_v hi, tof_m, BitVec.getLsbD_and, BitVec.getLsbD_or] at d1
      revert a1 b1 c1 d1
      cases x.getLsbD i <;> cases a.v.getLsbD i <;> cases a.m.getLsbD i <;> cases b.v.getLsbD i <;> cases b.m.getLsbD i <;> simp
    · have a1 := ha i hi; have b1 := hb i hi; have c1 := h1 i hi; have d1 := h2 i hi
      rw [tof_v hi, tof_m, BitVec.getLsbD_and, BitVec.getLsbD_or] at d1
      revert a1 b1 c1 d1
      cases x.getLsbD i <;> cases a.v.getLsbD i <;> cases a.m.getLsbD i <;> cases b.v.getLsbD i <;> cases b.m.getLsbD i <;> simp
theorem tjoin_in {a b : Tn} {x : B} (h : tin a x = true ∨ tin b x = true) : tin (tjoin a b) x = true := by
  rw [tin_bit]
  intro i hi
  unfold tjoin
  rw [tof_v hi, tof_m, BitVec.getLsbD_or, BitVec.getLsbD_or, BitVec.getLsbD_xor, BitVec.getLsbD_and]
  rcases h with h | h
  · have h1 := tin_bit.1 h i hi
    revert h1
    cases x.getLsbD i <;> cases a.v.getLsbD i <;> cases a.m.getLsbD i <;> cases b.v.getLsbD i <;> cases b.m.getLsbD i <;> simp
  · have h1 := tin_bit.1 h i hi
    revert h1
    cases x.getLsbD i <;> cases a.v.getLsbD i <;> cases a.m.getLsbD i <;> cases b.v.getLsbD i <;> cases b.m.getLsbD i <;> simp
theorem tjoin_within (a b : Tn) : twithin (tjoin a b) a = true ∧ twithin (tjoin a b) b = true := by
  rw [twithin_bit, twithin_bit]
  unfold tjoin
  refine ⟨fun i hi => ?_, fun i hi => ?_⟩ <;>
  · rw [tof_v hi, tof_m, BitVec.getLsbD_or, BitVec.getLsbD_or, BitVec.getLsbD_xor, BitVec.getLsbD_and]
    cases a.v.getLsbD i <;> cases a.m.getLsbD i <;> cases b.v.getLsbD i <;> cases b.m.getLsbD i <;> simp
theorem twithin_in {a b : Tn} {x : B} (h : twithin a b = true) (hx : tin b x = true) : tin a x = true := by
  rw [tin_bit]
  intro i hi
  have h1 := twithin_bit.1 h i hi
  have h2 := tin_bit.1 hx i hi
  revert h1 h2
  cases x.getLsbD i <;> cases a.v.getLsbD i <;> cases a.m.getLsbD i <;> cases b.v.getLsbD i <;> cases b.m.getLsbD i <;> simp
theorem tlow_in {t : Tn} {x : B} (h : tin t x = true) : tin (tlow t) (x &&& low32) = true := by
  rw [tin_bit]
  intro i hi
  have h2 := tin_bit.1 h i hi
  unfold tlow
  rw [BitVec.getLsbD_and, BitVec.getLsbD_and, BitVec.getLsbD_and]
  revert h2
  cases x.getLsbD i <;> cases t.v.getLsbD i <;> cases t.m.getLsbD i <;> cases low32.getLsbD i <;> simp
theorem tlow_check {t : Tn} (h : tcheck t = true) : tcheck (tlow t) = true := by
  rw [tcheck_bit]
  intro i hi
  have h2 := tcheck_bit.1 h i hi
  unfold tlow
  rw [BitVec.getLsbD_and, BitVec.getLsbD_and]
  revert h2
  cases t.v.getLsbD i <;> cases t.m.getLsbD i <;> cases low32.getLsbD i <;> simp
/-- one word's bits are all another one's: it is no greater -/
theorem sub_le {a b : B} (h : ∀ i, i < 64 → a.getLsbD i = true → b.getLsbD i = true) : a.toNat ≤ b.toNat := by
  have e : a = a &&& b := bext fun i hi => by
    have := h i hi
    simp only [BitVec.getLsbD_and]
    revert this
    cases a.getLsbD i <;> cases b.getLsbD i <;> simp
  rw [e, BitVec.toNat_and]
  exact Nat.and_le_right
theorem tin_le {t : Tn} {x : B} (h : tin t x = true) : t.v.toNat ≤ x.toNat ∧ x.toNat ≤ (t.v ||| t.m).toNat := by
  have hb := tin_bit.1 h
  refine ⟨sub_le fun i hi => ?_, sub_le fun i hi => ?_⟩
  · have := hb i hi
    revert this
    cases x.getLsbD i <;> cases t.v.getLsbD i <;> cases t.m.getLsbD i <;> simp
  · have := hb i hi
    rw [BitVec.getLsbD_or]
    revert this
    cases x.getLsbD i <;> cases t.v.getLsbD i <;> cases t.m.getLsbD i <;> simp
def topB : B := 9223372036854775808#64
def mostB : B := 9223372036854775807#64
def tlo (t : Tn) : B := t.v ||| (t.m &&& topB)
def thi (t : Tn) : B := t.v ||| (t.m &&& mostB)
theorem top_bit {i : Nat} (hi : i < 64) : topB.getLsbD i = decide (i = 63) := by
  have : ∀ i : Fin 64, topB.getLsbD i = decide (i.val = 63) := by decide +kernel
  exact this ⟨i, hi⟩
theorem most_bit {i : Nat} (hi : i < 64) : mostB.getLsbD i = !decide (i = 63) := by
  have : ∀ i : Fin 64, mostB.getLsbD i = !decide (i.val = 63) := by decide +kernel
  exact this ⟨i, hi⟩
/-- a word with its sign -/
theorem toInt_cases (x : B) : (x.getLsbD 63 = false ∧ x.toNat < 9223372036854775808 ∧ x.toInt = x.toNat) ∨ (x.getLsbD 63 = true ∧ 9223372036854775808 ≤ x.toNat ∧ x.toNat < 18446744073709551616 ∧ x.toInt = (x.toNat : Int) - 18446744073709551616) := by
  have hm : x.msb = x.getLsbD 63 := by simp [BitVec.msb_eq_getLsbD_last]
  have hl : x.toNat < 18446744073709551616 := x.isLt
  have h1 := BitVec.msb_eq_decide x
  have h2 := BitVec.toInt_eq_toNat_cond x
  cases hx : x.getLsbD 63
  · left
    rw [hm, hx] at h1
    have : ¬ (9223372036854775808 ≤ x.toNat) := by simpa using h1.symm
    refine ⟨rfl, by omega, ?_⟩
    rw [h2, if_pos (by omega)]
  · right
    rw [hm, hx] at h1
    have : 9223372036854775808 ≤ x.toNat := by simpa using h1.symm
    refine ⟨rfl, this, hl, ?_⟩
    rw [h2, if_neg (by omega)]
    rfl
theorem sle_of {a b : B} (h : a.getLsbD 63 = b.getLsbD 63 ∧ a.toNat ≤ b.toNat ∨ a.getLsbD 63 = true ∧ b.getLsbD 63 = false) : a.toInt ≤ b.toInt := by
  have ha := toInt_cases a
  have hb := toInt_cases b
  rcases h with ⟨h1, h2⟩ | ⟨h1, h2⟩
  · rcases ha with ⟨a1, a2, a3⟩ | ⟨a1, a2, a3, a4⟩ <;> rcases hb with ⟨b1, b2, b3⟩ | ⟨b1, b2, b3, b4⟩
    · omega
    · rw [a1, b1] at h1; cases h1
    · rw [a1, b1] at h1; cases h1
    · omega
  · rcases ha with ⟨a1, a2, a3⟩ | ⟨a1, a2, a3, a4⟩
    · rw [a1] at h1; cases h1
    · rcases hb with ⟨b1, b2, b3⟩ | ⟨b1, b2, b3, b4⟩
      · omega
      · rw [b1] at h2; cases h2
theorem tin_sle {t : Tn} {x : B} (h : tin t x = true) : (tlo t).toInt ≤ x.toInt ∧ x.toInt ≤ (thi t).toInt := by
  have hb := tin_bit.1 h
  have h63 := hb 63 (by omega)
  have l63 : (tlo t).getLsbD 63 = (t.v.getLsbD 63 || t.m.getLsbD 63) := by
    unfold tlo
    rw [BitVec.getLsbD_or, BitVec.getLsbD_and, top_bit (by omega)]
    simp
  have u63 : (thi t).getLsbD 63 = t.v.getLsbD 63 := by
    unfold thi
    rw [BitVec.getLsbD_or, BitVec.getLsbD_and, most_bit (by omega)]
    simp
  refine ⟨sle_of ?_, sle_of ?_⟩
  · rw [l63]
    by_cases hc : (t.v.getLsbD 63 || t.m.getLsbD 63) = x.getLsbD 63
    · refine .inl ⟨hc, sub_le fun i hi => ?_⟩
      have := hb i hi
      unfold tlo
      rw [BitVec.getLsbD_or, BitVec.getLsbD_and, top_bit hi]
      by_cases e : i = 63
      · subst e
        revert this hc
        cases x.getLsbD 63 <;> cases t.v.getLsbD 63 <;> cases t.m.getLsbD 63 <;> simp
      · rw [decide_eq_false e]
        revert this
        cases x.getLsbD i <;> cases t.v.getLsbD i <;> cases t.m.getLsbD i <;> simp
    · refine .inr ?_
      revert h63 hc
      cases x.getLsbD 63 <;> cases t.v.getLsbD 63 <;> cases t.m.getLsbD 63 <;> simp
  · rw [u63]
    by_cases hc : x.getLsbD 63 = t.v.getLsbD 63
    · refine .inl ⟨hc, sub_le fun i hi => ?_⟩
      have := hb i hi
      unfold thi
      rw [BitVec.getLsbD_or, BitVec.getLsbD_and, most_bit hi]
      by_cases e : i = 63
      · subst e
        revert this hc
        cases x.getLsbD 63 <;> cases t.v.getLsbD 63 <;> cases t.m.getLsbD 63 <;> simp
      · rw [decide_eq_false e]
        revert this
        cases x.getLsbD i <;> cases t.v.getLsbD i <;> cases t.m.getLsbD i <;> simp
    · refine .inr ?_
      revert h63 hc
      cases x.getLsbD 63 <;> cases t.v.getLsbD 63 <;> cases t.m.getLsbD 63 <;> simp
/-- as many low bits as a number has -/
def lenN (n : Nat) : Nat := if n = 0 then 0 else Nat.log2 n + 1
def fillN (n : Nat) : Nat := 2 ^ lenN n - 1
def rangeT (a b : B) : Tn := tof a (BitVec.ofNat 64 (fillN (a ^^^ b).toNat))
theorem lenN_lt (n : Nat) : n < 2 ^ lenN n := by
  unfold lenN
  split
  · omega
  · exact Nat.lt_log2_self
theorem lenN_le {n : Nat} (h : n < 18446744073709551616) : lenN n ≤ 64 := by
  unfold lenN
  split
  · omega
  · rename_i h0
    have := (Nat.log2_lt h0 (k := 64)).2 (by simpa using h)
    omega
theorem fill_bit {k i : Nat} (hi : i < 64) : (BitVec.ofNat 64 (2 ^ k - 1)).getLsbD i = decide (i < k) := by
  rw [BitVec.getLsbD_ofNat]
  simp [hi, Nat.testBit_two_pow_sub_one]
theorem range_in {a b x : B} (h1 : a.toNat ≤ x.toNat) (h2 : x.toNat ≤ b.toNat) : tin (rangeT a b) x = true := by
  rw [tin_bit]
  intro i hi
  unfold rangeT fillN
  rw [tof_v hi, tof_m, fill_bit hi]
  by_cases hik : i < lenN (a ^^^ b).toNat
  · simp only [hik, decide_true, Bool.not_true, Bool.and_false]
  · simp only [hik, decide_false, Bool.not_false, Bool.and_true]
    have hx : (a.toNat ^^^ b.toNat) < 2 ^ lenN (a ^^^ b).toNat := by
      have := lenN_lt (a ^^^ b).toNat
      rwa [BitVec.toNat_xor] at this ⊢
    generalize lenN (a ^^^ b).toNat = k at *
    have e1 : a.toNat / 2 ^ k = b.toNat / 2 ^ k := by
      have : (a.toNat ^^^ b.toNat) >>> k = 0 := by rw [Nat.shiftRight_eq_div_pow]; exact Nat.div_eq_of_lt hx
      rw [Nat.shiftRight_xor_distrib] at this
      have e : a.toNat >>> k = b.toNat >>> k := Nat.eq_of_testBit_eq fun j => by
        have h := congrArg (Nat.testBit · j) this
        simp only [Nat.testBit_xor, Nat.zero_testBit] at h
        revert h
        cases (a.toNat >>> k).testBit j <;> cases (b.toNat >>> k).testBit j <;> simp
      rw [Nat.shiftRight_eq_div_pow, Nat.shiftRight_eq_div_pow] at e
      exact e
    have e2 : x.toNat / 2 ^ k = a.toNat / 2 ^ k := by
      have l1 := Nat.div_le_div_right (c := 2 ^ k) h1
      have l2 := Nat.div_le_div_right (c := 2 ^ k) h2
      omega
    have t : ∀ y : B, y.getLsbD i = (y.toNat / 2 ^ k).testBit (i - k) := fun y => by
      rw [← Nat.shiftRight_eq_div_pow, Nat.testBit_shiftRight]
      show y.toNat.testBit i = _
      congr 1
      omega
    rw [t x, t a, e2]
end Go.Proofs.Ytaolcmmdefchmaa
