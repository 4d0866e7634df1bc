/- Plain facts on known bits (no program): words of 64 bits, what tnums hold, meet, join, range. -/
import Derived.IntWalk

/- Plain facts on known bits (no program): words of 64 bits, what tnums hold, meet, join, range. -/
namespace Go.Proofs.Ytdipmlamjjpcoaa

abbrev B := BitVec 64
theorem bext {a b : B} (h : ∀ i, i < 64 → a.getLsbD i = b.getLsbD i) : a = b := BitVec.eq_of_getLsbD_eq h
theorem bat {a b : B} (h : a = b) (i : Nat) : a.getLsbD i = b.getLsbD i := by rw [h]
structure Tn where
  v : B
  m : B
deriving DecidableEq
def tin (t : Tn) (x : B) : Bool := x &&& ~~~t.m == t.v
def tcheck (t : Tn) : Bool := t.v &&& t.m == 0#64
def twithin (a b : Tn) : Bool := (b.m &&& ~~~a.m == 0#64) && (b.v &&& ~~~a.m == a.v)
def tof (v m : B) : Tn := ⟨v &&& ~~~m, m⟩
def tmeetT (a b : Tn) : Tn := tof (a.v ||| b.v) (a.m &&& b.m)
def tagree (a b : Tn) : Bool := (a.v ^^^ b.v) &&& ~~~(a.m ||| b.m) == 0#64
def tjoin (a b : Tn) : Tn := tof (a.v &&& b.v) (a.m ||| b.m ||| (a.v ^^^ b.v))
def low32 : B := 4294967295#64
def tlow (t : Tn) : Tn := ⟨t.v &&& low32, t.m &&& low32⟩

theorem tin_bit {t : Tn} {x : B} : tin t x = true ↔ ∀ i, i < 64 → (x.getLsbD i && !t.m.getLsbD i) = t.v.getLsbD i := by
  unfold tin
  rw [beq_iff_eq]
  constructor
  · intro h i hi
    have := bat h i
    simpa [hi] using this
  · intro h
    apply bext
    intro i hi
    simpa [hi] using h i hi
theorem tcheck_bit {t : Tn} : tcheck t = true ↔ ∀ i, i < 64 → (t.v.getLsbD i && t.m.getLsbD i) = false := by
  unfold tcheck
  rw [beq_iff_eq]
  constructor
  · intro h i hi
    have := bat h i
    simpa [hi] using this
  · intro h
    apply bext
    intro i hi
    simpa [hi] using h i hi
theorem twithin_bit {a b : Tn} : twithin a b = true ↔ ∀ i, i < 64 → (b.m.getLsbD i && !a.m.getLsbD i) = false ∧ (b.v.getLsbD i && !a.m.getLsbD i) = a.v.getLsbD i := by
  unfold twithin
  rw [Bool.and_eq_true, beq_iff_eq, beq_iff_eq]
  constructor
  · intro ⟨h1, h2⟩ i hi
    exact ⟨by simpa [hi] using bat h1 i, by simpa [hi] using bat h2 i⟩
  · intro h
    exact ⟨bext fun i hi => by simpa [hi] using (h i hi).1, bext fun i hi => by simpa [hi] using (h i hi).2⟩
theorem tagree_bit {a b : Tn} : tagree a b = true ↔ ∀ i, i < 64 → ((a.v.getLsbD i ^^ b.v.getLsbD i) && !(a.m.getLsbD i || b.m.getLsbD i)) = false := by
  unfold tagree
  rw [beq_iff_eq]
  constructor
  · intro h i hi
    simpa [hi] using bat h i
  · intro h
    exact bext fun i hi => by simpa [hi] using h i hi
theorem tof_v {v m : B} {i : Nat} (hi : i < 64) : (tof v m).v.getLsbD i = (v.getLsbD i && !m.getLsbD i) := by simp [tof, hi]
theorem tof_m {v m : B} {i : Nat} : (tof v m).m.getLsbD i = m.getLsbD i := rfl
theorem tof_check (v m : B) : tcheck (tof v m) = true := tcheck_bit.2 fun i hi => by
  rw [tof_v hi, tof_m]
  cases v.getLsbD i <;> cases m.getLsbD i <;> rfl
theorem tmeet_in {a b : Tn} {x : B} (ha : tcheck a = true) (hb : tcheck b = true) : (tin a x = true ∧ tin b x = true) ↔ (tagree a b = true ∧ tin (tmeetT a b) x = true) := by
  rw [tin_bit, tin_bit, tin_bit, tagree_bit]
  have ha := tcheck_bit.1 ha
  have hb := tcheck_bit.1 hb
  unfold tmeetT
  constructor
  · rintro ⟨h1, h2⟩
    refine ⟨fun i hi => ?_, fun i hi => ?_⟩
    · have a1 := ha i hi; have b1 := hb i hi; have c1 := h1 i hi; have d1 := h2 i hi
      revert a1 b1 c1 d1
      cases x.getLsbD i <;> cases a.v.getLsbD i <;> cases a.m.getLsbD i <;> cases b.v.getLsbD i <;> cases b.m.getLsbD i <;> simp
    · rw [tof_v hi, tof_m, BitVec.getLsbD_and, BitVec.getLsbD_or]
      have a1 := ha i hi; have b1 := hb i hi; have c1 := h1 i hi; have d1 := h2 i hi
      revert a1 b1 c1 d1
      cases x.getLsbD i <;> cases a.v.getLsbD i <;> cases a.m.getLsbD i <;> cases b.v.getLsbD i <;> cases b.m.getLsbD i <;> simp
  · rintro ⟨h1, h2⟩
    refine ⟨fun i hi => ?_, fun i hi => ?_⟩
    · have a1 := ha i hi; have b1 := hb i hi; have c1 := h1 i hi; have d1 := h2 i hi
      rw [tof_v hi, tof_m, BitVec.getLsbD_and, BitVec.getLsbD_or] at d1
      revert a1 b1 c1 d1
      cases x.getLsbD i <;> cases a.v.getLsbD i <;> cases a.m.getLsbD i <;> cases b.v.getLsbD i <;> cases b.m.getLsbD i <;> simp
    · have a1 := ha i hi; have b1 := hb i hi; have c1 := h1 i hi; have d1 := h2 i hi
      rw [tof_v hi, tof_m, BitVec.getLsbD_and, BitVec.getLsbD_or] at d1
      revert a1 b1 c1 d1
      cases x.getLsbD i <;> cases a.v.getLsbD i <;> cases a.m.getLsbD i <;> cases b.v.getLsbD i <;> cases b.m.getLsbD i <;> simp
theorem tjoin_in {a b : Tn} {x : B} (h : tin a x = true ∨ tin b x = true) : tin (tjoin a b) x = true := by
  rw [tin_bit]
  intro i hi
  unfold tjoin
  rw [tof_v hi, tof_m, BitVec.getLsbD_or, BitVec.getLsbD_or, BitVec.getLsbD_xor, BitVec.getLsbD_and]
  rcases h with h | h
  · have h1 := tin_bit.1 h i hi
    revert h1
    cases x.getLsbD i <;> cases a.v.getLsbD i <;> cases a.m.getLsbD i <;> cases b.v.getLsbD i <;> cases b.m.getLsbD i <;> simp
  · have h1 := tin_bit.1 h i hi
    revert h1
    cases x.getLsbD i <;> cases a.v.getLsbD i <;> cases a.m.getLsbD i <;> cases b.v.getLsbD i <;> cases b.m.getLsbD i <;> simp
theorem tjoin_within (a b : Tn) : twithin (tjoin a b) a = true ∧ twithin (tjoin a b) b = true := by
  rw [twithin_bit, twithin_bit]
  unfold tjoin
  refine ⟨fun i hi => ?_, fun i hi => ?_⟩ <;>
  · rw [tof_v hi, tof_m, BitVec.getLsbD_or, BitVec.getLsbD_or, BitVec.getLsbD_xor, BitVec.getLsbD_and]
    cases a.v.getLsbD i <;> cases a.m.getLsbD i <;> cases b.v.getLsbD i <;> cases b.m.getLsbD i <;> simp
theorem twithin_in {a b : Tn} {x : B} (h : twithin a b = true) (hx : tin b x = true) : tin a x = true := by
  rw [tin_bit]
  intro i hi
  have h1 := twithin_bit.1 h i hi
  have h2 := tin_bit.1 hx i hi
  revert h1 h2
  cases x.getLsbD i <;> cases a.v.getLsbD i <;> cases a.m.getLsbD i <;> cases b.v.getLsbD i <;> cases b.m.getLsbD i <;> simp
theorem tlow_in {t : Tn} {x : B} (h : tin t x = true) : tin (tlow t) (x &&& low32) = true := by
  rw [tin_bit]
  intro i hi
  have h2 := tin_bit.1 h i hi
  unfold tlow
  rw [BitVec.getLsbD_and, BitVec.getLsbD_and, BitVec.getLsbD_and]
  revert h2
  cases x.getLsbD i <;> cases t.v.getLsbD i <;> cases t.m.getLsbD i <;> cases low32.getLsbD i <;> simp
theorem tlow_check {t : Tn} (h : tcheck t = true) : tcheck (tlow t) = true := by
  rw [tcheck_bit]
  intro i hi
  have h2 := tcheck_bit.1 h i hi
  unfold tlow
  rw [BitVec.getLsbD_and, BitVec.getLsbD_and]
  revert h2
  cases t.v.getLsbD i <;> cases t.m.getLsbD i <;> cases low32.getLsbD i <;> simp
/-- one word's bits are all another one's: it is no greater -/
theorem sub_le {a b : B} (h : ∀ i, i < 64 → a.getLsbD i = true → b.getLsbD i = true) : a.toNat ≤ b.toNat := by
  have e : a = a &&& b := bext fun i hi => by
    have := h i hi
    simp only [BitVec.getLsbD_and]
    revert this
    cases a.getLsbD i <;> cases b.getLsbD i <;> simp
  rw [e, BitVec.toNat_and]
  exact Nat.and_le_right
theorem tin_le {t : Tn} {x : B} (h : tin t x = true) : t.v.toNat ≤ x.toNat ∧ x.toNat ≤ (t.v ||| t.m).toNat := by
  have hb := tin_bit.1 h
  refine ⟨sub_le fun i hi => ?_, sub_le fun i hi => ?_⟩
  · have := hb i hi
    revert this
    cases x.getLsbD i <;> cases t.v.getLsbD i <;> cases t.m.getLsbD i <;> simp
  · have := hb i hi
    rw [BitVec.getLsbD_or]
    revert this
    cases x.getLsbD i <;> cases t.v.getLsbD i <;> cases t.m.getLsbD i <;> simp
def topB : B := 9223372036854775808#64
def mostB : B := 9223372036854775807#64
def tlo (t : Tn) : B := t.v ||| (t.m &&& topB)
def thi (t : Tn) : B := t.v ||| (t.m &&& mostB)
theorem top_bit {i : Nat} (hi : i < 64) : topB.getLsbD i = decide (i = 63) := by
  have : ∀ i : Fin 64, topB.getLsbD i = decide (i.val = 63) := by decide +kernel
  exact this ⟨i, hi⟩
theorem most_bit {i : Nat} (hi : i < 64) : mostB.getLsbD i = !decide (i = 63) := by
  have : ∀ i : Fin 64, mostB.getLsbD i = !decide (i.val = 63) := by decide +kernel
  exact this ⟨i, hi⟩
/-- a word with its sign -/
theorem toInt_cases (x : B) : (x.getLsbD 63 = false ∧ x.toNat < 9223372036854775808 ∧ x.toInt = x.toNat) ∨ (x.getLsbD 63 = true ∧ 9223372036854775808 ≤ x.toNat ∧ x.toNat < 18446744073709551616 ∧ x.toInt = (x.toNat : Int) - 18446744073709551616) := by
  have hm : x.msb = x.getLsbD 63 := by simp [BitVec.msb_eq_getLsbD_last]
  have hl : x.toNat < 18446744073709551616 := x.isLt
  have h1 := BitVec.msb_eq_decide x
  have h2 := BitVec.toInt_eq_toNat_cond x
  cases hx : x.getLsbD 63
  · left
    rw [hm, hx] at h1
    have : ¬ (9223372036854775808 ≤ x.toNat) := by simpa using h1.symm
    refine ⟨rfl, by omega, ?_⟩
    rw [h2, if_pos (by omega)]
  · right
    rw [hm, hx] at h1
    have : 9223372036854775808 ≤ x.toNat := by simpa using h1.symm
    refine ⟨rfl, this, hl, ?_⟩
    rw [h2, if_neg (by omega)]
    rfl
theorem sle_of {a b : B} (h : a.getLsbD 63 = b.getLsbD 63 ∧ a.toNat ≤ b.toNat ∨ a.getLsbD 63 = true ∧ b.getLsbD 63 = false) : a.toInt ≤ b.toInt := by
  have ha := toInt_cases a
  have hb := toInt_cases b
  rcases h with ⟨h1, h2⟩ | ⟨h1, h2⟩
  · rcases ha with ⟨a1, a2, a3⟩ | ⟨a1, a2, a3, a4⟩ <;> rcases hb with ⟨b1, b2, b3⟩ | ⟨b1, b2, b3, b4⟩
    · omega
    · rw [a1, b1] at h1; cases h1
    · rw [a1, b1] at h1; cases h1
    · omega
  · rcases ha with ⟨a1, a2, a3⟩ | ⟨a1, a2, a3, a4⟩
    · rw [a1] at h1; cases h1
    · rcases hb with ⟨b1, b2, b3⟩ | ⟨b1, b2, b3, b4⟩
      · omega
      · rw [b1] at h2; cases h2
theorem tin_sle {t : Tn} {x : B} (h : tin t x = true) : (tlo t).toInt ≤ x.toInt ∧ x.toInt ≤ (thi t).toInt := by
  have hb := tin_bit.1 h
  have h63 := hb 63 (by omega)
  have l63 : (tlo t).getLsbD 63 = (t.v.getLsbD 63 || t.m.getLsbD 63) := by
    unfold tlo
    rw [BitVec.getLsbD_or, BitVec.getLsbD_and, top_bit (by omega)]
    simp
  have u63 : (thi t).getLsbD 63 = t.v.getLsbD 63 := by
    unfold thi
    rw [BitVec.getLsbD_or, BitVec.getLsbD_and, most_bit (by omega)]
    simp
  refine ⟨sle_of ?_, sle_of ?_⟩
  · rw [l63]
    by_cases hc : (t.v.getLsbD 63 || t.m.getLsbD 63) = x.getLsbD 63
    · refine .inl ⟨hc, sub_le fun i hi => ?_⟩
      have := hb i hi
      unfold tlo
      rw [BitVec.getLsbD_or, BitVec.getLsbD_and, top_bit hi]
      by_cases e : i = 63
      · subst e
        revert this hc
        cases x.getLsbD 63 <;> cases t.v.getLsbD 63 <;> cases t.m.getLsbD 63 <;> simp
      · rw [decide_eq_false e]
        revert this
        cases x.getLsbD i <;> cases t.v.getLsbD i <;> cases t.m.getLsbD i <;> simp
    · refine .inr ?_
      revert h63 hc
      cases x.getLsbD 63 <;> cases t.v.getLsbD 63 <;> cases t.m.getLsbD 63 <;> simp
  · rw [u63]
    by_cases hc : x.getLsbD 63 = t.v.getLsbD 63
    · refine .inl ⟨hc, sub_le fun i hi => ?_⟩
      have := hb i hi
      unfold thi
      rw [BitVec.getLsbD_or, BitVec.getLsbD_and, most_bit hi]
      by_cases e : i = 63
      · subst e
        revert this hc
        cases x.getLsbD 63 <;> cases t.v.getLsbD 63 <;> cases t.m.getLsbD 63 <;> simp
      · rw [decide_eq_false e]
        revert this
        cases x.getLsbD i <;> cases t.v.getLsbD i <;> cases t.m.getLsbD i <;> simp
    · refine .inr ?_
      revert h63 hc
      cases x.getLsbD 63 <;> cases t.v.getLsbD 63 <;> cases t.m.getLsbD 63 <;> simp
/-- as many low bits as a number has -/
def lenN (n : Nat) : Nat := if n = 0 then 0 else Nat.log2 n + 1
def fillN (n : Nat) : Nat := 2 ^ lenN n - 1
def rangeT (a b : B) : Tn := tof a (BitVec.ofNat 64 (fillN (a ^^^ b).toNat))
theorem lenN_lt (n : Nat) : n < 2 ^ lenN n := by
  unfold lenN
  split
  · omega
  · exact Nat.lt_log2_self
theorem lenN_le {n : Nat} (h : n < 18446744073709551616) : lenN n ≤ 64 := by
  unfold lenN
  split
  · omega
  · rename_i h0
    have := (Nat.log2_lt h0 (k := 64)).2 (by simpa using h)
    omega
theorem fill_bit {k i : Nat} (hi : i < 64) : (BitVec.ofNat 64 (2 ^ k - 1)).getLsbD i = decide (i < k) := by
  rw [BitVec.getLsbD_ofNat]
  simp [hi, Nat.testBit_two_pow_sub_one]
theorem range_in {a b x : B} (h1 : a.toNat ≤ x.toNat) (h2 : x.toNat ≤ b.toNat) : tin (rangeT a b) x = true := by
  rw [tin_bit]
  intro i hi
  unfold rangeT fillN
  rw [tof_v hi, tof_m, fill_bit hi]
  by_cases hik : i < lenN (a ^^^ b).toNat
  · simp only [hik, decide_true, Bool.not_true, Bool.and_false]
  · simp only [hik, decide_false, Bool.not_false, Bool.and_true]
    have hx : (a.toNat ^^^ b.toNat) < 2 ^ lenN (a ^^^ b).toNat := by
      have := lenN_lt (a ^^^ b).toNat
      rwa [BitVec.toNat_xor] at this ⊢
    generalize lenN (a ^^^ b).toNat = k at *
    have e1 : a.toNat / 2 ^ k = b.toNat / 2 ^ k := by
      have : (a.toNat ^^^ b.toNat) >>> k = 0 := by rw [Nat.shiftRight_eq_div_pow]; exact Nat.div_eq_of_lt hx
      rw [Nat.shiftRight_xor_distrib] at this
      have e : a.toNat >>> k = b.toNat >>> k := Nat.eq_of_testBit_eq fun j => by
        have h := congrArg (Nat.testBit · j) this
        simp only [Nat.testBit_xor, Nat.zero_testBit] at h
        revert h
        cases (a.toNat >>> k).testBit j <;> cases (b.toNat >>> k).testBit j <;> simp
      rw [Nat.shiftRight_eq_div_pow, Nat.shiftRight_eq_div_pow] at e
      exact e
    have e2 : x.toNat / 2 ^ k = a.toNat / 2 ^ k := by
      have l1 := Nat.div_le_div_right (c := 2 ^ k) h1
      have l2 := Nat.div_le_div_right (c := 2 ^ k) h2
      omega
    have t : ∀ y : B, y.getLsbD i = (y.toNat / 2 ^ k).testBit (i - k) := fun y => by
      rw [← Nat.shiftRight_eq_div_pow, Nat.testBit_shiftRight]
      show y.toNat.testBit i = _
      congr 1
      omega
    rw [t x, t a, e2]
end Go.Proofs.Ytdipmlamjjpcoaa

/- Plain facts on bounds (no program): tidying loses nothing, meets, joins, cuts. -/
namespace Go.Proofs.Ytdipmlamjjpcoaa

/-- what is known of a number: with signs (sl, sh) and without (ul, uh), and bits -/
structure Bd where
  ul : B
  uh : B
  sl : B
  sh : B
  t : Tn
deriving DecidableEq
def umax (a b : B) : B := if a.toNat < b.toNat then b else a
def umin (a b : B) : B := if b.toNat < a.toNat then b else a
def smax (a b : B) : B := if a.toInt < b.toInt then b else a
def smin (a b : B) : B := if b.toInt < a.toInt then b else a
def uinB (b : Bd) (x : B) : Bool := decide (b.ul.toNat ≤ x.toNat) && decide (x.toNat ≤ b.uh.toNat)
def sinB (b : Bd) (x : B) : Bool := decide (b.sl.toInt ≤ x.toInt) && decide (x.toInt ≤ b.sh.toInt)
def bin (b : Bd) (x : B) : Bool := uinB b x && sinB b x && tin b.t x
def bcheck (b : Bd) : Bool := decide (b.ul.toNat ≤ b.uh.toNat) && decide (b.sl.toInt ≤ b.sh.toInt) && tcheck b.t
def bgood (b : Bd) : Bool := decide (b.ul.toNat ≤ b.uh.toNat) && decide (b.sl.toInt ≤ b.sh.toInt)
def bwithin (a b : Bd) : Bool := uinB a b.ul && uinB a b.uh && sinB a b.sl && sinB a b.sh && twithin a.t b.t
def banyT : Tn := ⟨0#64, 18446744073709551615#64⟩
def bany : Bd := ⟨0#64, 18446744073709551615#64, topB, mostB, banyT⟩
def bzero : Bd := ⟨0#64, 0#64, 0#64, 0#64, ⟨0#64, 0#64⟩⟩
def bconst (x : B) : Bd := ⟨x, x, x, x, ⟨x, 0#64⟩⟩
def bupto (x : B) : Bd := ⟨0#64, x, 0#64, x, ⟨0#64, x⟩⟩
/-- the first part of tidying -/
def tidyB (b : Bd) : Bd := ⟨umax b.ul b.t.v, umin b.uh (b.t.v ||| b.t.m), smax b.sl (tlo b.t), smin b.sh (thi b.t), b.t⟩
/-- the second part -/
def tidyS (b : Bd) : Bd :=
  if 0 ≤ b.sl.toInt ∨ b.sh.toInt < 0 then ⟨umax b.ul b.sl, umin b.uh b.sh, umax b.ul b.sl, umin b.uh b.sh, b.t⟩
  else if 0 ≤ b.uh.toInt then ⟨b.ul, smin b.sh b.uh, b.ul, smin b.sh b.uh, b.t⟩
  else if b.ul.toInt < 0 then ⟨smax b.sl b.ul, b.uh, smax b.sl b.ul, b.uh, b.t⟩
  else b
def tidyR (b : Bd) : Bd := { b with t := tmeetT b.t (rangeT b.ul b.uh) }
/-- one round of tidying -/
def tidy1 (b : Bd) : Option Bd :=
  if bgood (tidyB b) = false then none
  else if tagree (tidyS (tidyB b)).t (rangeT (tidyS (tidyB b)).ul (tidyS (tidyB b)).uh) = false ∨ bgood (tidyS (tidyB b)) = false then none
  else some (tidyR (tidyS (tidyB b)))
def tidy (b : Bd) : Option Bd := (tidy1 b).bind tidy1
def bjoin (a b : Bd) : Bd := ⟨umin a.ul b.ul, umax a.uh b.uh, smin a.sl b.sl, smax a.sh b.sh, tjoin a.t b.t⟩
def bmeet (a b : Bd) : Option Bd := if tagree a.t b.t = false then none else tidy ⟨umax a.ul b.ul, umin a.uh b.uh, smax a.sl b.sl, smin a.sh b.sh, tmeetT a.t b.t⟩
def blow (b : Bd) : Bd := if b.uh.toNat ≤ 4294967295 then b else (tidy { bupto low32 with t := tlow b.t }).getD (bupto low32)

theorem bin_iff {b : Bd} {x : B} : bin b x = true ↔ ((b.ul.toNat ≤ x.toNat ∧ x.toNat ≤ b.uh.toNat) ∧ (b.sl.toInt ≤ x.toInt ∧ x.toInt ≤ b.sh.toInt)) ∧ tin b.t x = true := by
  simp [bin, uinB, sinB]
theorem bcheck_iff {b : Bd} : bcheck b = true ↔ (b.ul.toNat ≤ b.uh.toNat ∧ b.sl.toInt ≤ b.sh.toInt) ∧ tcheck b.t = true := by
  simp [bcheck]
theorem bgood_iff {b : Bd} : bgood b = true ↔ b.ul.toNat ≤ b.uh.toNat ∧ b.sl.toInt ≤ b.sh.toInt := by
  simp [bgood]
theorem umax_le {a b : B} {n : Nat} : (umax a b).toNat ≤ n ↔ a.toNat ≤ n ∧ b.toNat ≤ n := by unfold umax; split <;> omega
theorem le_umin {a b : B} {n : Nat} : n ≤ (umin a b).toNat ↔ n ≤ a.toNat ∧ n ≤ b.toNat := by unfold umin; split <;> omega
theorem smax_le {a b : B} {n : Int} : (smax a b).toInt ≤ n ↔ a.toInt ≤ n ∧ b.toInt ≤ n := by unfold smax; split <;> omega
theorem le_smin {a b : B} {n : Int} : n ≤ (smin a b).toInt ↔ n ≤ a.toInt ∧ n ≤ b.toInt := by unfold smin; split <;> omega
theorem umin_le {a b : B} : (umin a b).toNat ≤ a.toNat ∧ (umin a b).toNat ≤ b.toNat := by unfold umin; split <;> omega
theorem le_umax {a b : B} : a.toNat ≤ (umax a b).toNat ∧ b.toNat ≤ (umax a b).toNat := by unfold umax; split <;> omega
theorem smin_le {a b : B} : (smin a b).toInt ≤ a.toInt ∧ (smin a b).toInt ≤ b.toInt := by unfold smin; split <;> omega
theorem le_smax {a b : B} : a.toInt ≤ (smax a b).toInt ∧ b.toInt ≤ (smax a b).toInt := by unfold smax; split <;> omega
theorem tidyB_in {b : Bd} {x : B} : bin (tidyB b) x = true ↔ bin b x = true := by
  rw [bin_iff, bin_iff]
  unfold tidyB
  simp only [umax_le, le_umin, smax_le, le_smin]
  constructor
  · rintro ⟨⟨⟨⟨h1, _⟩, h2, _⟩, ⟨h3, _⟩, h4, _⟩, h5⟩
    exact ⟨⟨⟨h1, h2⟩, h3, h4⟩, h5⟩
  · rintro ⟨⟨⟨h1, h2⟩, h3, h4⟩, h5⟩
    have a := tin_le h5
    have c := tin_sle h5
    exact ⟨⟨⟨⟨h1, a.1⟩, h2, a.2⟩, ⟨h3, c.1⟩, h4, c.2⟩, h5⟩
/-- a word's two readings -/
theorem two (x : B) : (x.toNat < 9223372036854775808 ∧ x.toInt = x.toNat) ∨ (9223372036854775808 ≤ x.toNat ∧ x.toNat < 18446744073709551616 ∧ x.toInt = (x.toNat : Int) - 18446744073709551616) := by
  rcases toInt_cases x with ⟨_, h⟩ | ⟨_, h⟩
  · exact .inl h
  · exact .inr h
theorem tidyS_in {b : Bd} {x : B} (hg : bgood b = true) : bin (tidyS b) x = true ↔ bin b x = true := by
  obtain ⟨g1, g2⟩ := bgood_iff.1 hg
  have dx := two x
  have d1 := two b.ul
  have d2 := two b.uh
  have d3 := two b.sl
  have d4 := two b.sh
  rw [bin_iff, bin_iff]
  unfold tidyS
  split
  · simp only [umax_le, le_umin]
    have e1 : (umax b.ul b.sl).toInt ≤ x.toInt ∧ x.toInt ≤ (umin b.uh b.sh).toInt ∧ (b.ul.toNat ≤ x.toNat ∧ b.sl.toNat ≤ x.toNat) ∧ x.toNat ≤ b.uh.toNat ∧ x.toNat ≤ b.sh.toNat ↔ (b.ul.toNat ≤ x.toNat ∧ x.toNat ≤ b.uh.toNat) ∧ (b.sl.toInt ≤ x.toInt ∧ x.toInt ≤ b.sh.toInt) := by
      have u1 : (umax b.ul b.sl).toInt = if b.ul.toNat < b.sl.toNat then b.sl.toInt else b.ul.toInt := by unfold umax; split <;> rfl
      have u2 : (umin b.uh b.sh).toInt = if b.sh.toNat < b.uh.toNat then b.sh.toInt else b.uh.toInt := by unfold umin; split <;> rfl
      rw [u1, u2]
      split <;> split <;> omega
    constructor
    · rintro ⟨⟨⟨h1, h2⟩, h3, h4⟩, h5⟩
      exact ⟨e1.1 ⟨h3, h4, h1, h2⟩, h5⟩
    · rintro ⟨h, h5⟩
      obtain ⟨h3, h4, h1, h2⟩ := e1.2 h
      exact ⟨⟨⟨h1, h2⟩, h3, h4⟩, h5⟩
  · split
    · have u1 : (smin b.sh b.uh).toNat = if b.uh.toInt < b.sh.toInt then b.uh.toNat else b.sh.toNat := by unfold smin; split <;> rfl
      simp only [le_smin, u1]
      have e : ((b.ul.toNat ≤ x.toNat ∧ x.toNat ≤ if b.uh.toInt < b.sh.toInt then b.uh.toNat else b.sh.toNat) ∧ b.ul.toInt ≤ x.toInt ∧ x.toInt ≤ b.sh.toInt ∧ x.toInt ≤ b.uh.toInt) ↔ (b.ul.toNat ≤ x.toNat ∧ x.toNat ≤ b.uh.toNat) ∧ b.sl.toInt ≤ x.toInt ∧ x.toInt ≤ b.sh.toInt := by
        split <;> omega
      rw [e]
    · split
      · have u1 : (smax b.sl b.ul).toNat = if b.sl.toInt < b.ul.toInt then b.ul.toNat else b.sl.toNat := by unfold smax; split <;> rfl
        simp only [smax_le, u1]
        have e : (((if b.sl.toInt < b.ul.toInt then b.ul.toNat else b.sl.toNat) ≤ x.toNat ∧ x.toNat ≤ b.uh.toNat) ∧ (b.sl.toInt ≤ x.toInt ∧ b.ul.toInt ≤ x.toInt) ∧ x.toInt ≤ b.uh.toInt) ↔ (b.ul.toNat ≤ x.toNat ∧ x.toNat ≤ b.uh.toNat) ∧ b.sl.toInt ≤ x.toInt ∧ x.toInt ≤ b.sh.toInt := by
          split <;> omega
        rw [e]
      · exact Iff.rfl
theorem tidyS_t (b : Bd) : (tidyS b).t = b.t := by unfold tidyS; (repeat' split) <;> rfl
theorem range_check (a b : B) : tcheck (rangeT a b) = true := tof_check _ _
/-- one round loses nothing -/
theorem tidy1_some {a b : Bd} (ht : tcheck a.t = true) (h : tidy1 a = some b) : bcheck b = true ∧ ∀ x, bin b x = bin a x := by
  unfold tidy1 at h
  by_cases h1 : bgood (tidyB a) = false
  · rw [if_pos h1] at h; cases h
  rw [if_neg h1] at h
  by_cases h2 : tagree (tidyS (tidyB a)).t (rangeT (tidyS (tidyB a)).ul (tidyS (tidyB a)).uh) = false ∨ bgood (tidyS (tidyB a)) = false
  · rw [if_pos h2] at h; cases h
  rw [if_neg h2] at h
  injection h with h
  subst h
  have g1 : bgood (tidyB a) = true := by simpa using h1
  have g2 : tagree (tidyS (tidyB a)).t (rangeT (tidyS (tidyB a)).ul (tidyS (tidyB a)).uh) = true ∧ bgood (tidyS (tidyB a)) = true := by simpa using h2
  have tt : tcheck (tidyS (tidyB a)).t = true := by rw [tidyS_t]; exact ht
  refine ⟨bcheck_iff.2 ⟨bgood_iff.1 g2.2, tof_check _ _⟩, fun x => ?_⟩
  rw [Bool.eq_iff_iff, ← tidyB_in (b := a), ← tidyS_in g1]
  generalize tidyS (tidyB a) = s at *
  rw [bin_iff, bin_iff]
  unfold tidyR
  have hm := tmeet_in (x := x) tt (range_check s.ul s.uh)
  constructor
  · rintro ⟨h1, h2⟩
    exact ⟨h1, (hm.2 ⟨g2.1, h2⟩).1⟩
  · rintro ⟨h1, h2⟩
    exact ⟨h1, (hm.1 ⟨h2, range_in h1.1.1 h1.1.2⟩).2⟩
theorem tidy1_none {a : Bd} (ht : tcheck a.t = true) (h : tidy1 a = none) (x : B) : bin a x = false := by
  unfold tidy1 at h
  rw [Bool.eq_false_iff]
  intro hx
  have hB := tidyB_in.2 hx
  by_cases h1 : bgood (tidyB a) = false
  · have := bin_iff.1 hB
    have g : bgood (tidyB a) = true := bgood_iff.2 ⟨by omega, by omega⟩
    rw [g] at h1; cases h1
  rw [if_neg h1] at h
  have g1 : bgood (tidyB a) = true := by simpa using h1
  have hS := (tidyS_in (x := x) g1).2 hB
  have tt : tcheck (tidyS (tidyB a)).t = true := by rw [tidyS_t]; exact ht
  generalize tidyS (tidyB a) = s at *
  have hs := bin_iff.1 hS
  have g2 : bgood s = true := bgood_iff.2 ⟨by omega, by omega⟩
  have g3 := ((tmeet_in (x := x) tt (range_check s.ul s.uh)).1 ⟨hs.2, range_in hs.1.1.1 hs.1.1.2⟩).1
  rw [if_neg (by rw [g2, g3]; simp)] at h
  cases h
theorem tidy_some {a b : Bd} (ht : tcheck a.t = true) (h : tidy a = some b) : bcheck b = true ∧ ∀ x, bin b x = bin a x := by
  unfold tidy at h
  cases h1 : tidy1 a with
  | none => rw [h1] at h; cases h
  | some c =>
    rw [h1] at h
    obtain ⟨c1, c2⟩ := tidy1_some ht h1
    obtain ⟨b1, b2⟩ := tidy1_some (bcheck_iff.1 c1).2 h
    exact ⟨b1, fun x => (b2 x).trans (c2 x)⟩
theorem tidy_none {a : Bd} (ht : tcheck a.t = true) (h : tidy a = none) (x : B) : bin a x = false := by
  unfold tidy at h
  cases h1 : tidy1 a with
  | none => exact tidy1_none ht h1 x
  | some c =>
    rw [h1] at h
    obtain ⟨c1, c2⟩ := tidy1_some ht h1
    rw [← c2 x]
    exact tidy1_none (bcheck_iff.1 c1).2 h x
theorem bmeet_in {a b : Bd} {x : B} (ha : bcheck a = true) (hb : bcheck b = true) :
    (bin a x = true ∧ bin b x = true) ↔ ∃ m, bmeet a b = some m ∧ bin m x = true := by
  have ta := (bcheck_iff.1 ha).2
  have tb := (bcheck_iff.1 hb).2
  have hm := tmeet_in (x := x) ta tb
  have key : (bin a x = true ∧ bin b x = true) ↔ tagree a.t b.t = true ∧ bin ⟨umax a.ul b.ul, umin a.uh b.uh, smax a.sl b.sl, smin a.sh b.sh, tmeetT a.t b.t⟩ x = true := by
    rw [bin_iff, bin_iff, bin_iff]
    simp only [umax_le, le_umin, smax_le, le_smin]
    constructor
    · rintro ⟨⟨h1, h2⟩, h3, h4⟩
      obtain ⟨m1, m2⟩ := hm.1 ⟨h2, h4⟩
      exact ⟨m1, ⟨⟨⟨h1.1.1, h3.1.1⟩, h1.1.2, h3.1.2⟩, ⟨h1.2.1, h3.2.1⟩, h1.2.2, h3.2.2⟩, m2⟩
    · rintro ⟨m1, ⟨⟨⟨a1, a2⟩, a3, a4⟩, ⟨a5, a6⟩, a7, a8⟩, m2⟩
      obtain ⟨n1, n2⟩ := hm.2 ⟨m1, m2⟩
      exact ⟨⟨⟨⟨a1, a3⟩, a5, a7⟩, n1⟩, ⟨⟨a2, a4⟩, a6, a8⟩, n2⟩
  rw [key]
  have tt : tcheck (⟨umax a.ul b.ul, umin a.uh b.uh, smax a.sl b.sl, smin a.sh b.sh, tmeetT a.t b.t⟩ : Bd).t = true := tof_check _ _
  unfold bmeet
  constructor
  · rintro ⟨g, h⟩
    rw [if_neg (by rw [g]; simp)]
    cases hd : tidy ⟨umax a.ul b.ul, umin a.uh b.uh, smax a.sl b.sl, smin a.sh b.sh, tmeetT a.t b.t⟩ with
    | none => rw [tidy_none tt hd x] at h; cases h
    | some m => exact ⟨m, rfl, by rw [(tidy_some tt hd).2 x]; exact h⟩
  · rintro ⟨m, h1, h2⟩
    by_cases g : tagree a.t b.t = false
    · rw [if_pos g] at h1; cases h1
    · rw [if_neg g] at h1
      exact ⟨by simpa using g, by rw [← (tidy_some tt h1).2 x]; exact h2⟩
theorem bjoin_in {a b : Bd} {x : B} (h : bin a x = true ∨ bin b x = true) : bin (bjoin a b) x = true := by
  rw [bin_iff, bin_iff] at h
  rw [bin_iff]
  unfold bjoin
  have i1 := umin_le (a := a.ul) (b := b.ul)
  have i2 := le_umax (a := a.uh) (b := b.uh)
  have i3 := smin_le (a := a.sl) (b := b.sl)
  have i4 := le_smax (a := a.sh) (b := b.sh)
  refine ⟨⟨⟨?_, ?_⟩, ?_, ?_⟩, tjoin_in ?_⟩
  · show (umin a.ul b.ul).toNat ≤ _; omega
  · show _ ≤ (umax a.uh b.uh).toNat; omega
  · show (smin a.sl b.sl).toInt ≤ _; omega
  · show _ ≤ (smax a.sh b.sh).toInt; omega
  · rcases h with h | h
    · exact .inl h.2
    · exact .inr h.2
theorem bjoin_within {a b : Bd} (ha : bcheck a = true) (hb : bcheck b = true) : bwithin (bjoin a b) a = true ∧ bwithin (bjoin a b) b = true := by
  have ga := (bcheck_iff.1 ha).1
  have gb := (bcheck_iff.1 hb).1
  have i1 := umin_le (a := a.ul) (b := b.ul)
  have i2 := le_umax (a := a.uh) (b := b.uh)
  have i3 := smin_le (a := a.sl) (b := b.sl)
  have i4 := le_smax (a := a.sh) (b := b.sh)
  have ht := tjoin_within a.t b.t
  unfold bwithin uinB sinB bjoin
  simp only [Bool.and_eq_true, decide_eq_true_eq]
  refine ⟨⟨⟨⟨⟨⟨?_, ?_⟩, ?_, ?_⟩, ?_, ?_⟩, ?_, ?_⟩, ht.1⟩, ⟨⟨⟨⟨?_, ?_⟩, ?_, ?_⟩, ?_, ?_⟩, ?_, ?_⟩, ht.2⟩ <;> omega
theorem bwithin_in {a b : Bd} {x : B} (h : bwithin a b = true) (hx : bin b x = true) : bin a x = true := by
  unfold bwithin uinB sinB at h
  simp only [Bool.and_eq_true, decide_eq_true_eq] at h
  have hb := bin_iff.1 hx
  obtain ⟨⟨⟨⟨h1, h2⟩, h3⟩, h4⟩, h5⟩ := h
  exact bin_iff.2 ⟨⟨⟨by omega, by omega⟩, by omega, by omega⟩, twithin_in h5 hb.2⟩
end Go.Proofs.Ytdipmlamjjpcoaa

/- Plain facts on bounds (no program): what is cut; known numbers. -/
namespace Go.Proofs.Ytdipmlamjjpcoaa

theorem tidyB_uh (b : Bd) : (tidyB b).uh.toNat ≤ b.uh.toNat := umin_le.1
theorem tidyS_uh (b : Bd) : (tidyS b).uh.toNat ≤ b.uh.toNat := by
  unfold tidyS
  split
  · exact umin_le.1
  · rename_i h1
    split
    · rename_i h2
      have d1 := two b.uh
      have d2 := two b.sh
      show (smin b.sh b.uh).toNat ≤ _
      unfold smin
      split <;> omega
    · split <;> exact Nat.le_refl _
theorem tidy1_uh {a b : Bd} (h : tidy1 a = some b) : b.uh.toNat ≤ a.uh.toNat := by
  unfold tidy1 at h
  by_cases h1 : bgood (tidyB a) = false
  · rw [if_pos h1] at h; cases h
  rw [if_neg h1] at h
  by_cases h2 : tagree (tidyS (tidyB a)).t (rangeT (tidyS (tidyB a)).ul (tidyS (tidyB a)).uh) = false ∨ bgood (tidyS (tidyB a)) = false
  · rw [if_pos h2] at h; cases h
  rw [if_neg h2] at h
  injection h with h
  subst h
  exact Nat.le_trans (tidyS_uh _) (tidyB_uh _)
theorem tidy_uh {a b : Bd} (h : tidy a = some b) : b.uh.toNat ≤ a.uh.toNat := by
  unfold tidy at h
  cases h1 : tidy1 a with
  | none => rw [h1] at h; cases h
  | some c =>
    rw [h1] at h
    exact Nat.le_trans (tidy1_uh h) (tidy1_uh h1)
theorem low_le (x : B) : (x &&& low32).toNat ≤ 4294967295 := by
  rw [BitVec.toNat_and]
  exact Nat.and_le_right
theorem low_same {x : B} (h : x.toNat ≤ 4294967295) : x &&& low32 = x := by
  apply BitVec.eq_of_toNat_eq
  rw [BitVec.toNat_and]
  show x.toNat &&& (2 ^ 32 - 1) = _
  rw [Nat.and_two_pow_sub_one_eq_mod]
  exact Nat.mod_eq_of_lt (by omega)
theorem low_toInt (x : B) : (x &&& low32).toInt = ((x &&& low32).toNat : Int) := by
  have := low_le x
  rcases two (x &&& low32) with h | h
  · exact h.2
  · omega
/-- a number's lowest 32 bits are in what is cut -/
theorem blow_in {b : Bd} {x : B} (hb : bcheck b = true) (hx : bin b x = true) : bin (blow b) (x &&& low32) = true ∧ (blow b).uh.toNat ≤ 4294967295 := by
  have h := bin_iff.1 hx
  have ht := (bcheck_iff.1 hb).2
  unfold blow
  split
  · rename_i h1
    rw [low_same (by omega)]
    exact ⟨hx, h1⟩
  · have e : bin { bupto low32 with t := tlow b.t } (x &&& low32) = true := by
      rw [bin_iff]
      have := low_le x
      have h2 := low_toInt x
      refine ⟨⟨⟨Nat.zero_le _, this⟩, ?_, ?_⟩, tlow_in h.2⟩
      · show (0 : Int) ≤ _
        omega
      · show _ ≤ (4294967295 : Int)
        omega
    have tt : tcheck ({ bupto low32 with t := tlow b.t } : Bd).t = true := tlow_check ht
    cases hd : tidy { bupto low32 with t := tlow b.t } with
    | none => rw [tidy_none tt hd] at e; cases e
    | some m =>
      refine ⟨?_, ?_⟩
      · show bin m _ = true
        rw [(tidy_some tt hd).2]
        exact e
      · exact tidy_uh hd
theorem and_all (x : B) : x &&& 18446744073709551615#64 = x := by
  have : (18446744073709551615#64 : B) = BitVec.allOnes 64 := by decide +kernel
  rw [this, BitVec.and_allOnes]
/-- known numbers -/
def bvalue (b : Bd) : B × Bool := if b.ul = b.uh then (b.ul, true) else (0#64, false)
theorem umax_self (x : B) : umax x x = x := by simp [umax]
theorem umin_self (x : B) : umin x x = x := by simp [umin]
theorem smax_self (x : B) : smax x x = x := by simp [smax]
theorem smin_self (x : B) : smin x x = x := by simp [smin]
theorem range_self (x : B) : rangeT x x = ⟨x, 0#64⟩ := by
  simp [rangeT, tof, fillN, lenN, and_all]
theorem tidy1_const (x : B) : tidy1 (bconst x) = some (bconst x) := by
  have e1 : tidyB (bconst x) = bconst x := by
    simp [tidyB, bconst, umax_self, umin_self, smax_self, smin_self, tlo, thi]
  have e2 : tidyS (bconst x) = bconst x := by
    unfold tidyS
    rw [if_pos (show 0 ≤ (bconst x).sl.toInt ∨ (bconst x).sh.toInt < 0 by show 0 ≤ x.toInt ∨ x.toInt < 0; omega)]
    simp [bconst, umax_self, umin_self]
  have e3 : bgood (bconst x) = true := by simp [bgood, bconst]
  have e4 : tagree (bconst x).t (rangeT (bconst x).ul (bconst x).uh) = true := by simp [bconst, range_self, tagree]
  unfold tidy1
  rw [e1, e2, if_neg (by rw [e3]; simp), if_neg (by rw [e3, e4]; simp)]
  simp [tidyR, bconst, range_self, tmeetT, tof, and_all]
theorem tidy_const (x : B) : tidy (bconst x) = some (bconst x) := by
  unfold tidy
  rw [tidy1_const]
  exact tidy1_const x
theorem const_in (x y : B) : bin (bconst x) y = (x == y) := by
  rw [Bool.eq_iff_iff, bin_iff, beq_iff_eq]
  constructor
  · rintro ⟨⟨⟨h1, h2⟩, _⟩, _⟩
    exact BitVec.eq_of_toNat_eq (Nat.le_antisymm h1 h2)
  · rintro rfl
    exact ⟨⟨⟨Nat.le_refl _, Nat.le_refl _⟩, Int.le_refl _, Int.le_refl _⟩, by simp [bconst, tin, and_all]⟩
theorem top_int (x : B) : topB.toInt ≤ x.toInt ∧ x.toInt ≤ mostB.toInt := by
  have e1 : topB.toInt = -9223372036854775808 := by decide +kernel
  have e2 : mostB.toInt = 9223372036854775807 := by decide +kernel
  rw [e1, e2]
  have := two x
  omega
theorem any_within (x : B) : bwithin bany (bconst x) = true := by
  have h := top_int x
  have hl : x.toNat ≤ 18446744073709551615 := by have := x.isLt; omega
  unfold bwithin uinB sinB
  simp only [Bool.and_eq_true, decide_eq_true_eq]
  refine ⟨⟨⟨⟨⟨Nat.zero_le _, hl⟩, Nat.zero_le _, hl⟩, h⟩, h⟩, ?_⟩
  rw [twithin_bit]
  intro i hi
  have : ∀ i : Fin 64, banyT.m.getLsbD i = true := by decide +kernel
  have hm : bany.t.m.getLsbD i = true := this ⟨i, hi⟩
  rw [hm]
  simp [bany, banyT]
theorem join_const (x : B) : bjoin (bconst x) (bconst x) = bconst x := by
  simp [bjoin, bconst, umin_self, umax_self, smin_self, smax_self, tjoin, tof, and_all]
/-- all numbers, but from x to x -/
def bone (x : B) : Bd := { bany with ul := x, uh := x }
theorem smax_top (x : B) : smax topB x = x := by
  have := (top_int x).1
  unfold smax
  split
  · rfl
  · exact BitVec.eq_of_toInt_eq (by omega)
theorem smin_most (x : B) : smin mostB x = x := by
  have := (top_int x).2
  unfold smin
  split
  · rfl
  · exact BitVec.eq_of_toInt_eq (by omega)
theorem tidy1_one (x : B) : tidy1 (bone x) = some (bconst x) := by
  have e1 : tidyB (bone x) = bone x := by
    have l1 : tlo banyT = topB := by decide +kernel
    have l2 : thi banyT = mostB := by decide +kernel
    have l3 : (banyT.v ||| banyT.m) = 18446744073709551615#64 := by decide +kernel
    have u1 : umax x 0#64 = x := by unfold umax; rw [if_neg (by simp)]
    have u2 : umin x 18446744073709551615#64 = x := by unfold umin; rw [if_neg (by have := x.isLt; simp; omega)]
    show (⟨umax x 0#64, umin x (banyT.v ||| banyT.m), smax topB (tlo banyT), smin mostB (thi banyT), banyT⟩ : Bd) = _
    rw [l1, l2, l3, u1, u2, smax_self, smin_self]
    rfl
  have e2 : tidyS (bone x) = { bconst x with t := banyT } := by
    unfold tidyS
    have n1 : ¬ (0 ≤ (bone x).sl.toInt ∨ (bone x).sh.toInt < 0) := by
      have a : (bone x).sl.toInt = -9223372036854775808 := by show topB.toInt = _; decide +kernel
      have b : (bone x).sh.toInt = 9223372036854775807 := by show mostB.toInt = _; decide +kernel
      omega
    rw [if_neg n1]
    show (if 0 ≤ x.toInt then (⟨x, smin mostB x, x, smin mostB x, banyT⟩ : Bd) else if x.toInt < 0 then ⟨smax topB x, x, smax topB x, x, banyT⟩ else bone x) = _
    rw [smin_most, smax_top]
    split
    · rfl
    · rw [if_pos (by omega)]; rfl
  have e3 : bgood (bone x) = true := by
    rw [bgood_iff]
    exact ⟨Nat.le_refl _, (top_int topB).2⟩
  have e4 : bgood { bconst x with t := banyT } = true := by rw [bgood_iff]; exact ⟨Nat.le_refl _, Int.le_refl _⟩
  have hm : ∀ i, i < 64 → banyT.m.getLsbD i = true := fun i hi => by
    have : ∀ i : Fin 64, banyT.m.getLsbD i = true := by decide +kernel
    exact this ⟨i, hi⟩
  have e5 : tagree banyT (rangeT x x) = true := by
    rw [tagree_bit]
    intro i hi
    rw [hm i hi]
    simp
  have e6 : tmeetT banyT ⟨x, 0#64⟩ = ⟨x, 0#64⟩ := by
    simp [tmeetT, tof, banyT, and_all]
  unfold tidy1
  rw [e1, e2, if_neg (by rw [e3]; simp), if_neg (by rw [e4]; show ¬ (tagree banyT (rangeT x x) = false ∨ _); rw [e5]; simp)]
  show some ({ bconst x with t := tmeetT banyT (rangeT x x) } : Bd) = _
  rw [range_self, e6]
  rfl
theorem tidy_one (x : B) : tidy (bone x) = some (bconst x) := by
  unfold tidy
  rw [tidy1_one]
  exact tidy1_const x
/-- what the laws ask at any rate -/
theorem heads8 : tidy ⟨0#64, 5#64, 18446744073709551613#64, 9#64, banyT⟩ = some ⟨0#64, 5#64, 0#64, 5#64, ⟨0#64, 7#64⟩⟩ ∧ bmeet (bconst 1#64) (bconst 2#64) = none ∧ bin (bupto 255#64) 255#64 = true ∧ bin (bupto 255#64) 256#64 = false := by
  decide +kernel
end Go.Proofs.Ytdipmlamjjpcoaa

/- Plain facts on states (no program): what is known of registers and the stack. -/
namespace Go.Proofs.Ytdipmlamjjpcoaa

/-- what is known of a register: nothing (0), a number (1), a place in a region (2) -/
structure Kn where
  kind : Int
  num : Bd
  reg : Int
deriving DecidableEq
def kzero : Kn := ⟨0, bzero, 0⟩
def right (k : Kn) : Bool :=
  if k.kind = 0 then decide (k = kzero) else if k.kind = 1 then bcheck k.num && decide (k.reg = 0) else if k.kind = 2 then bcheck k.num && (decide (1 ≤ k.reg) && decide (k.reg ≤ 10)) else false
/-- registers, stack bytes that were set, registers saved there -/
structure Ab where
  regs : List Kn
  set : List Bool
  saved : List Kn
deriving DecidableEq
def allB (p : Nat → Bool) : Nat → Bool
  | 0 => true
  | n + 1 => allB p n && p n
theorem allB_iff {p : Nat → Bool} : ∀ {n : Nat}, allB p n = true ↔ ∀ i, i < n → p i = true
  | 0 => ⟨fun _ i h => absurd h (Nat.not_lt_zero i), fun _ => rfl⟩
  | n + 1 => by
    rw [allB, Bool.and_eq_true, allB_iff]
    constructor
    · rintro ⟨h1, h2⟩ i hi
      by_cases e : i = n
      · subst e; exact h2
      · exact h1 i (by omega)
    · exact fun h => ⟨fun i hi => h i (by omega), h n (by omega)⟩
def rg (l : List Kn) (i : Nat) : Kn := l.getD i kzero
def st (l : List Bool) (i : Nat) : Bool := l.getD i false
/-- are the bytes from low on, n of them, set? -/
def setB (l : List Bool) (low n : Nat) : Bool := allB (fun i => st l (low + i)) n
def savedB (s : Ab) (i : Nat) : Bool := right (rg s.saved i) && (decide ((rg s.saved i).kind = 0) || setB s.set (8 * i) 8)
def checkS (s : Ab) : Bool := decide (s.regs.length = 11) && decide (s.set.length = 512) && decide (s.saved.length = 64) && allB (fun i => right (rg s.regs i)) 11 && allB (savedB s) 64
def withinK (a b : Kn) : Bool := decide (a.kind = 0) || (decide (a.kind = b.kind) && (decide (a.reg = b.reg) && bwithin a.num b.num))
def withinS (a b : Ab) : Bool := checkS a && checkS b && allB (fun i => withinK (rg a.regs i) (rg b.regs i)) 11 && allB (fun i => !st a.set i || st b.set i) 512 && allB (fun i => withinK (rg a.saved i) (rg b.saved i)) 64
/-- x less the region times 2^32 -/
def offB (r : Int) (x : B) : B := x - (BitVec.ofInt 64 r <<< 32)
def holdsK (k : Kn) (x : B) : Bool := if k.kind = 1 then bin k.num x else if k.kind = 2 then bin k.num (offB k.reg x) else true
def placesS (s : Ab) (low high n : Int) : Bool := checkS s && decide (0 ≤ low ∧ low ≤ high ∧ 1 ≤ n ∧ high ≤ 512 ∧ n ≤ 512 - high)
def putS (s : Ab) (r : Int) (k : Kn) : Ab := if (checkS s && decide (0 ≤ r ∧ r < 11) && right k) = true then { s with regs := s.regs.set r.toNat k } else s
/-- nothing is saved where one of these bytes lies -/
def clearK (l : List Kn) (low e : Nat) : List Kn := l.mapIdx fun j v => if 8 * j < e ∧ low < 8 * j + 8 then kzero else v
def fillT (l : List Bool) (low n : Nat) : List Bool := l.mapIdx fun i v => v || (decide (low ≤ i) && decide (i < low + n))
def stN (s : Ab) (l h n : Nat) (k : Kn) : Ab :=
  { regs := s.regs, set := if l = h then fillT s.set l n else s.set, saved := if l = h ∧ n = 8 ∧ l % 8 = 0 then (clearK s.saved l (h + n)).set (l / 8) k else clearK s.saved l (h + n) }
def storeS (s : Ab) (low high n : Int) (k : Kn) : Ab := if (placesS s low high n && right k) = true then stN s low.toNat high.toNat n.toNat k else s
def readyS (s : Ab) (low high : Int) : Bool := checkS s && decide (0 ≤ low ∧ low ≤ high ∧ high ≤ 512) && setB s.set low.toNat (high.toNat - low.toNat)
def size11 (n : Int) : Bd := if n = 1 then bupto 255#64 else if n = 2 then bupto 65535#64 else if n = 4 then bupto low32 else bany
def wholeB (s : Ab) (low high n : Int) : Bool := decide (low = high ∧ n = 8 ∧ low % 8 = 0) && decide ((rg s.saved (low.toNat / 8)).kind ≠ 0)
def loadS (s : Ab) (low high n : Int) : Kn × Bool :=
  if (placesS s low high n && readyS s low (high + n)) = true then (if wholeB s low high n = true then rg s.saved (low.toNat / 8) else ⟨1, size11 n, 0⟩, true) else (kzero, false)
def beginS : Ab :=
  { regs := ((List.replicate 11 kzero).set 1 ⟨2, bconst 0#64, 1⟩).set 10 ⟨2, bconst 512#64, 2⟩, set := List.replicate 512 false, saved := List.replicate 64 kzero }

theorem tw_refl {t : Tn} (h : tcheck t = true) : twithin t t = true := by
  rw [twithin_bit]
  intro i hi
  have e := tcheck_bit.1 h i hi
  revert e
  cases t.v.getLsbD i <;> cases t.m.getLsbD i <;> simp
theorem tw_trans {a b c : Tn} (h1 : twithin a b = true) (h2 : twithin b c = true) : twithin a c = true := by
  rw [twithin_bit] at *
  intro i hi
  have e1 := h1 i hi
  have e2 := h2 i hi
  revert e1 e2
  cases a.v.getLsbD i <;> cases a.m.getLsbD i <;> cases b.v.getLsbD i <;> cases b.m.getLsbD i <;> cases c.v.getLsbD i <;> cases c.m.getLsbD i <;> simp
theorem bw_iff {a b : Bd} : bwithin a b = true ↔ ((a.ul.toNat ≤ b.ul.toNat ∧ b.ul.toNat ≤ a.uh.toNat) ∧ (a.ul.toNat ≤ b.uh.toNat ∧ b.uh.toNat ≤ a.uh.toNat) ∧ (a.sl.toInt ≤ b.sl.toInt ∧ b.sl.toInt ≤ a.sh.toInt) ∧ (a.sl.toInt ≤ b.sh.toInt ∧ b.sh.toInt ≤ a.sh.toInt)) ∧ twithin a.t b.t = true := by
  simp [bwithin, uinB, sinB, and_assoc]
theorem bw_refl {b : Bd} (h : bcheck b = true) : bwithin b b = true := by
  obtain ⟨⟨h1, h2⟩, h3⟩ := bcheck_iff.1 h
  exact bw_iff.2 ⟨⟨⟨Nat.le_refl _, h1⟩, ⟨h1, Nat.le_refl _⟩, ⟨Int.le_refl _, h2⟩, ⟨h2, Int.le_refl _⟩⟩, tw_refl h3⟩
theorem bw_trans {a b c : Bd} (h1 : bwithin a b = true) (h2 : bwithin b c = true) : bwithin a c = true := by
  obtain ⟨p, p5⟩ := bw_iff.1 h1
  obtain ⟨q, q5⟩ := bw_iff.1 h2
  exact bw_iff.2 ⟨⟨⟨by omega, by omega⟩, ⟨by omega, by omega⟩, ⟨by omega, by omega⟩, ⟨by omega, by omega⟩⟩, tw_trans p5 q5⟩
theorem right_num {k : Kn} (h : right k = true) (h0 : k.kind ≠ 0) : bcheck k.num = true := by
  unfold right at h
  rw [if_neg h0] at h
  by_cases h1 : k.kind = 1
  · rw [if_pos h1, Bool.and_eq_true] at h; exact h.1
  · rw [if_neg h1] at h
    by_cases h2 : k.kind = 2
    · rw [if_pos h2, Bool.and_eq_true] at h; exact h.1
    · rw [if_neg h2] at h; cases h
theorem wk_iff {a b : Kn} : withinK a b = true ↔ a.kind = 0 ∨ (a.kind = b.kind ∧ a.reg = b.reg ∧ bwithin a.num b.num = true) := by
  simp [withinK]
theorem wk_refl {k : Kn} (h : right k = true) : withinK k k = true := by
  by_cases h0 : k.kind = 0
  · exact wk_iff.2 (.inl h0)
  · exact wk_iff.2 (.inr ⟨rfl, rfl, bw_refl (right_num h h0)⟩)
theorem wk_trans {a b c : Kn} (h1 : withinK a b = true) (h2 : withinK b c = true) : withinK a c = true := by
  rcases wk_iff.1 h1 with e | ⟨e1, e2, e3⟩
  · exact wk_iff.2 (.inl e)
  · rcases wk_iff.1 h2 with f | ⟨f1, f2, f3⟩
    · exact wk_iff.2 (.inl (e1.trans f))
    · exact wk_iff.2 (.inr ⟨e1.trans f1, e2.trans f2, bw_trans e3 f3⟩)
theorem check_iff {s : Ab} : checkS s = true ↔ (s.regs.length = 11 ∧ s.set.length = 512 ∧ s.saved.length = 64) ∧ (∀ i, i < 11 → right (rg s.regs i) = true) ∧ ∀ i, i < 64 → right (rg s.saved i) = true ∧ ((rg s.saved i).kind = 0 ∨ ∀ j, j < 8 → st s.set (8 * i + j) = true) := by
  unfold checkS
  simp only [Bool.and_eq_true, decide_eq_true_eq, allB_iff, savedB, Bool.or_eq_true, setB, and_assoc]
theorem within_iff {a b : Ab} : withinS a b = true ↔ checkS a = true ∧ checkS b = true ∧ (∀ i, i < 11 → withinK (rg a.regs i) (rg b.regs i) = true) ∧ (∀ i, i < 512 → st a.set i = true → st b.set i = true) ∧ ∀ i, i < 64 → withinK (rg a.saved i) (rg b.saved i) = true := by
  unfold withinS
  simp only [Bool.and_eq_true, allB_iff, and_assoc]
  have e : ∀ i, ((!st a.set i || st b.set i) = true) ↔ (st a.set i = true → st b.set i = true) := by
    intro i; cases st a.set i <;> simp
  simp only [e]
/-- a state is within itself -/
theorem within_refl {s : Ab} (h : checkS s = true) : withinS s s = true := by
  obtain ⟨_, h2, h3⟩ := check_iff.1 h
  exact within_iff.2 ⟨h, h, fun i hi => wk_refl (h2 i hi), fun _ _ e => e, fun i hi => wk_refl (h3 i hi).1⟩
/-- being within goes on -/
theorem within_trans {a b c : Ab} (h1 : withinS a b = true) (h2 : withinS b c = true) : withinS a c = true := by
  obtain ⟨p1, p2, p3, p4, p5⟩ := within_iff.1 h1
  obtain ⟨q1, q2, q3, q4, q5⟩ := within_iff.1 h2
  exact within_iff.2 ⟨p1, q2, fun i hi => wk_trans (p3 i hi) (q3 i hi), fun i hi e => q4 i hi (p4 i hi e), fun i hi => wk_trans (p5 i hi) (q5 i hi)⟩
/-- what is within holds no more -/
theorem within_holds {a b : Kn} {x : B} (h : withinK a b = true) (_h0 : b.kind ≠ 0) (hb : holdsK b x = true) : holdsK a x = true := by
  rcases wk_iff.1 h with e | ⟨e1, e2, e3⟩
  · unfold holdsK; rw [if_neg (by omega), if_neg (by omega)]
  · unfold holdsK at *
    by_cases h1 : a.kind = 1
    · rw [if_pos (e1 ▸ h1)] at hb
      rw [if_pos h1]
      exact bwithin_in e3 hb
    · rw [if_neg (e1 ▸ h1)] at hb
      rw [if_neg h1]
      by_cases h2 : a.kind = 2
      · rw [if_pos (e1 ▸ h2)] at hb
        rw [if_pos h2, e2]
        exact bwithin_in e3 hb
      · rw [if_neg h2]
end Go.Proofs.Ytdipmlamjjpcoaa

/- Plain facts on states (no program): what is stored is loaded, all else stays. -/
namespace Go.Proofs.Ytdipmlamjjpcoaa

theorem clear_len (l : List Kn) (low e : Nat) : (clearK l low e).length = l.length := List.length_mapIdx
theorem fill_len (l : List Bool) (low n : Nat) : (fillT l low n).length = l.length := List.length_mapIdx
theorem clear_get (l : List Kn) (low e i : Nat) : rg (clearK l low e) i = if 8 * i < e ∧ low < 8 * i + 8 then kzero else rg l i := by
  unfold rg clearK
  rw [List.getD_eq_getElem?_getD, List.getD_eq_getElem?_getD, List.getElem?_mapIdx]
  cases h : l[i]? with
  | none => simp
  | some v => simp
theorem fill_get (l : List Bool) (low n i : Nat) (hi : i < l.length) : st (fillT l low n) i = (st l i || (decide (low ≤ i) && decide (i < low + n))) := by
  unfold st fillT
  rw [List.getD_eq_getElem?_getD, List.getD_eq_getElem?_getD, List.getElem?_mapIdx, List.getElem?_eq_getElem hi]
  simp
theorem fill_more {l : List Bool} {low n i : Nat} (h : st l i = true) : st (fillT l low n) i = true := by
  have hi : i < l.length := by
    by_cases e : i < l.length
    · exact e
    · unfold st at h; rw [List.getD_eq_getElem?_getD, List.getElem?_eq_none (by omega)] at h; simp at h
  rw [fill_get _ _ _ _ hi, h]; rfl
theorem rg_set (l : List Kn) (i j : Nat) (k : Kn) : rg (l.set i k) j = if i = j ∧ i < l.length then k else rg l j := by
  unfold rg
  rw [List.getD_eq_getElem?_getD, List.getD_eq_getElem?_getD, List.getElem?_set]
  by_cases e : i = j
  · subst e
    by_cases h : i < l.length
    · rw [if_pos rfl, if_pos h, if_pos ⟨rfl, h⟩]; rfl
    · rw [if_pos rfl, if_neg h, if_neg (fun x => h x.2), List.getElem?_eq_none (by omega)]
  · rw [if_neg e, if_neg (fun x => e x.1)]
theorem right_zero : right kzero = true := by decide +kernel
theorem right_kzero {k : Kn} (h : right k = true) (h0 : k.kind = 0) : k = kzero := by
  unfold right at h
  rw [if_pos h0] at h
  exact of_decide_eq_true h
theorem places_iff {s : Ab} {low high n : Int} : placesS s low high n = true ↔ checkS s = true ∧ 0 ≤ low ∧ low ≤ high ∧ 1 ≤ n ∧ high ≤ 512 ∧ n ≤ 512 - high := by
  unfold placesS
  rw [Bool.and_eq_true, decide_eq_true_eq]
theorem ready_iff {s : Ab} {low high : Int} : readyS s low high = true ↔ checkS s = true ∧ (0 ≤ low ∧ low ≤ high ∧ high ≤ 512) ∧ ∀ i, i < high.toNat - low.toNat → st s.set (low.toNat + i) = true := by
  unfold readyS setB
  rw [Bool.and_eq_true, Bool.and_eq_true, decide_eq_true_eq, allB_iff, and_assoc]
/-- what may be stays so -/
theorem stN_check {s : Ab} {l h n : Nat} {k : Kn} (hs : checkS s = true) (hk : right k = true) (_hl : l ≤ h) (hn : h + n ≤ 512) : checkS (stN s l h n k) = true := by
  obtain ⟨⟨e1, e2, e3⟩, h2, h3⟩ := check_iff.1 hs
  have hset : ∀ i, st s.set i = true → st (stN s l h n k).set i = true := by
    intro i hi
    show st (if l = h then fillT s.set l n else s.set) i = true
    split
    · exact fill_more hi
    · exact hi
  have old : ∀ i, i < 64 → rg (clearK s.saved l (h + n)) i = kzero ∨ rg (clearK s.saved l (h + n)) i = rg s.saved i := by
    intro i hi
    rw [clear_get]
    split
    · exact .inl rfl
    · exact .inr rfl
  refine check_iff.2 ⟨⟨e1, ?_, ?_⟩, h2, ?_⟩
  · show (if l = h then fillT s.set l n else s.set).length = 512
    split
    · rw [fill_len]; exact e2
    · exact e2
  · show (if l = h ∧ n = 8 ∧ l % 8 = 0 then (clearK s.saved l (h + n)).set (l / 8) k else clearK s.saved l (h + n)).length = 64
    split
    · rw [List.length_set, clear_len]; exact e3
    · rw [clear_len]; exact e3
  · intro i hi
    have key : ∀ v, v = kzero ∨ v = rg s.saved i → right v = true ∧ (v.kind = 0 ∨ ∀ j, j < 8 → st (stN s l h n k).set (8 * i + j) = true) := by
      rintro v (rfl | rfl)
      · exact ⟨right_zero, .inl rfl⟩
      · obtain ⟨a, b⟩ := h3 i hi
        exact ⟨a, b.imp id fun f j hj => hset _ (f j hj)⟩
    show right (rg (if l = h ∧ n = 8 ∧ l % 8 = 0 then (clearK s.saved l (h + n)).set (l / 8) k else clearK s.saved l (h + n)) i) = true ∧ ((rg (if l = h ∧ n = 8 ∧ l % 8 = 0 then (clearK s.saved l (h + n)).set (l / 8) k else clearK s.saved l (h + n)) i).kind = 0 ∨ _)
    by_cases c : l = h ∧ n = 8 ∧ l % 8 = 0
    · rw [if_pos c, rg_set]
      by_cases d : l / 8 = i ∧ l / 8 < (clearK s.saved l (h + n)).length
      · rw [if_pos d]
        refine ⟨hk, .inr fun j hj => ?_⟩
        show st (if l = h then fillT s.set l n else s.set) (8 * i + j) = true
        rw [if_pos c.1, fill_get _ _ _ _ (by omega), Bool.or_eq_true]
        right
        rw [Bool.and_eq_true, decide_eq_true_eq, decide_eq_true_eq]
        omega
      · rw [if_neg d]; exact key _ (old i hi)
    · rw [if_neg c]; exact key _ (old i hi)
theorem store_is {s : Ab} {l n : Nat} {k : Kn} (hs : checkS s = true) (hk : right k = true) (h1 : 1 ≤ n) (hn : l + n ≤ 512) : storeS s (l : Int) (l : Int) (n : Int) k = stN s l l n k := by
  have hp : placesS s (l : Int) (l : Int) (n : Int) = true := places_iff.2 ⟨hs, by omega, by omega, by omega, by omega, by omega⟩
  unfold storeS
  rw [if_pos (by rw [hp, hk]; rfl)]
  rfl
theorem stN_set (s : Ab) (l n : Nat) (k : Kn) : (stN s l l n k).set = fillT s.set l n := if_pos rfl
/-- a load from one place -/
theorem load_is {s : Ab} {l n : Nat} (hs : checkS s = true) (h1 : 1 ≤ n) (hn : l + n ≤ 512) (hr : ∀ i, i < n → st s.set (l + i) = true) : loadS s (l : Int) (l : Int) (n : Int) = (if n = 8 ∧ l % 8 = 0 ∧ (rg s.saved (l / 8)).kind ≠ 0 then rg s.saved (l / 8) else ⟨1, size11 n, 0⟩, true) := by
  have hp : placesS s (l : Int) (l : Int) (n : Int) = true := places_iff.2 ⟨hs, by omega, by omega, by omega, by omega, by omega⟩
  have hd : readyS s (l : Int) ((l : Int) + (n : Int)) = true := ready_iff.2 ⟨hs, ⟨by omega, by omega, by omega⟩, fun i hi => by rw [Int.toNat_natCast]; exact hr i (by omega)⟩
  unfold loadS
  rw [if_pos (by rw [hp, hd]; rfl), Int.toNat_natCast]
  refine congrArg (·, true) ?_
  by_cases c : n = 8 ∧ l % 8 = 0 ∧ (rg s.saved (l / 8)).kind ≠ 0
  · rw [if_pos c, if_pos]
    unfold wholeB
    rw [Int.toNat_natCast, Bool.and_eq_true, decide_eq_true_eq, decide_eq_true_eq]
    exact ⟨⟨rfl, by omega, by omega⟩, c.2.2⟩
  · rw [if_neg c, if_neg]
    unfold wholeB
    rw [Int.toNat_natCast, Bool.and_eq_true, decide_eq_true_eq, decide_eq_true_eq]
    rintro ⟨⟨_, a, b⟩, d⟩
    exact c ⟨by omega, by omega, d⟩
theorem load_no {s : Ab} {l n : Nat} (hr : ∃ i, i < n ∧ st s.set (l + i) = false) : loadS s (l : Int) (l : Int) (n : Int) = (kzero, false) := by
  unfold loadS
  rw [if_neg]
  rw [Bool.and_eq_true]
  rintro ⟨_, h⟩
  obtain ⟨_, _, h⟩ := ready_iff.1 h
  obtain ⟨i, hi, e⟩ := hr
  have := h i (by omega)
  rw [Int.toNat_natCast, e] at this
  cases this
theorem not_all {p : Nat → Bool} {n : Nat} (h : ¬ ∀ i, i < n → p i = true) : ∃ i, i < n ∧ p i = false := by
  cases e : allB p n with
  | true => exact absurd (allB_iff.1 e) h
  | false =>
    clear h
    induction n with
    | zero => cases e
    | succ n ih =>
      rw [allB] at e
      cases e2 : allB p n with
      | false => obtain ⟨i, hi, h⟩ := ih e2; exact ⟨i, by omega, h⟩
      | true => rw [e2] at e; exact ⟨n, by omega, by simpa using e⟩
/-- what is stored whole is loaded -/
theorem back_self {s : Ab} {k : Kn} {m : Nat} (hs : checkS s = true) (hk : right k = true) (hm : m < 64) : loadS (storeS s (8 * m : Nat) (8 * m : Nat) 8 k) (8 * m : Nat) (8 * m : Nat) 8 = (if k.kind = 0 then ⟨1, bany, 0⟩ else k, true) := by
  obtain ⟨⟨e1, e2, e3⟩, _⟩ := check_iff.1 hs
  rw [show (8 : Int) = ((8 : Nat) : Int) from rfl, store_is hs hk (by omega) (by omega)]
  rw [load_is (stN_check hs hk (Nat.le_refl _) (by omega)) (by omega) (by omega) (fun i hi => by
    rw [stN_set, fill_get _ _ _ _ (by omega), Bool.or_eq_true]; right; rw [Bool.and_eq_true, decide_eq_true_eq, decide_eq_true_eq]; omega)]
  have hv : rg (stN s (8 * m) (8 * m) 8 k).saved (8 * m / 8) = k := by
    show rg (if 8 * m = 8 * m ∧ 8 = 8 ∧ 8 * m % 8 = 0 then (clearK s.saved (8 * m) (8 * m + 8)).set (8 * m / 8) k else clearK s.saved (8 * m) (8 * m + 8)) (8 * m / 8) = k
    rw [if_pos ⟨rfl, rfl, by omega⟩, rg_set, if_pos ⟨rfl, by rw [clear_len]; omega⟩]
  rw [hv]
  refine congrArg (·, true) ?_
  by_cases h0 : k.kind = 0
  · rw [if_pos h0, if_neg (fun c => c.2.2 h0)]; rfl
  · rw [if_neg h0, if_pos ⟨rfl, by omega, h0⟩]
/-- all else that was saved apart from it stays -/
theorem back_other {s : Ab} {k : Kn} {m o : Nat} (hs : checkS s = true) (hk : right k = true) (hm : m < 64) (ho : o < 64) (hne : o ≠ m) : loadS (storeS s (8 * m : Nat) (8 * m : Nat) 8 k) (8 * o : Nat) (8 * o : Nat) 8 = loadS s (8 * o : Nat) (8 * o : Nat) 8 := by
  obtain ⟨⟨e1, e2, e3⟩, _⟩ := check_iff.1 hs
  rw [show (8 : Int) = ((8 : Nat) : Int) from rfl, store_is hs hk (by omega) (by omega)]
  have hst : ∀ i, i < 8 → st (stN s (8 * m) (8 * m) 8 k).set (8 * o + i) = st s.set (8 * o + i) := by
    intro i hi
    rw [stN_set, fill_get _ _ _ _ (by omega)]
    have : (decide (8 * m ≤ 8 * o + i) && decide (8 * o + i < 8 * m + 8)) = false := by
      rw [Bool.and_eq_false_iff, decide_eq_false_iff_not, decide_eq_false_iff_not]; omega
    rw [this, Bool.or_false]
  have hv : rg (stN s (8 * m) (8 * m) 8 k).saved (8 * o / 8) = rg s.saved (8 * o / 8) := by
    show rg (if 8 * m = 8 * m ∧ 8 = 8 ∧ 8 * m % 8 = 0 then (clearK s.saved (8 * m) (8 * m + 8)).set (8 * m / 8) k else clearK s.saved (8 * m) (8 * m + 8)) (8 * o / 8) = _
    rw [if_pos ⟨rfl, rfl, by omega⟩, rg_set, if_neg (by omega), clear_get, if_neg (by omega)]
  by_cases hr : ∀ i, i < 8 → st s.set (8 * o + i) = true
  · rw [load_is hs (by omega) (by omega) hr, load_is (stN_check hs hk (Nat.le_refl _) (by omega)) (by omega) (by omega) (fun i hi => by rw [hst i hi]; exact hr i hi), hv]
  · obtain ⟨i, hi, e⟩ := not_all (p := fun i => st s.set (8 * o + i)) hr
    rw [load_no ⟨i, hi, e⟩, load_no ⟨i, hi, by rw [hst i hi]; exact e⟩]
/-- less than a whole register is loaded as a number -/
theorem small_self {s : Ab} {k : Kn} {l n : Nat} (hs : checkS s = true) (hk : right k = true) (h1 : 1 ≤ n) (h4 : n ≤ 4) (hl : l + n ≤ 512) : loadS (storeS s l l n k) l l n = (⟨1, size11 n, 0⟩, true) := by
  obtain ⟨⟨e1, e2, e3⟩, _⟩ := check_iff.1 hs
  rw [store_is hs hk h1 hl, load_is (stN_check hs hk (Nat.le_refl _) (by omega)) h1 hl (fun i hi => by
    rw [stN_set, fill_get _ _ _ _ (by omega), Bool.or_eq_true]; right; rw [Bool.and_eq_true, decide_eq_true_eq, decide_eq_true_eq]; omega), if_neg (by omega)]
/-- and none is saved there -/
theorem small_whole {s : Ab} {k : Kn} {l n : Nat} (hs : checkS s = true) (hk : right k = true) (h1 : 1 ≤ n) (h4 : n ≤ 4) (hl : l + n ≤ 512) :
    (loadS (storeS s l l n k) (8 * (l / 8) : Nat) (8 * (l / 8) : Nat) 8).2 = false ∨ (loadS (storeS s l l n k) (8 * (l / 8) : Nat) (8 * (l / 8) : Nat) 8).1 = ⟨1, bany, 0⟩ := by
  rw [store_is hs hk h1 hl, show (8 : Int) = ((8 : Nat) : Int) from rfl]
  by_cases hr : ∀ i, i < 8 → st (stN s l l n k).set (8 * (l / 8) + i) = true
  · right
    rw [load_is (stN_check hs hk (Nat.le_refl _) (by omega)) (by omega) (by omega) hr]
    have hv : rg (stN s l l n k).saved (8 * (l / 8) / 8) = kzero := by
      show rg (if l = l ∧ n = 8 ∧ l % 8 = 0 then (clearK s.saved l (l + n)).set (l / 8) k else clearK s.saved l (l + n)) (8 * (l / 8) / 8) = _
      rw [if_neg (by omega), clear_get, if_pos (by omega)]
    rw [hv, if_neg (fun c => c.2.2 rfl)]; rfl
  · left
    obtain ⟨i, hi, e⟩ := not_all (p := fun i => st (stN s l l n k).set (8 * (l / 8) + i)) hr
    rw [load_no ⟨i, hi, e⟩]
theorem store_check {s : Ab} {k : Kn} {l n : Nat} (hs : checkS s = true) (hk : right k = true) (h1 : 1 ≤ n) (hl : l + n ≤ 512) : checkS (storeS s l l n k) = true := by
  rw [store_is hs hk h1 hl]; exact stN_check hs hk (Nat.le_refl _) hl
/-- what the laws ask at any rate -/
theorem heads11 : checkS beginS = true ∧ loadS (storeS beginS 504 504 8 ⟨1, bconst 5#64, 0⟩) 504 504 8 = (⟨1, bconst 5#64, 0⟩, true) ∧ loadS (storeS beginS 504 504 8 ⟨1, bconst 5#64, 0⟩) 504 504 4 = (⟨1, bupto low32, 0⟩, true) ∧ (loadS beginS 504 504 8).2 = false ∧ readyS (storeS beginS 504 504 8 ⟨1, bconst 5#64, 0⟩) 504 512 = true ∧ readyS (storeS beginS 504 504 8 ⟨1, bconst 5#64, 0⟩) 503 512 = false ∧ holdsK (rg beginS.regs 1) 4294967296#64 = true ∧ withinS beginS (storeS beginS 504 504 8 ⟨1, bconst 5#64, 0⟩) = true ∧ withinS (storeS beginS 504 504 8 ⟨1, bconst 5#64, 0⟩) beginS = false := by
  decide +kernel
end Go.Proofs.Ytdipmlamjjpcoaa
