/- Plain facts on known bits (no program): words of 64 bits, what tnums hold, meet, join, range. -/
import Derived.IntWalk

/- Plain facts on known bits (no program): words of 64 bits, what tnums hold, meet, join, range. -/
namespace Go.Proofs.Yticjhcbkkkkckaa

abbrev B := BitVec 64
theorem bext {a b : B} (h : ∀ i, i < 64 → a.getLsbD i = b.getLsbD i) : a = b := BitVec.eq_of_getLsbD_eq h
theorem bat {a b : B} (h : a = b) (i : Nat) : a.getLsbD i = b.getLsbD i := by rw [h]
structure Tn where
  v : B
  m : B
deriving DecidableEq
def tin (t : Tn) (x : B) : Bool := x &&& ~~~t.m == t.v
def tcheck (t : Tn) : Bool := t.v &&& t.m == 0#64
def twithin (a b : Tn) : Bool := (b.m &&& ~~~a.m == 0#64) && (b.v &&& ~~~a.m == a.v)
def tof (v m : B) : Tn := ⟨v &&& ~~~m, m⟩
def tmeetT (a b : Tn) : Tn := tof (a.v ||| b.v) (a.m &&& b.m)
def tagree (a b : Tn) : Bool := (a.v ^^^ b.v) &&& ~~~(a.m ||| b.m) == 0#64
def tjoin (a b : Tn) : Tn := tof (a.v &&& b.v) (a.m ||| b.m ||| (a.v ^^^ b.v))
def low32 : B := 4294967295#64
def tlow (t : Tn) : Tn := ⟨t.v &&& low32, t.m &&& low32⟩

theorem tin_bit {t : Tn} {x : B} : tin t x = true ↔ ∀ i, i < 64 → (x.getLsbD i && !t.m.getLsbD i) = t.v.getLsbD i := by
  unfold tin
  rw [beq_iff_eq]
  constructor
  · intro h i hi
    have := bat h i
    simpa [hi] using this
  · intro h
    apply bext
    intro i hi
    simpa [hi] using h i hi
theorem tcheck_bit {t : Tn} : tcheck t = true ↔ ∀ i, i < 64 → (t.v.getLsbD i && t.m.getLsbD i) = false := by
  unfold tcheck
  rw [beq_iff_eq]
  constructor
  · intro h i hi
    have := bat h i
    simpa [hi] using this
  · intro h
    apply bext
    intro i hi
    simpa [hi] using h i hi
theorem twithin_bit {a b : Tn} : twithin a b = true ↔ ∀ i, i < 64 → (b.m.getLsbD i && !a.m.getLsbD i) = false ∧ (b.v.getLsbD i && !a.m.getLsbD i) = a.v.getLsbD i := by
  unfold twithin
  rw [Bool.and_eq_true, beq_iff_eq, beq_iff_eq]
  constructor
  · intro ⟨h1, h2⟩ i hi
    exact ⟨by simpa [hi] using bat h1 i, by simpa [hi] using bat h2 i⟩
  · intro h
    exact ⟨bext fun i hi => by simpa [hi] using (h i hi).1, bext fun i hi => by simpa [hi] using (h i hi).2⟩
theorem tagree_bit {a b : Tn} : tagree a b = true ↔ ∀ i, i < 64 → ((a.v.getLsbD i ^^ b.v.getLsbD i) && !(a.m.getLsbD i || b.m.getLsbD i)) = false := by
  unfold tagree
  rw [beq_iff_eq]
  constructor
  · intro h i hi
    simpa [hi] using bat h i
  · intro h
    exact bext fun i hi => by simpa [hi] using h i hi
theorem tof_v {v m : B} {i : Nat} (hi : i < 64) : (tof v m).v.getLsbD i = (v.getLsbD i && !m.getLsbD i) := by simp [tof, hi]
theorem tof_m {v m : B} {i : Nat} : (tof v m).m.getLsbD i = m.getLsbD i := rfl
theorem tof_check (v m : B) : tcheck (tof v m) = true := tcheck_bit.2 fun i hi => by
  rw [tof_v hi, tof_m]
  cases v.getLsbD i <;> cases m.getLsbD i <;> rfl
theorem tmeet_in {a b : Tn} {x : B} (ha : tcheck a = true) (hb : tcheck b = true) : (tin a x = true ∧ tin b x = true) ↔ (tagree a b = true ∧ tin (tmeetT a b) x = true) := by
  rw [tin_bit, tin_bit, tin_bit, tagree_bit]
  have ha := tcheck_bit.1 ha
  have hb := tcheck_bit.1 hb
  unfold tmeetT
  constructor
  · rintro ⟨h1, h2⟩
    refine ⟨fun i hi => ?_, fun i hi => ?_⟩
    · have a1 := ha i hi; have b1 := hb i hi; have c1 := h1 i hi; have d1 := h2 i hi
      revert a1 b1 c1 d1
      cases x.getLsbD i <;> cases a.v.getLsbD i <;> cases a.m.getLsbD i <;> cases b.v.getLsbD i <;> cases b.m.getLsbD i <;> simp
    · rw [tof_v hi, tof_m, BitVec.getLsbD_and, BitVec.getLsbD_or]
      have a1 := ha i hi; have b1 := hb i hi; have c1 := h1 i hi; have d1 := h2 i hi
      revert a1 b1 c1 d1
      cases x.getLsbD i <;> cases a.v.getLsbD i <;> cases a.m.getLsbD i <;> cases b.v.getLsbD i <;> cases b.m.getLsbD i <;> simp
  · rintro ⟨h1, h2⟩
    refine ⟨fun i hi => ?_, fun i hi => ?_⟩
    · have a1 := ha i hi; have b1 := hb i hi; have c1 := h1 i hi; have d1 := h2 i hi
      rw [tof_v hi, tof_m, BitVec.getLsbD_and, BitVec.getLsbD_or] at d1
      revert a1 b1 c1 d1
      cases x.getLsbD i <;> cases a.v.getLsbD i <;> cases a.m.getLsbD i <;> cases b.v.getLsbD i <;> cases b.m.getLsbD i <;> simp
    · have a1 := ha i hi; have b1 := hb i hi; have c1 := h1 i hi; have d1 := h2 i hi
      rw [tof_v hi, tof_m, BitVec.getLsbD_and, BitVec.getLsbD_or] at d1
      revert a1 b1 c1 d1
      cases x.getLsbD i <;> cases a.v.getLsbD i <;> cases a.m.getLsbD i <;> cases b.v.getLsbD i <;> cases b.m.getLsbD i <;> simp
theorem tjoin_in {a b : Tn} {x : B} (h : tin a x = true ∨ tin b x = true) : tin (tjoin a b) x = true := by
  rw [tin_bit]
  intro i hi
  unfold tjoin
  rw [tof_v hi, tof_m, BitVec.getLsbD_or, BitVec.getLsbD_or, BitVec.getLsbD_xor, BitVec.getLsbD_and]
  rcases h with h | h
  · have h1 := tin_bit.1 h i hi
    revert h1
    cases x.getLsbD i <;> cases a.v.getLsbD i <;> cases a.m.getLsbD i <;> cases b.v.getLsbD i <;> cases b.m.getLsbD i <;> simp
  · have h1 := tin_bit.1 h i hi
    revert h1
    cases x.getLsbD i <;> cases a.v.getLsbD i <;> cases a.m.getLsbD i <;> cases b.v.getLsbD i <;> cases b.m.getLsbD i <;> simp
theorem tjoin_within (a b : Tn) : twithin (tjoin a b) a = true ∧ twithin (tjoin a b) b = true := by
  rw [twithin_bit, twithin_bit]
  unfold tjoin
  refine ⟨fun i hi => ?_, fun i hi => ?_⟩ <;>
  · rw [tof_v hi, tof_m, BitVec.getLsbD_or, BitVec.getLsbD_or, BitVec.getLsbD_xor, BitVec.getLsbD_and]
    cases a.v.getLsbD i <;> cases a.m.getLsbD i <;> cases b.v.getLsbD i <;> cases b.m.getLsbD i <;> simp
theorem twithin_in {a b : Tn} {x : B} (h : twithin a b = true) (hx : tin b x = true) : tin a x = true := by
  rw [tin_bit]
  intro i hi
  have h1 := twithin_bit.1 h i hi
  have h2 := tin_bit.1 hx i hi
  revert h1 h2
  cases x.getLsbD i <;> cases a.v.getLsbD i <;> cases a.m.getLsbD i <;> cases b.v.getLsbD i <;> cases b.m.getLsbD i <;> simp
theorem tlow_in {t : Tn} {x : B} (h : tin t x = true) : tin (tlow t) (x &&& low32) = true := by
  rw [tin_bit]
  intro i hi
  have h2 := tin_bit.1 h i hi
  unfold tlow
  rw [BitVec.getLsbD_and, BitVec.getLsbD_and, BitVec.getLsbD_and]
  revert h2
  cases x.getLsbD i <;> cases t.v.getLsbD i <;> cases t.m.getLsbD i <;> cases low32.getLsbD i <;> simp
theorem tlow_check {t : Tn} (h : tcheck t = true) : tcheck (tlow t) = true := by
  rw [tcheck_bit]
  intro i hi
  have h2 := tcheck_bit.1 h i hi
  unfold tlow
  rw [BitVec.getLsbD_and, BitVec.getLsbD_and]
  revert h2
  cases t.v.getLsbD i <;> cases t.m.getLsbD i <;> cases low32.getLsbD i <;> simp
/-- one word's bits are all another one's: it is no greater -/
theorem sub_le {a b : B} (h : ∀ i, i < 64 → a.getLsbD i = true → b.getLsbD i = true) : a.toNat ≤ b.toNat := by
  have e : a = a &&& b := bext fun i hi => by
    have := h i hi
    simp only [BitVec.getLsbD_and]
    revert this
    cases a.getLsbD i <;> cases b.getLsbD i <;> simp
  rw [e, BitVec.toNat_and]
  exact Nat.and_le_right
theorem tin_le {t : Tn} {x : B} (h : tin t x = true) : t.v.toNat ≤ x.toNat ∧ x.toNat ≤ (t.v ||| t.m).toNat := by
  have hb := tin_bit.1 h
  refine ⟨sub_le fun i hi => ?_, sub_le fun i hi => ?_⟩
  · have := hb i hi
    revert this
    cases x.getLsbD i <;> cases t.v.getLsbD i <;> cases t.m.getLsbD i <;> simp
  · have := hb i hi
    rw [BitVec.getLsbD_or]
    revert this
    cases x.getLsbD i <;> cases t.v.getLsbD i <;> cases t.m.getLsbD i <;> simp
def topB : B := 9223372036854775808#64
def mostB : B := 9223372036854775807#64
def tlo (t : Tn) : B := t.v ||| (t.m &&& topB)
def thi (t : Tn) : B := t.v ||| (t.m &&& mostB)
theorem top_bit {i : Nat} (hi : i < 64) : topB.getLsbD i = decide (i = 63) := by
  have : ∀ i : Fin 64, topB.getLsbD i = decide (i.val = 63) := by decide +kernel
  exact this ⟨i, hi⟩
theorem most_bit {i : Nat} (hi : i < 64) : mostB.getLsbD i = !decide (i = 63) := by
  have : ∀ i : Fin 64, mostB.getLsbD i = !decide (i.val = 63) := by decide +kernel
  exact this ⟨i, hi⟩
/-- a word with its sign -/
theorem toInt_cases (x : B) : (x.getLsbD 63 = false ∧ x.toNat < 9223372036854775808 ∧ x.toInt = x.toNat) ∨ (x.getLsbD 63 = true ∧ 9223372036854775808 ≤ x.toNat ∧ x.toNat < 18446744073709551616 ∧ x.toInt = (x.toNat : Int) - 18446744073709551616) := by
  have hm : x.msb = x.getLsbD 63 := by simp [BitVec.msb_eq_getLsbD_last]
  have hl : x.toNat < 18446744073709551616 := x.isLt
  have h1 := BitVec.msb_eq_decide x
  have h2 := BitVec.toInt_eq_toNat_cond x
  cases hx : x.getLsbD 63
  · left
    rw [hm, hx] at h1
    have : ¬ (9223372036854775808 ≤ x.toNat) := by simpa using h1.symm
    refine ⟨rfl, by omega, ?_⟩
    rw [h2, if_pos (by omega)]
  · right
    rw [hm, hx] at h1
    have : 9223372036854775808 ≤ x.toNat := by simpa using h1.symm
    refine ⟨rfl, this, hl, ?_⟩
    rw [h2, if_neg (by omega)]
    rfl
theorem sle_of {a b : B} (h : a.getLsbD 63 = b.getLsbD 63 ∧ a.toNat ≤ b.toNat ∨ a.getLsbD 63 = true ∧ b.getLsbD 63 = false) : a.toInt ≤ b.toInt := by
  have ha := toInt_cases a
  have hb := toInt_cases b
  rcases h with ⟨h1, h2⟩ | ⟨h1, h2⟩
  · rcases ha with ⟨a1, a2, a3⟩ | ⟨a1, a2, a3, a4⟩ <;> rcases hb with ⟨b1, b2, b3⟩ | ⟨b1, b2, b3, b4⟩
    · omega
    · rw [a1, b1] at h1; cases h1
    · rw [a1, b1] at h1; cases h1
    · omega
  · rcases ha with ⟨a1, a2, a3⟩ | ⟨a1, a2, a3, a4⟩
    · rw [a1] at h1; cases h1
    · rcases hb with ⟨b1, b2, b3⟩ | ⟨b1, b2, b3, b4⟩
      · omega
      · rw [b1] at h2; cases h2
theorem tin_sle {t : Tn} {x : B} (h : tin t x = true) : (tlo t).toInt ≤ x.toInt ∧ x.toInt ≤ (thi t).toInt := by
  have hb := tin_bit.1 h
  have h63 := hb 63 (by omega)
  have l63 : (tlo t).getLsbD 63 = (t.v.getLsbD 63 || t.m.getLsbD 63) := by
    unfold tlo
    rw [BitVec.getLsbD_or, BitVec.getLsbD_and, top_bit (by omega)]
    simp
  have u63 : (thi t).getLsbD 63 = t.v.getLsbD 63 := by
    unfold thi
    rw [BitVec.getLsbD_or, BitVec.getLsbD_and, most_bit (by omega)]
    simp
  refine ⟨sle_of ?_, sle_of ?_⟩
  · rw [l63]
    by_cases hc : (t.v.getLsbD 63 || t.m.getLsbD 63) = x.getLsbD 63
    · refine .inl ⟨hc, sub_le fun i hi => ?_⟩
      have := hb i hi
      unfold tlo
      rw [BitVec.getLsbD_or, BitVec.getLsbD_and, top_bit hi]
      by_cases e : i = 63
      · subst e
        revert this hc
        cases x.getLsbD 63 <;> cases t.v.getLsbD 63 <;> cases t.m.getLsbD 63 <;> simp
      · rw [decide_eq_false e]
        revert this
        cases x.getLsbD i <;> cases t.v.getLsbD i <;> cases t.m.getLsbD i <;> simp
    · refine .inr ?_
      revert h63 hc
      cases x.getLsbD 63 <;> cases t.v.getLsbD 63 <;> cases t.m.getLsbD 63 <;> simp
  · rw [u63]
    by_cases hc : x.getLsbD 63 = t.v.getLsbD 63
    · refine .inl ⟨hc, sub_le fun i hi => ?_⟩
      have := hb i hi
      unfold thi
      rw [BitVec.getLsbD_or, BitVec.getLsbD_and, most_bit hi]
      by_cases e : i = 63
      · subst e
        revert this hc
        cases x.getLsbD 63 <;> cases t.v.getLsbD 63 <;> cases t.m.getLsbD 63 <;> simp
      · rw [decide_eq_false e]
        revert this
        cases x.getLsbD i <;> cases t.v.getLsbD i <;> cases t.m.getLsbD i <;> simp
    · refine .inr ?_
      revert h63 hc
      cases x.getLsbD 63 <;> cases t.v.getLsbD 63 <;> cases t.m.getLsbD 63 <;> simp
/-- as many low bits as a number has -/
def lenN (n : Nat) : Nat := if n = 0 then 0 else Nat.log2 n + 1
def fillN (n : Nat) : Nat := 2 ^ lenN n - 1
def rangeT (a b : B) : Tn := tof a (BitVec.ofNat 64 (fillN (a ^^^ b).toNat))
theorem lenN_lt (n : Nat) : n < 2 ^ lenN n := by
  unfold lenN
  split
  · omega
  · exact Nat.lt_log2_self
theorem lenN_le {n : Nat} (h : n < 18446744073709551616) : lenN n ≤ 64 := by
  unfold lenN
  split
  · omega
  · rename_i h0
    have := (Nat.log2_lt h0 (k := 64)).2 (by simpa using h)
    omega
theorem fill_bit {k i : Nat} (hi : i < 64) : (BitVec.ofNat 64 (2 ^ k - 1)).getLsbD i = decide (i < k) := by
  rw [BitVec.getLsbD_ofNat]
  simp [hi, Nat.testBit_two_pow_sub_one]
theorem range_in {a b x : B} (h1 : a.toNat ≤ x.toNat) (h2 : x.toNat ≤ b.toNat) : tin (rangeT a b) x = true := by
  rw [tin_bit]
  intro i hi
  unfold rangeT fillN
  rw [tof_v hi, tof_m, fill_bit hi]
  by_cases hik : i < lenN (a ^^^ b).toNat
  · simp only [hik, decide_true, Bool.not_true, Bool.and_false]
  · simp only [hik, decide_false, Bool.not_false, Bool.and_true]
    have hx : (a.toNat ^^^ b.toNat) < 2 ^ lenN (a ^^^ b).toNat := by
      have := lenN_lt (a ^^^ b).toNat
      rwa [BitVec.toNat_xor] at this ⊢
    generalize lenN (a ^^^ b).toNat = k at *
    have e1 : a.toNat / 2 ^ k = b.toNat / 2 ^ k := by
      have : (a.toNat ^^^ b.toNat) >>> k = 0 := by rw [Nat.shiftRight_eq_div_pow]; exact Nat.div_eq_of_lt hx
      rw [Nat.shiftRight_xor_distrib] at this
      have e : a.toNat >>> k = b.toNat >>> k := Nat.eq_of_testBit_eq fun j => by
        have h := congrArg (Nat.testBit · j) this
        simp only [Nat.testBit_xor, Nat.zero_testBit] at h
        revert h
        cases (a.toNat >>> k).testBit j <;> cases (b.toNat >>> k).testBit j <;> simp
      rw [Nat.shiftRight_eq_div_pow, Nat.shiftRight_eq_div_pow] at e
      exact e
    have e2 : x.toNat / 2 ^ k = a.toNat / 2 ^ k := by
      have l1 := Nat.div_le_div_right (c := 2 ^ k) h1
      have l2 := Nat.div_le_div_right (c := 2 ^ k) h2
      omega
    have t : ∀ y : B, y.getLsbD i = (y.toNat / 2 ^ k).testBit (i - k) := fun y => by
      rw [← Nat.shiftRight_eq_div_pow, Nat.testBit_shiftRight]
      show y.toNat.testBit i = _
      congr 1
      omega
    rw [t x, t a, e2]
end Go.Proofs.Yticjhcbkkkkckaa

/- Plain facts on bounds (no program): tidying loses nothing, meets, joins, cuts. -/
namespace Go.Proofs.Yticjhcbkkkkckaa

/-- what is known of a number: with signs (sl, sh) and without (ul, uh), and bits -/
structure Bd where
  ul : B
  uh : B
  sl : B
  sh : B
  t : Tn
deriving DecidableEq
def umax (a b : B) : B := if a.toNat < b.toNat then b else a
def umin (a b : B) : B := if b.toNat < a.toNat then b else a
def smax (a b : B) : B := if a.toInt < b.toInt then b else a
def smin (a b : B) : B := if b.toInt < a.toInt then b else a
def uinB (b : Bd) (x : B) : Bool := decide (b.ul.toNat ≤ x.toNat) && decide (x.toNat ≤ b.uh.toNat)
def sinB (b : Bd) (x : B) : Bool := decide (b.sl.toInt ≤ x.toInt) && decide (x.toInt ≤ b.sh.toInt)
def bin (b : Bd) (x : B) : Bool := uinB b x && sinB b x && tin b.t x
def bcheck (b : Bd) : Bool := decide (b.ul.toNat ≤ b.uh.toNat) && decide (b.sl.toInt ≤ b.sh.toInt) && tcheck b.t
def bgood (b : Bd) : Bool := decide (b.ul.toNat ≤ b.uh.toNat) && decide (b.sl.toInt ≤ b.sh.toInt)
def bwithin (a b : Bd) : Bool := uinB a b.ul && uinB a b.uh && sinB a b.sl && sinB a b.sh && twithin a.t b.t
def banyT : Tn := ⟨0#64, 18446744073709551615#64⟩
def bany : Bd := ⟨0#64, 18446744073709551615#64, topB, mostB, banyT⟩
def bzero : Bd := ⟨0#64, 0#64, 0#64, 0#64, ⟨0#64, 0#64⟩⟩
def bconst (x : B) : Bd := ⟨x, x, x, x, ⟨x, 0#64⟩⟩
def bupto (x : B) : Bd := ⟨0#64, x, 0#64, x, ⟨0#64, x⟩⟩
/-- the first part of tidying -/
def tidyB (b : Bd) : Bd := ⟨umax b.ul b.t.v, umin b.uh (b.t.v ||| b.t.m), smax b.sl (tlo b.t), smin b.sh (thi b.t), b.t⟩
/-- the second part -/
def tidyS (b : Bd) : Bd :=
  if 0 ≤ b.sl.toInt ∨ b.sh.toInt < 0 then ⟨umax b.ul b.sl, umin b.uh b.sh, umax b.ul b.sl, umin b.uh b.sh, b.t⟩
  else if 0 ≤ b.uh.toInt then ⟨b.ul, smin b.sh b.uh, b.ul, smin b.sh b.uh, b.t⟩
  else if b.ul.toInt < 0 then ⟨smax b.sl b.ul, b.uh, smax b.sl b.ul, b.uh, b.t⟩
  else b
def tidyR (b : Bd) : Bd := { b with t := tmeetT b.t (rangeT b.ul b.uh) }
/-- one round of tidying -/
def tidy1 (b : Bd) : Option Bd :=
  if bgood (tidyB b) = false then none
  else if tagree (tidyS (tidyB b)).t (rangeT (tidyS (tidyB b)).ul (tidyS (tidyB b)).uh) = false ∨ bgood (tidyS (tidyB b)) = false then none
  else some (tidyR (tidyS (tidyB b)))
def tidy (b : Bd) : Option Bd := (tidy1 b).bind tidy1
def bjoin (a b : Bd) : Bd := ⟨umin a.ul b.ul, umax a.uh b.uh, smin a.sl b.sl, smax a.sh b.sh, tjoin a.t b.t⟩
def bmeet (a b : Bd) : Option Bd := if tagree a.t b.t = false then none else tidy ⟨umax a.ul b.ul, umin a.uh b.uh, smax a.sl b.sl, smin a.sh b.sh, tmeetT a.t b.t⟩
def blow (b : Bd) : Bd := if b.uh.toNat ≤ 4294967295 then b else (tidy { bupto low32 with t := tlow b.t }).getD (bupto low32)

theorem bin_iff {b : Bd} {x : B} : bin b x = true ↔ ((b.ul.toNat ≤ x.toNat ∧ x.toNat ≤ b.uh.toNat) ∧ (b.sl.toInt ≤ x.toInt ∧ x.toInt ≤ b.sh.toInt)) ∧ tin b.t x = true := by
  simp [bin, uinB, sinB]
theorem bcheck_iff {b : Bd} : bcheck b = true ↔ (b.ul.toNat ≤ b.uh.toNat ∧ b.sl.toInt ≤ b.sh.toInt) ∧ tcheck b.t = true := by
  simp [bcheck]
theorem bgood_iff {b : Bd} : bgood b = true ↔ b.ul.toNat ≤ b.uh.toNat ∧ b.sl.toInt ≤ b.sh.toInt := by
  simp [bgood]
theorem umax_le {a b : B} {n : Nat} : (umax a b).toNat ≤ n ↔ a.toNat ≤ n ∧ b.toNat ≤ n := by unfold umax; split <;> omega
theorem le_umin {a b : B} {n : Nat} : n ≤ (umin a b).toNat ↔ n ≤ a.toNat ∧ n ≤ b.toNat := by unfold umin; split <;> omega
theorem smax_le {a b : B} {n : Int} : (smax a b).toInt ≤ n ↔ a.toInt ≤ n ∧ b.toInt ≤ n := by unfold smax; split <;> omega
theorem le_smin {a b : B} {n : Int} : n ≤ (smin a b).toInt ↔ n ≤ a.toInt ∧ n ≤ b.toInt := by unfold smin; split <;> omega
theorem umin_le {a b : B} : (umin a b).toNat ≤ a.toNat ∧ (umin a b).toNat ≤ b.toNat := by unfold umin; split <;> omega
theorem le_umax {a b : B} : a.toNat ≤ (umax a b).toNat ∧ b.toNat ≤ (umax a b).toNat := by unfold umax; split <;> omega
theorem smin_le {a b : B} : (smin a b).toInt ≤ a.toInt ∧ (smin a b).toInt ≤ b.toInt := by unfold smin; split <;> omega
theorem le_smax {a b : B} : a.toInt ≤ (smax a b).toInt ∧ b.toInt ≤ (smax a b).toInt := by unfold smax; split <;> omega
theorem tidyB_in {b : Bd} {x : B} : bin (tidyB b) x = true ↔ bin b x = true := by
  rw [bin_iff, bin_iff]
  unfold tidyB
  simp only [umax_le, le_umin, smax_le, le_smin]
  constructor
  · rintro ⟨⟨⟨⟨h1, _⟩, h2, _⟩, ⟨h3, _⟩, h4, _⟩, h5⟩
    exact ⟨⟨⟨h1, h2⟩, h3, h4⟩, h5⟩
  · rintro ⟨⟨⟨h1, h2⟩, h3, h4⟩, h5⟩
    have a := tin_le h5
    have c := tin_sle h5
    exact ⟨⟨⟨⟨h1, a.1⟩, h2, a.2⟩, ⟨h3, c.1⟩, h4, c.2⟩, h5⟩
/-- a word's two readings -/
theorem two (x : B) : (x.toNat < 9223372036854775808 ∧ x.toInt = x.toNat) ∨ (9223372036854775808 ≤ x.toNat ∧ x.toNat < 18446744073709551616 ∧ x.toInt = (x.toNat : Int) - 18446744073709551616) := by
  rcases toInt_cases x with ⟨_, h⟩ | ⟨_, h⟩
  · exact .inl h
  · exact .inr h
theorem tidyS_in {b : Bd} {x : B} (hg : bgood b = true) : bin (tidyS b) x = true ↔ bin b x = true := by
  obtain ⟨g1, g2⟩ := bgood_iff.1 hg
  have dx := two x
  have d1 := two b.ul
  have d2 := two b.uh
  have d3 := two b.sl
  have d4 := two b.sh
  rw [bin_iff, bin_iff]
  unfold tidyS
  split
  · simp only [umax_le, le_umin]
    have e1 : (umax b.ul b.sl).toInt ≤ x.toInt ∧ x.toInt ≤ (umin b.uh b.sh).toInt ∧ (b.ul.toNat ≤ x.toNat ∧ b.sl.toNat ≤ x.toNat) ∧ x.toNat ≤ b.uh.toNat ∧ x.toNat ≤ b.sh.toNat ↔ (b.ul.toNat ≤ x.toNat ∧ x.toNat ≤ b.uh.toNat) ∧ (b.sl.toInt ≤ x.toInt ∧ x.toInt ≤ b.sh.toInt) := by
      have u1 : (umax b.ul b.sl).toInt = if b.ul.toNat < b.sl.toNat then b.sl.toInt else b.ul.toInt := by unfold umax; split <;> rfl
      have u2 : (umin b.uh b.sh).toInt = if b.sh.toNat < b.uh.toNat then b.sh.toInt else b.uh.toInt := by unfold umin; split <;> rfl
      rw [u1, u2]
      split <;> split <;> omega
    constructor
    · rintro ⟨⟨⟨h1, h2⟩, h3, h4⟩, h5⟩
      exact ⟨e1.1 ⟨h3, h4, h1, h2⟩, h5⟩
    · rintro ⟨h, h5⟩
      obtain ⟨h3, h4, h1, h2⟩ := e1.2 h
      exact ⟨⟨⟨h1, h2⟩, h3, h4⟩, h5⟩
  · split
    · have u1 : (smin b.sh b.uh).toNat = if b.uh.toInt < b.sh.toInt then b.uh.toNat else b.sh.toNat := by unfold smin; split <;> rfl
      simp only [le_smin, u1]
      have e : ((b.ul.toNat ≤ x.toNat ∧ x.toNat ≤ if b.uh.toInt < b.sh.toInt then b.uh.toNat else b.sh.toNat) ∧ b.ul.toInt ≤ x.toInt ∧ x.toInt ≤ b.sh.toInt ∧ x.toInt ≤ b.uh.toInt) ↔ (b.ul.toNat ≤ x.toNat ∧ x.toNat ≤ b.uh.toNat) ∧ b.sl.toInt ≤ x.toInt ∧ x.toInt ≤ b.sh.toInt := by
        split <;> omega
      rw [e]
    · split
      · have u1 : (smax b.sl b.ul).toNat = if b.sl.toInt < b.ul.toInt then b.ul.toNat else b.sl.toNat := by unfold smax; split <;> rfl
        simp only [smax_le, u1]
        have e : (((if b.sl.toInt < b.ul.toInt then b.ul.toNat else b.sl.toNat) ≤ x.toNat ∧ x.toNat ≤ b.uh.toNat) ∧ (b.sl.toInt ≤ x.toInt ∧ b.ul.toInt ≤ x.toInt) ∧ x.toInt ≤ b.uh.toInt) ↔ (b.ul.toNat ≤ x.toNat ∧ x.toNat ≤ b.uh.toNat) ∧ b.sl.toInt ≤ x.toInt ∧ x.toInt ≤ b.sh.toInt := by
          split <;> omega
        rw [e]
      · exact Iff.rfl
theorem tidyS_t (b : Bd) : (tidyS b).t = b.t := by unfold tidyS; (repeat' split) <;> rfl
theorem range_check (a b : B) : tcheck (rangeT a b) = true := tof_check _ _
/-- one round loses nothing -/
theorem tidy1_some {a b : Bd} (ht : tcheck a.t = true) (h : tidy1 a = some b) : bcheck b = true ∧ ∀ x, bin b x = bin a x := by
  unfold tidy1 at h
  by_cases h1 : bgood (tidyB a) = false
  · rw [if_pos h1] at h; cases h
  rw [if_neg h1] at h
  by_cases h2 : tagree (tidyS (tidyB a)).t (rangeT (tidyS (tidyB a)).ul (tidyS (tidyB a)).uh) = false ∨ bgood (tidyS (tidyB a)) = false
  · rw [if_pos h2] at h; cases h
  rw [if_neg h2] at h
  injection h with h
  subst h
  have g1 : bgood (tidyB a) = true := by simpa using h1
  have g2 : tagree (tidyS (tidyB a)).t (rangeT (tidyS (tidyB a)).ul (tidyS (tidyB a)).uh) = true ∧ bgood (tidyS (tidyB a)) = true := by simpa using h2
  have tt : tcheck (tidyS (tidyB a)).t = true := by rw [tidyS_t]; exact ht
  refine ⟨bcheck_iff.2 ⟨bgood_iff.1 g2.2, tof_check _ _⟩, fun x => ?_⟩
  rw [Bool.eq_iff_iff, ← tidyB_in (b := a), ← tidyS_in g1]
  generalize tidyS (tidyB a) = s at *
  rw [bin_iff, bin_iff]
  unfold tidyR
  have hm := tmeet_in (x := x) tt (range_check s.ul s.uh)
  constructor
  · rintro ⟨h1, h2⟩
    exact ⟨h1, (hm.2 ⟨g2.1, h2⟩).1⟩
  · rintro ⟨h1, h2⟩
    exact ⟨h1, (hm.1 ⟨h2, range_in h1.1.1 h1.1.2⟩).2⟩
theorem tidy1_none {a : Bd} (ht : tcheck a.t = true) (h : tidy1 a = none) (x : B) : bin a x = false := by
  unfold tidy1 at h
  rw [Bool.eq_false_iff]
  intro hx
  have hB := tidyB_in.2 hx
  by_cases h1 : bgood (tidyB a) = false
  · have := bin_iff.1 hB
    have g : bgood (tidyB a) = true := bgood_iff.2 ⟨by omega, by omega⟩
    rw [g] at h1; cases h1
  rw [if_neg h1] at h
  have g1 : bgood (tidyB a) = true := by simpa using h1
  have hS := (tidyS_in (x := x) g1).2 hB
  have tt : tcheck (tidyS (tidyB a)).t = true := by rw [tidyS_t]; exact ht
  generalize tidyS (tidyB a) = s at *
  have hs := bin_iff.1 hS
  have g2 : bgood s = true := bgood_iff.2 ⟨by omega, by omega⟩
  have g3 := ((tmeet_in (x := x) tt (range_check s.ul s.uh)).1 ⟨hs.2, range_in hs.1.1.1 hs.1.1.2⟩).1
  rw [if_neg (by rw [g2, g3]; simp)] at h
  cases h
theorem tidy_some {a b : Bd} (ht : tcheck a.t = true) (h : tidy a = some b) : bcheck b = true ∧ ∀ x, bin b x = bin a x := by
  unfold tidy at h
  cases h1 : tidy1 a with
  | none => rw [h1] at h; cases h
  | some c =>
    rw [h1] at h
    obtain ⟨c1, c2⟩ := tidy1_some ht h1
    obtain ⟨b1, b2⟩ := tidy1_some (bcheck_iff.1 c1).2 h
    exact ⟨b1, fun x => (b2 x).trans (c2 x)⟩
theorem tidy_none {a : Bd} (ht : tcheck a.t = true) (h : tidy a = none) (x : B) : bin a x = false := by
  unfold tidy at h
  cases h1 : tidy1 a with
  | none => exact tidy1_none ht h1 x
  | some c =>
    rw [h1] at h
    obtain ⟨c1, c2⟩ := tidy1_some ht h1
    rw [← c2 x]
    exact tidy1_none (bcheck_iff.1 c1).2 h x
theorem bmeet_in {a b : Bd} {x : B} (ha : bcheck a = true) (hb : bcheck b = true) :
    (bin a x = true ∧ bin b x = true) ↔ ∃ m, bmeet a b = some m ∧ bin m x = true := by
  have ta := (bcheck_iff.1 ha).2
  have tb := (bcheck_iff.1 hb).2
  have hm := tmeet_in (x := x) ta tb
  have key : (bin a x = true ∧ bin b x = true) ↔ tagree a.t b.t = true ∧ bin ⟨umax a.ul b.ul, umin a.uh b.uh, smax a.sl b.sl, smin a.sh b.sh, tmeetT a.t b.t⟩ x = true := by
    rw [bin_iff, bin_iff, bin_iff]
    simp only [umax_le, le_umin, smax_le, le_smin]
    constructor
    · rintro ⟨⟨h1, h2⟩, h3, h4⟩
      obtain ⟨m1, m2⟩ := hm.1 ⟨h2, h4⟩
      exact ⟨m1, ⟨⟨⟨h1.1.1, h3.1.1⟩, h1.1.2, h3.1.2⟩, ⟨h1.2.1, h3.2.1⟩, h1.2.2, h3.2.2⟩, m2⟩
    · rintro ⟨m1, ⟨⟨⟨a1, a2⟩, a3, a4⟩, ⟨a5, a6⟩, a7, a8⟩, m2⟩
      obtain ⟨n1, n2⟩ := hm.2 ⟨m1, m2⟩
      exact ⟨⟨⟨⟨a1, a3⟩, a5, a7⟩, n1⟩, ⟨⟨a2, a4⟩, a6, a8⟩, n2⟩
  rw [key]
  have tt : tcheck (⟨umax a.ul b.ul, umin a.uh b.uh, smax a.sl b.sl, smin a.sh b.sh, tmeetT a.t b.t⟩ : Bd).t = true := tof_check _ _
  unfold bmeet
  constructor
  · rintro ⟨g, h⟩
    rw [if_neg (by rw [g]; simp)]
    cases hd : tidy ⟨umax a.ul b.ul, umin a.uh b.uh, smax a.sl b.sl, smin a.sh b.sh, tmeetT a.t b.t⟩ with
    | none => rw [tidy_none tt hd x] at h; cases h
    | some m => exact ⟨m, rfl, by rw [(tidy_some tt hd).2 x]; exact h⟩
  · rintro ⟨m, h1, h2⟩
    by_cases g : tagree a.t b.t = false
    · rw [if_pos g] at h1; cases h1
    · rw [if_neg g] at h1
      exact ⟨by simpa using g, by rw [← (tidy_some tt h1).2 x]; exact h2⟩
theorem bjoin_in {a b : Bd} {x : B} (h : bin a x = true ∨ bin b x = true) : bin (bjoin a b) x = true := by
  rw [bin_iff, bin_iff] at h
  rw [bin_iff]
  unfold bjoin
  have i1 := umin_le (a := a.ul) (b := b.ul)
  have i2 := le_umax (a := a.uh) (b := b.uh)
  have i3 := smin_le (a := a.sl) (b := b.sl)
  have i4 := le_smax (a := a.sh) (b := b.sh)
  refine ⟨⟨⟨?_, ?_⟩, ?_, ?_⟩, tjoin_in ?_⟩
  · show (umin a.ul b.ul).toNat ≤ _; omega
  · show _ ≤ (umax a.uh b.uh).toNat; omega
  · show (smin a.sl b.sl).toInt ≤ _; omega
  · show _ ≤ (smax a.sh b.sh).toInt; omega
  · rcases h with h | h
    · exact .inl h.2
    · exact .inr h.2
theorem bjoin_within {a b : Bd} (ha : bcheck a = true) (hb : bcheck b = true) : bwithin (bjoin a b) a = true ∧ bwithin (bjoin a b) b = true := by
  have ga := (bcheck_iff.1 ha).1
  have gb := (bcheck_iff.1 hb).1
  have i1 := umin_le (a := a.ul) (b := b.ul)
  have i2 := le_umax (a := a.uh) (b := b.uh)
  have i3 := smin_le (a := a.sl) (b := b.sl)
  have i4 := le_smax (a := a.sh) (b := b.sh)
  have ht := tjoin_within a.t b.t
  unfold bwithin uinB sinB bjoin
  simp only [Bool.and_eq_true, decide_eq_true_eq]
  refine ⟨⟨⟨⟨⟨⟨?_, ?_⟩, ?_, ?_⟩, ?_, ?_⟩, ?_, ?_⟩, ht.1⟩, ⟨⟨⟨⟨?_, ?_⟩, ?_, ?_⟩, ?_, ?_⟩, ?_, ?_⟩, ht.2⟩ <;> omega
theorem bwithin_in {a b : Bd} {x : B} (h : bwithin a b = true) (hx : bin b x = true) : bin a x = true := by
  unfold bwithin uinB sinB at h
  simp only [Bool.and_eq_true, decide_eq_true_eq] at h
  have hb := bin_iff.1 hx
  obtain ⟨⟨⟨⟨h1, h2⟩, h3⟩, h4⟩, h5⟩ := h
  exact bin_iff.2 ⟨⟨⟨by omega, by omega⟩, by omega, by omega⟩, twithin_in h5 hb.2⟩
end Go.Proofs.Yticjhcbkkkkckaa

/- Plain facts on bounds (no program): what is cut; known numbers. -/
namespace Go.Proofs.Yticjhcbkkkkckaa

theorem tidyB_uh (b : Bd) : (tidyB b).uh.toNat ≤ b.uh.toNat := umin_le.1
theorem tidyS_uh (b : Bd) : (tidyS b).uh.toNat ≤ b.uh.toNat := by
  unfold tidyS
  split
  · exact umin_le.1
  · rename_i h1
    split
    · rename_i h2
      have d1 := two b.uh
      have d2 := two b.sh
      show (smin b.sh b.uh).toNat ≤ _
      unfold smin
      split <;> omega
    · split <;> exact Nat.le_refl _
theorem tidy1_uh {a b : Bd} (h : tidy1 a = some b) : b.uh.toNat ≤ a.uh.toNat := by
  unfold tidy1 at h
  by_cases h1 : bgood (tidyB a) = false
  · rw [if_pos h1] at h; cases h
  rw [if_neg h1] at h
  by_cases h2 : tagree (tidyS (tidyB a)).t (rangeT (tidyS (tidyB a)).ul (tidyS (tidyB a)).uh) = false ∨ bgood (tidyS (tidyB a)) = false
  · rw [if_pos h2] at h; cases h
  rw [if_neg h2] at h
  injection h with h
  subst h
  exact Nat.le_trans (tidyS_uh _) (tidyB_uh _)
theorem tidy_uh {a b : Bd} (h : tidy a = some b) : b.uh.toNat ≤ a.uh.toNat := by
  unfold tidy at h
  cases h1 : tidy1 a with
  | none => rw [h1] at h; cases h
  | some c =>
    rw [h1] at h
    exact Nat.le_trans (tidy1_uh h) (tidy1_uh h1)
theorem low_le (x : B) : (x &&& low32).toNat ≤ 4294967295 := by
  rw [BitVec.toNat_and]
  exact Nat.and_le_right
theorem low_same {x : B} (h : x.toNat ≤ 4294967295) : x &&& low32 = x := by
  apply BitVec.eq_of_toNat_eq
  rw [BitVec.toNat_and]
  show x.toNat &&& (2 ^ 32 - 1) = _
  rw [Nat.and_two_pow_sub_one_eq_mod]
  exact Nat.mod_eq_of_lt (by omega)
theorem low_toInt (x : B) : (x &&& low32).toInt = ((x &&& low32).toNat : Int) := by
  have := low_le x
  rcases two (x &&& low32) with h | h
  · exact h.2
  · omega
/-- a number's lowest 32 bits are in what is cut -/
theorem blow_in {b : Bd} {x : B} (hb : bcheck b = true) (hx : bin b x = true) : bin (blow b) (x &&& low32) = true ∧ (blow b).uh.toNat ≤ 4294967295 := by
  have h := bin_iff.1 hx
  have ht := (bcheck_iff.1 hb).2
  unfold blow
  split
  · rename_i h1
    rw [low_same (by omega)]
    exact ⟨hx, h1⟩
  · have e : bin { bupto low32 with t := tlow b.t } (x &&& low32) = true := by
      rw [bin_iff]
      have := low_le x
      have h2 := low_toInt x
      refine ⟨⟨⟨Nat.zero_le _, this⟩, ?_, ?_⟩, tlow_in h.2⟩
      · show (0 : Int) ≤ _
        omega
      · show _ ≤ (4294967295 : Int)
        omega
    have tt : tcheck ({ bupto low32 with t := tlow b.t } : Bd).t = true := tlow_check ht
    cases hd : tidy { bupto low32 with t := tlow b.t } with
    | none => rw [tidy_none tt hd] at e; cases e
    | some m =>
      refine ⟨?_, ?_⟩
      · show bin m _ = true
        rw [(tidy_some tt hd).2]
        exact e
      · exact tidy_uh hd
theorem and_all (x : B) : x &&& 18446744073709551615#64 = x := by
  have : (18446744073709551615#64 : B) = BitVec.allOnes 64 := by decide +kernel
  rw [this, BitVec.and_allOnes]
/-- known numbers -/
def bvalue (b : Bd) : B × Bool := if b.ul = b.uh then (b.ul, true) else (0#64, false)
theorem umax_self (x : B) : umax x x = x := by simp [umax]
theorem umin_self (x : B) : umin x x = x := by simp [umin]
theorem smax_self (x : B) : smax x x = x := by simp [smax]
theorem smin_self (x : B) : smin x x = x := by simp [smin]
theorem range_self (x : B) : rangeT x x = ⟨x, 0#64⟩ := by
  simp [rangeT, tof, fillN, lenN, and_all]
theorem tidy1_const (x : B) : tidy1 (bconst x) = some (bconst x) := by
  have e1 : tidyB (bconst x) = bconst x := by
    simp [tidyB, bconst, umax_self, umin_self, smax_self, smin_self, tlo, thi]
  have e2 : tidyS (bconst x) = bconst x := by
    unfold tidyS
    rw [if_pos (show 0 ≤ (bconst x).sl.toInt ∨ (bconst x).sh.toInt < 0 by show 0 ≤ x.toInt ∨ x.toInt < 0; omega)]
    simp [bconst, umax_self, umin_self]
  have e3 : bgood (bconst x) = true := by simp [bgood, bconst]
  have e4 : tagree (bconst x).t (rangeT (bconst x).ul (bconst x).uh) = true := by simp [bconst, range_self, tagree]
  unfold tidy1
  rw [e1, e2, if_neg (by rw [e3]; simp), if_neg (by rw [e3, e4]; simp)]
  simp [tidyR, bconst, range_self, tmeetT, tof, and_all]
theorem tidy_const (x : B) : tidy (bconst x) = some (bconst x) := by
  unfold tidy
  rw [tidy1_const]
  exact tidy1_const x
theorem const_in (x y : B) : bin (bconst x) y = (x == y) := by
  rw [Bool.eq_iff_iff, bin_iff, beq_iff_eq]
  constructor
  · rintro ⟨⟨⟨h1, h2⟩, _⟩, _⟩
    exact BitVec.eq_of_toNat_eq (Nat.le_antisymm h1 h2)
  · rintro rfl
    exact ⟨⟨⟨Nat.le_refl _, Nat.le_refl _⟩, Int.le_refl _, Int.le_refl _⟩, by simp [bconst, tin, and_all]⟩
theorem top_int (x : B) : topB.toInt ≤ x.toInt ∧ x.toInt ≤ mostB.toInt := by
  have e1 : topB.toInt = -9223372036854775808 := by decide +kernel
  have e2 : mostB.toInt = 9223372036854775807 := by decide +kernel
  rw [e1, e2]
  have := two x
  omega
theorem any_within (x : B) : bwithin bany (bconst x) = true := by
  have h := top_int x
  have hl : x.toNat ≤ 18446744073709551615 := by have := x.isLt; omega
  unfold bwithin uinB sinB
  simp only [Bool.and_eq_true, decide_eq_true_eq]
  refine ⟨⟨⟨⟨⟨Nat.zero_le _, hl⟩, Nat.zero_le _, hl⟩, h⟩, h⟩, ?_⟩
  rw [twithin_bit]
  intro i hi
  have : ∀ i : Fin 64, banyT.m.getLsbD i = true := by decide +kernel
  have hm : bany.t.m.getLsbD i = true := this ⟨i, hi⟩
  rw [hm]
  simp [bany, banyT]
theorem join_const (x : B) : bjoin (bconst x) (bconst x) = bconst x := by
  simp [bjoin, bconst, umin_self, umax_self, smin_self, smax_self, tjoin, tof, and_all]
/-- all numbers, but from x to x -/
def bone (x : B) : Bd := { bany with ul := x, uh := x }
theorem smax_top (x : B) : smax topB x = x := by
  have := (top_int x).1
  unfold smax
  split
  · rfl
  · exact BitVec.eq_of_toInt_eq (by omega)
theorem smin_most (x : B) : smin mostB x = x := by
  have := (top_int x).2
  unfold smin
  split
  · rfl
  · exact BitVec.eq_of_toInt_eq (by omega)
theorem tidy1_one (x : B) : tidy1 (bone x) = some (bconst x) := by
  have e1 : tidyB (bone x) = bone x := by
    have l1 : tlo banyT = topB := by decide +kernel
    have l2 : thi banyT = mostB := by decide +kernel
    have l3 : (banyT.v ||| banyT.m) = 18446744073709551615#64 := by decide +kernel
    have u1 : umax x 0#64 = x := by unfold umax; rw [if_neg (by simp)]
    have u2 : umin x 18446744073709551615#64 = x := by unfold umin; rw [if_neg (by have := x.isLt; simp; omega)]
    show (⟨umax x 0#64, umin x (banyT.v ||| banyT.m), smax topB (tlo banyT), smin mostB (thi banyT), banyT⟩ : Bd) = _
    rw [l1, l2, l3, u1, u2, smax_self, smin_self]
    rfl
  have e2 : tidyS (bone x) = { bconst x with t := banyT } := by
    unfold tidyS
    have n1 : ¬ (0 ≤ (bone x).sl.toInt ∨ (bone x).sh.toInt < 0) := by
      have a : (bone x).sl.toInt = -9223372036854775808 := by show topB.toInt = _; decide +kernel
      have b : (bone x).sh.toInt = 9223372036854775807 := by show mostB.toInt = _; decide +kernel
      omega
    rw [if_neg n1]
    show (if 0 ≤ x.toInt then (⟨x, smin mostB x, x, smin mostB x, banyT⟩ : Bd) else if x.toInt < 0 then ⟨smax topB x, x, smax topB x, x, banyT⟩ else bone x) = _
    rw [smin_most, smax_top]
    split
    · rfl
    · rw [if_pos (by omega)]; rfl
  have e3 : bgood (bone x) = true := by
    rw [bgood_iff]
    exact ⟨Nat.le_refl _, (top_int topB).2⟩
  have e4 : bgood { bconst x with t := banyT } = true := by rw [bgood_iff]; exact ⟨Nat.le_refl _, Int.le_refl _⟩
  have hm : ∀ i, i < 64 → banyT.m.getLsbD i = true := fun i hi => by
    have : ∀ i : Fin 64, banyT.m.getLsbD i = true := by decide +kernel
    exact this ⟨i, hi⟩
  have e5 : tagree banyT (rangeT x x) = true := by
    rw [tagree_bit]
    intro i hi
    rw [hm i hi]
    simp
  have e6 : tmeetT banyT ⟨x, 0#64⟩ = ⟨x, 0#64⟩ := by
    simp [tmeetT, tof, banyT, and_all]
  unfold tidy1
  rw [e1, e2, if_neg (by rw [e3]; simp), if_neg (by rw [e4]; show ¬ (tagree banyT (rangeT x x) = false ∨ _); rw [e5]; simp)]
  show some ({ bconst x with t := tmeetT banyT (rangeT x x) } : Bd) = _
  rw [range_self, e6]
  rfl
theorem tidy_one (x : B) : tidy (bone x) = some (bconst x) := by
  unfold tidy
  rw [tidy1_one]
  exact tidy1_const x
/-- what the laws ask at any rate -/
theorem heads8 : tidy ⟨0#64, 5#64, 18446744073709551613#64, 9#64, banyT⟩ = some ⟨0#64, 5#64, 0#64, 5#64, ⟨0#64, 7#64⟩⟩ ∧ bmeet (bconst 1#64) (bconst 2#64) = none ∧ bin (bupto 255#64) 255#64 = true ∧ bin (bupto 255#64) 256#64 = false := by
  decide +kernel
end Go.Proofs.Yticjhcbkkkkckaa

/- Plain facts on known bits (no program): sums, differences, products, shifts of what is known hold what is reckoned. -/
namespace Go.Proofs.Yticjhcbkkkkckaa

def tadd (a b : Tn) : Tn := tof (a.v + b.v) (((a.m + b.m + (a.v + b.v)) ^^^ (a.v + b.v)) ||| a.m ||| b.m)
def tsub (a b : Tn) : Tn := tof (a.v - b.v) (((a.v - b.v + a.m) ^^^ (a.v - b.v - b.m)) ||| a.m ||| b.m)
def tand (a b : Tn) : Tn := ⟨a.v &&& b.v, (a.v ||| a.m) &&& (b.v ||| b.m) &&& ~~~(a.v &&& b.v)⟩
def tor (a b : Tn) : Tn := ⟨a.v ||| b.v, (a.m ||| b.m) &&& ~~~(a.v ||| b.v)⟩
def txor (a b : Tn) : Tn := tof (a.v ^^^ b.v) (a.m ||| b.m)
def tshl (a : Tn) (n : Nat) : Tn := ⟨a.v <<< n, a.m <<< n⟩
def tshr (a : Tn) (n : Nat) : Tn := ⟨a.v >>> n, a.m >>> n⟩
def tsar (a : Tn) (n : Nat) : Tn := ⟨a.v.sshiftRight n, a.m.sshiftRight n⟩

/-- one word's bits are all another one's -/
def sub1 (a b : B) : Prop := ∀ i, i < 64 → a.getLsbD i = true → b.getLsbD i = true
theorem sub1.and {a b : B} (h : sub1 a b) : a = a &&& b := bext fun i hi => by
  have := h i hi
  simp only [BitVec.getLsbD_and]
  revert this
  cases a.getLsbD i <;> cases b.getLsbD i <;> simp
theorem sub1.mod {a b : B} (h : sub1 a b) (k : Nat) : a.toNat % 2 ^ k ≤ b.toNat % 2 ^ k := by
  rw [h.and, BitVec.toNat_and, Nat.and_mod_two_pow]
  exact Nat.and_le_right
theorem tin_sub {t : Tn} {x : B} (h : tin t x = true) : sub1 t.v x ∧ sub1 x (t.v ||| t.m) := by
  have hb := tin_bit.1 h
  refine ⟨fun i hi => ?_, fun i hi => ?_⟩
  · have := hb i hi
    revert this
    cases x.getLsbD i <;> cases t.v.getLsbD i <;> cases t.m.getLsbD i <;> simp
  · have := hb i hi
    rw [BitVec.getLsbD_or]
    revert this
    cases x.getLsbD i <;> cases t.v.getLsbD i <;> cases t.m.getLsbD i <;> simp
theorem tin_bit_same {t : Tn} {x : B} (h : tin t x = true) {i : Nat} (hi : i < 64) (hm : t.m.getLsbD i = false) : x.getLsbD i = t.v.getLsbD i ∧ (t.v ||| t.m).getLsbD i = t.v.getLsbD i := by
  have := tin_bit.1 h i hi
  rw [BitVec.getLsbD_or]
  rw [hm] at this ⊢
  simpa using this
theorem disjoint_add {t : Tn} (h : tcheck t = true) : t.v + t.m = t.v ||| t.m :=
  BitVec.add_eq_or_of_and_eq_zero _ _ (by simpa [tcheck] using h)
def car (i : Nat) (x y : B) : Bool := decide (2 ^ i ≤ x.toNat % 2 ^ i + y.toNat % 2 ^ i)
theorem add_bit {x y : B} {i : Nat} (hi : i < 64) : (x + y).getLsbD i = (x.getLsbD i ^^ (y.getLsbD i ^^ car i x y)) := by
  rw [BitVec.getLsbD_add hi]
  simp [BitVec.carry, car]
theorem car_mono {i : Nat} {x y x' y' : B} (h1 : x.toNat % 2 ^ i ≤ x'.toNat % 2 ^ i) (h2 : y.toNat % 2 ^ i ≤ y'.toNat % 2 ^ i) (h : car i x y = true) : car i x' y' = true := by
  simp only [car, decide_eq_true_eq] at *
  omega
/-- the sum of what is in two is in their sum -/
theorem tadd_in {a b : Tn} {x y : B} (ha : tcheck a = true) (hb : tcheck b = true) (hx : tin a x = true) (hy : tin b y = true) : tin (tadd a b) (x + y) = true := by
  rw [tin_bit]
  intro i hi
  unfold tadd
  rw [tof_v hi, tof_m]
  have eS : a.m + b.m + (a.v + b.v) = (a.v ||| a.m) + (b.v ||| b.m) := by
    rw [← disjoint_add ha, ← disjoint_add hb]
    ac_rfl
  rw [eS]
  simp only [BitVec.getLsbD_or, BitVec.getLsbD_xor]
  cases hma : a.m.getLsbD i
  · cases hmb : b.m.getLsbD i
    · obtain ⟨x1, x2⟩ := tin_bit_same hx hi hma
      obtain ⟨y1, y2⟩ := tin_bit_same hy hi hmb
      rw [add_bit hi, add_bit hi, add_bit hi, x1, x2, y1, y2]
      obtain ⟨sx1, sx2⟩ := tin_sub hx
      obtain ⟨sy1, sy2⟩ := tin_sub hy
      have c1 := car_mono (sx1.mod i) (sy1.mod i)
      have c2 := car_mono (sx2.mod i) (sy2.mod i)
      revert c1 c2
      cases car i a.v b.v <;> cases car i x y <;> cases car i (a.v ||| a.m) (b.v ||| b.m) <;> cases a.v.getLsbD i <;> cases b.v.getLsbD i <;> simp
    · simp
  · simp
theorem car_sub {p q : B} {i : Nat} (hi : i ≤ 64) : car i (p - q) q = decide (p.toNat % 2 ^ i < q.toNat % 2 ^ i) := by
  have e : p.toNat = ((p - q).toNat + q.toNat) % 2 ^ 64 := by
    rw [← BitVec.toNat_add, BitVec.sub_add_cancel]
  have hd : 2 ^ i ∣ 2 ^ 64 := Nat.pow_dvd_pow 2 hi
  have e2 : p.toNat % 2 ^ i = ((p - q).toNat % 2 ^ i + q.toNat % 2 ^ i) % 2 ^ i := by
    rw [e, Nat.mod_mod_of_dvd _ hd, Nat.add_mod]
  have hp : 0 < 2 ^ i := Nat.pow_pos (by omega)
  have h1 := Nat.mod_lt (p - q).toNat hp
  have h2 := Nat.mod_lt q.toNat hp
  unfold car
  rw [e2]
  generalize (p - q).toNat % 2 ^ i = r at *
  generalize q.toNat % 2 ^ i = s at *
  generalize 2 ^ i = P at *
  rw [decide_eq_decide]
  by_cases h : P ≤ r + s
  · have : (r + s) % P = r + s - P := by rw [Nat.mod_eq_sub_mod h, Nat.mod_eq_of_lt (by omega)]
    omega
  · rw [Nat.mod_eq_of_lt (by omega)]
    omega
def bor (i : Nat) (p q : B) : Bool := decide (p.toNat % 2 ^ i < q.toNat % 2 ^ i)
theorem sub_bit {p q : B} {i : Nat} (hi : i < 64) : (p - q).getLsbD i = (p.getLsbD i ^^ (q.getLsbD i ^^ bor i p q)) := by
  have h := add_bit (x := p - q) (y := q) hi
  rw [BitVec.sub_add_cancel, car_sub (by omega)] at h
  unfold bor
  revert h
  cases (p - q).getLsbD i <;> cases p.getLsbD i <;> cases q.getLsbD i <;> cases decide (p.toNat % 2 ^ i < q.toNat % 2 ^ i) <;> simp
theorem bor_mono {i : Nat} {x y x' y' : B} (h1 : x'.toNat % 2 ^ i ≤ x.toNat % 2 ^ i) (h2 : y.toNat % 2 ^ i ≤ y'.toNat % 2 ^ i) (h : bor i x y = true) : bor i x' y' = true := by
  simp only [bor, decide_eq_true_eq] at *
  omega
/-- the difference of what is in two is in their difference -/
theorem tsub_in {a b : Tn} {x y : B} (ha : tcheck a = true) (hb : tcheck b = true) (hx : tin a x = true) (hy : tin b y = true) : tin (tsub a b) (x - y) = true := by
  rw [tin_bit]
  intro i hi
  unfold tsub
  rw [tof_v hi, tof_m]
  have e1 : a.v - b.v + a.m = (a.v ||| a.m) - b.v := by
    rw [← disjoint_add ha]
    simp only [BitVec.sub_eq_add_neg]
    ac_rfl
  have e2 : a.v - b.v - b.m = a.v - (b.v ||| b.m) := by
    rw [← disjoint_add hb, BitVec.sub_sub]
  rw [e1, e2]
  simp only [BitVec.getLsbD_or, BitVec.getLsbD_xor]
  cases hma : a.m.getLsbD i
  · cases hmb : b.m.getLsbD i
    · obtain ⟨x1, x2⟩ := tin_bit_same hx hi hma
      obtain ⟨y1, y2⟩ := tin_bit_same hy hi hmb
      rw [sub_bit hi, sub_bit hi, sub_bit hi, sub_bit hi, x1, x2, y1, y2]
      obtain ⟨sx1, sx2⟩ := tin_sub hx
      obtain ⟨sy1, sy2⟩ := tin_sub hy
      have sv : sub1 a.v (a.v ||| a.m) := fun j _ h => by rw [BitVec.getLsbD_or, h, Bool.true_or]
      have sw : sub1 b.v (b.v ||| b.m) := fun j _ h => by rw [BitVec.getLsbD_or, h, Bool.true_or]
      have c1 := bor_mono (sx2.mod i) (sy1.mod i)
      have c2 := bor_mono (sx1.mod i) (sy2.mod i)
      have c3 := bor_mono (sv.mod i) (Nat.le_refl (b.v.toNat % 2 ^ i))
      have c4 := bor_mono (Nat.le_refl (a.v.toNat % 2 ^ i)) (sw.mod i)
      revert c1 c2 c3 c4
      cases bor i (a.v ||| a.m) b.v <;> cases bor i x y <;> cases bor i a.v (b.v ||| b.m) <;> cases bor i a.v b.v <;> cases a.v.getLsbD i <;> cases b.v.getLsbD i <;> simp
    · simp
  · simp
theorem tand_in {a b : Tn} {x y : B} (hx : tin a x = true) (hy : tin b y = true) : tin (tand a b) (x &&& y) = true := by
  rw [tin_bit]
  intro i hi
  have h1 := tin_bit.1 hx i hi
  have h2 := tin_bit.1 hy i hi
  unfold tand
  simp only [BitVec.getLsbD_and, BitVec.getLsbD_or, BitVec.getLsbD_not, hi, decide_true, Bool.true_and]
  revert h1 h2
  cases x.getLsbD i <;> cases a.v.getLsbD i <;> cases a.m.getLsbD i <;> cases y.getLsbD i <;> cases b.v.getLsbD i <;> cases b.m.getLsbD i <;> simp
theorem tor_in {a b : Tn} {x y : B} (hx : tin a x = true) (hy : tin b y = true) : tin (tor a b) (x ||| y) = true := by
  rw [tin_bit]
  intro i hi
  have h1 := tin_bit.1 hx i hi
  have h2 := tin_bit.1 hy i hi
  unfold tor
  simp only [BitVec.getLsbD_and, BitVec.getLsbD_or, BitVec.getLsbD_not, hi, decide_true, Bool.true_and]
  revert h1 h2
  cases x.getLsbD i <;> cases a.v.getLsbD i <;> cases a.m.getLsbD i <;> cases y.getLsbD i <;> cases b.v.getLsbD i <;> cases b.m.getLsbD i <;> simp
theorem txor_in {a b : Tn} {x y : B} (hx : tin a x = true) (hy : tin b y = true) : tin (txor a b) (x ^^^ y) = true := by
  rw [tin_bit]
  intro i hi
  have h1 := tin_bit.1 hx i hi
  have h2 := tin_bit.1 hy i hi
  unfold txor
  rw [tof_v hi, tof_m]
  simp only [BitVec.getLsbD_xor, BitVec.getLsbD_or]
  revert h1 h2
  cases x.getLsbD i <;> cases a.v.getLsbD i <;> cases a.m.getLsbD i <;> cases y.getLsbD i <;> cases b.v.getLsbD i <;> cases b.m.getLsbD i <;> simp
theorem tand_check (a b : Tn) : tcheck (tand a b) = true := by
  rw [tcheck_bit]
  intro i hi
  unfold tand
  simp only [BitVec.getLsbD_and, BitVec.getLsbD_or, BitVec.getLsbD_not, hi, decide_true, Bool.true_and]
  cases a.v.getLsbD i <;> cases a.m.getLsbD i <;> cases b.v.getLsbD i <;> cases b.m.getLsbD i <;> simp
theorem tor_check (a b : Tn) : tcheck (tor a b) = true := by
  rw [tcheck_bit]
  intro i hi
  unfold tor
  simp only [BitVec.getLsbD_and, BitVec.getLsbD_or, BitVec.getLsbD_not, hi, decide_true, Bool.true_and]
  cases a.v.getLsbD i <;> cases a.m.getLsbD i <;> cases b.v.getLsbD i <;> cases b.m.getLsbD i <;> simp
theorem tshl_in {a : Tn} {x : B} (n : Nat) (hx : tin a x = true) : tin (tshl a n) (x <<< n) = true := by
  rw [tin_bit]
  intro i hi
  unfold tshl
  simp only [BitVec.getLsbD_shiftLeft, hi, decide_true, Bool.true_and]
  by_cases h : i < n
  · simp [h]
  · have h1 := tin_bit.1 hx (i - n) (by omega)
    simp only [h, decide_false, Bool.not_false, Bool.true_and]
    exact h1
theorem tshl_check {a : Tn} (n : Nat) (ha : tcheck a = true) : tcheck (tshl a n) = true := by
  rw [tcheck_bit]
  intro i hi
  unfold tshl
  simp only [BitVec.getLsbD_shiftLeft, hi, decide_true, Bool.true_and]
  by_cases h : i < n
  · simp [h]
  · have h1 := tcheck_bit.1 ha (i - n) (by omega)
    simp only [h, decide_false, Bool.not_false, Bool.true_and]
    exact h1
theorem tin_bit_all {t : Tn} {x : B} (h : tin t x = true) (i : Nat) : (x.getLsbD i && !t.m.getLsbD i) = t.v.getLsbD i := by
  by_cases hi : i < 64
  · exact tin_bit.1 h i hi
  · rw [BitVec.getLsbD_of_ge _ _ (by omega), BitVec.getLsbD_of_ge t.v _ (by omega)]
    rfl
theorem tcheck_bit_all {t : Tn} (h : tcheck t = true) (i : Nat) : (t.v.getLsbD i && t.m.getLsbD i) = false := by
  by_cases hi : i < 64
  · exact tcheck_bit.1 h i hi
  · rw [BitVec.getLsbD_of_ge t.v _ (by omega)]
    rfl
theorem tshr_in {a : Tn} {x : B} (n : Nat) (hx : tin a x = true) : tin (tshr a n) (x >>> n) = true := by
  rw [tin_bit]
  intro i _
  unfold tshr
  simp only [BitVec.getLsbD_ushiftRight]
  exact tin_bit_all hx _
theorem tshr_check {a : Tn} (n : Nat) (ha : tcheck a = true) : tcheck (tshr a n) = true := by
  rw [tcheck_bit]
  intro i _
  unfold tshr
  simp only [BitVec.getLsbD_ushiftRight]
  exact tcheck_bit_all ha _
theorem msb_63 (x : B) : x.msb = x.getLsbD 63 := by simp [BitVec.msb_eq_getLsbD_last]
theorem sar_bit (x : B) (n : Nat) {i : Nat} (hi : i < 64) : (x.sshiftRight n).getLsbD i = if n + i < 64 then x.getLsbD (n + i) else x.getLsbD 63 := by
  rw [BitVec.getLsbD_sshiftRight, msb_63]
  have : ¬ (64 ≤ i) := by omega
  simp [this]
theorem tsar_in {a : Tn} {x : B} (n : Nat) (hx : tin a x = true) : tin (tsar a n) (x.sshiftRight n) = true := by
  rw [tin_bit]
  intro i hi
  unfold tsar
  simp only [sar_bit _ n hi]
  split
  · exact tin_bit_all hx _
  · exact tin_bit_all hx _
theorem tsar_check {a : Tn} (n : Nat) (ha : tcheck a = true) : tcheck (tsar a n) = true := by
  rw [tcheck_bit]
  intro i hi
  unfold tsar
  simp only [sar_bit _ n hi]
  split
  · exact tcheck_bit_all ha _
  · exact tcheck_bit_all ha _
/-- products, bit by bit -/
def tmulQ : Nat → Tn → Tn → Tn → Tn
  | 0, _, _, q => q
  | n + 1, a, b, q =>
    if a.v = 0#64 ∧ a.m = 0#64 then q
    else tmulQ n ⟨a.v >>> 1, a.m >>> 1⟩ ⟨b.v <<< 1, b.m <<< 1⟩
      (if a.v.getLsbD 0 = true then tadd q ⟨0#64, b.m⟩ else if a.m.getLsbD 0 = true then tadd q ⟨0#64, b.v ||| b.m⟩ else q)
def tmul (a b : Tn) : Tn := tadd ⟨a.v * b.v, 0#64⟩ (tmulQ 64 a b ⟨0#64, 0#64⟩)
theorem zero_check (m : B) : tcheck ⟨0#64, m⟩ = true := by simp [tcheck]
theorem tadd_check (a b : Tn) : tcheck (tadd a b) = true := tof_check _ _
theorem tsub_check (a b : Tn) : tcheck (tsub a b) = true := tof_check _ _
theorem tmulQ_check (n : Nat) : ∀ (a b q : Tn), tcheck q = true → tcheck (tmulQ n a b q) = true := by
  induction n with
  | zero => exact fun _ _ _ h => h
  | succ n ih =>
    intro a b q h
    unfold tmulQ
    split
    · exact h
    · apply ih
      split
      · exact tadd_check _ _
      · split
        · exact tadd_check _ _
        · exact h
/-- what lies in a mask alone -/
theorem mask_in {m y : B} (h : sub1 y m) : tin ⟨0#64, m⟩ y = true := by
  rw [tin_bit]
  intro i hi
  have := h i hi
  simp only [BitVec.getLsbD_zero]
  revert this
  cases y.getLsbD i <;> cases m.getLsbD i <;> simp
theorem half (x : B) : x = (x >>> 1) <<< 1 + (x &&& 1#64) := by
  have h0 : ((x >>> 1) <<< 1) &&& (x &&& 1#64) = 0#64 := by
    apply bext
    intro i hi
    simp only [BitVec.getLsbD_and, BitVec.getLsbD_shiftLeft, BitVec.getLsbD_ushiftRight, BitVec.getLsbD_one, BitVec.getLsbD_zero, hi, decide_true, Bool.true_and]
    by_cases h : i = 0
    · subst h; simp
    · simp [h]
  rw [BitVec.add_eq_or_of_and_eq_zero _ _ h0]
  apply bext
  intro i hi
  simp only [BitVec.getLsbD_or, BitVec.getLsbD_and, BitVec.getLsbD_shiftLeft, BitVec.getLsbD_ushiftRight, BitVec.getLsbD_one, hi, decide_true, Bool.true_and]
  by_cases h : i = 0
  · subst h; simp
  · have : ¬ (i < 1) := by omega
    simp [h, this, show 1 + (i - 1) = i by omega]
theorem bit0 (x : B) : x &&& 1#64 = if x.getLsbD 0 = true then 1#64 else 0#64 := by
  apply bext
  intro i hi
  simp only [BitVec.getLsbD_and, BitVec.getLsbD_one]
  by_cases h : i = 0
  · subst h
    cases x.getLsbD 0 <;> simp
  · rw [decide_eq_false h, Bool.and_false]
    split <;> simp [h]
theorem shl_one (x : B) : x <<< 1 = x * 2#64 := by
  apply BitVec.eq_of_toNat_eq
  rw [BitVec.toNat_shiftLeft, BitVec.toNat_mul, Nat.shiftLeft_eq]
  rfl
theorem tin_zero {x : B} {m : B} (h : tin ⟨0#64, m⟩ x = true) (hm : m = 0#64) : x = 0#64 := by
  subst hm
  apply bext
  intro i hi
  have := tin_bit.1 h i hi
  simpa using this
theorem in_split {t : Tn} {x : B} (h : tin t x = true) : x - t.v = x &&& t.m := by
  have e : x = t.v + (x &&& t.m) := by
    have hd : t.v &&& (x &&& t.m) = 0#64 := bext fun i hi => by
      have := tin_bit.1 h i hi
      simp only [BitVec.getLsbD_and, BitVec.getLsbD_zero]
      revert this
      cases x.getLsbD i <;> cases t.v.getLsbD i <;> cases t.m.getLsbD i <;> simp
    rw [BitVec.add_eq_or_of_and_eq_zero _ _ hd]
    apply bext
    intro i hi
    have := tin_bit.1 h i hi
    simp only [BitVec.getLsbD_and, BitVec.getLsbD_or]
    revert this
    cases x.getLsbD i <;> cases t.v.getLsbD i <;> cases t.m.getLsbD i <;> simp
  have : x - t.v = t.v + (x &&& t.m) - t.v := congrArg (· - t.v) e
  rw [this, BitVec.add_comm, BitVec.add_sub_cancel]
theorem ring1 (r hx x0 hv v0 y bv : B) : r + (x0 * y - v0 * bv) + (hx * (y * 2#64) - hv * (bv * 2#64)) = r + ((hx * 2#64 + x0) * y - (hv * 2#64 + v0) * bv) := by
  grind
theorem tmulQ_in (n : Nat) : ∀ (a b q : Tn) (x y r : B), a.v.toNat < 2 ^ n → a.m.toNat < 2 ^ n → tcheck a = true → tcheck b = true → tcheck q = true → tin a x = true → tin b y = true → tin q r = true →
    tin (tmulQ n a b q) (r + (x * y - a.v * b.v)) = true := by
  have hz : ∀ (a b q : Tn) (x y r : B), a.v = 0#64 → a.m = 0#64 → tin a x = true → tin q r = true → tin q (r + (x * y - a.v * b.v)) = true := by
    intro a b q x y r h1 h2 hx hq
    obtain ⟨v, m⟩ := a
    subst h1
    have : x = 0#64 := tin_zero hx h2
    subst this
    simpa using hq
  induction n with
  | zero =>
    intro a b q x y r h1 h2 _ _ _ hx _ hq
    exact hz a b q x y r (BitVec.eq_of_toNat_eq (by simpa using h1)) (BitVec.eq_of_toNat_eq (by simpa using h2)) hx hq
  | succ n ih =>
    intro a b q x y r h1 h2 ha hb hq hx hy hr
    unfold tmulQ
    split
    · rename_i h
      exact hz a b q x y r h.1 h.2 hx hr
    · have hx0 := half x
      have hv0 := half a.v
      have key : r + (x * y - a.v * b.v) = r + ((x &&& 1#64) * y - (a.v &&& 1#64) * b.v) + ((x >>> 1) * (y <<< 1) - (a.v >>> 1) * (b.v <<< 1)) := by
        rw [shl_one y, shl_one b.v, ring1, ← shl_one, ← shl_one, ← hx0, ← hv0]
      rw [key]
      have hbit := tin_bit.1 hx 0 (by omega)
      have hchk := tcheck_bit.1 ha 0 (by omega)
      apply ih
      · show (a.v >>> 1).toNat < _
        rw [BitVec.toNat_ushiftRight, Nat.shiftRight_eq_div_pow]
        rw [Nat.pow_succ] at h1
        omega
      · show (a.m >>> 1).toNat < _
        rw [BitVec.toNat_ushiftRight, Nat.shiftRight_eq_div_pow]
        rw [Nat.pow_succ] at h2
        omega
      · exact tshr_check 1 ha
      · exact tshl_check 1 hb
      · split
        · exact tadd_check _ _
        · split
          · exact tadd_check _ _
          · exact hq
      · exact tshr_in 1 hx
      · exact tshl_in 1 hy
      · rw [bit0 x, bit0 a.v]
        split
        · rename_i hv
          rw [hv] at hbit hchk
          have hm : a.m.getLsbD 0 = false := by simpa using hchk
          rw [hm] at hbit
          have hx1 : x.getLsbD 0 = true := by simpa using hbit
          rw [hx1]
          refine tadd_in hq (zero_check _) hr ?_
          simp only [reduceIte, BitVec.one_mul]
          rw [in_split hy]
          exact mask_in fun i _ h => by
            rw [BitVec.getLsbD_and] at h
            simp at h
            exact h.2
        · rename_i hv
          have hv' : a.v.getLsbD 0 = false := by simpa using hv
          rw [hv'] at hbit
          split
          · refine tadd_in hq (zero_check _) hr ?_
            split
            · simp only [BitVec.one_mul, BitVec.zero_mul, BitVec.sub_zero]
              exact mask_in (tin_sub hy).2
            · simp only [BitVec.zero_mul, BitVec.sub_zero]
              exact mask_in fun i _ h => by simp at h
          · rename_i hm
            have hm' : a.m.getLsbD 0 = false := by simpa using hm
            rw [hm'] at hbit
            have hx1 : x.getLsbD 0 = false := by simpa using hbit
            rw [hx1]
            simpa using hr
/-- the product of what is in two is in their product -/
theorem tmul_in {a b : Tn} {x y : B} (ha : tcheck a = true) (hb : tcheck b = true) (hx : tin a x = true) (hy : tin b y = true) : tin (tmul a b) (x * y) = true := by
  have h1 : tin ⟨a.v * b.v, 0#64⟩ (a.v * b.v) = true := by
    rw [tin_bit]; intro i hi; simp
  have hq := tmulQ_check 64 a b ⟨0#64, 0#64⟩ (zero_check _)
  have h2 := tmulQ_in 64 a b ⟨0#64, 0#64⟩ x y 0#64 a.v.isLt a.m.isLt ha hb (zero_check _) hx hy (by simp [tin])
  have h3 := tadd_in (by simp [tcheck]) hq h1 h2
  have e : a.v * b.v + (0#64 + (x * y - a.v * b.v)) = x * y := by
    rw [BitVec.zero_add, BitVec.add_comm, BitVec.sub_add_cancel]
  rw [e] at h3
  exact h3
theorem tmul_check (a b : Tn) : tcheck (tmul a b) = true := tadd_check _ _
end Go.Proofs.Yticjhcbkkkkckaa

/- Plain facts on bounds (no program): what is reckoned from what is known holds what is reckoned. -/
namespace Go.Proofs.Yticjhcbkkkkckaa

theorem any_in (x : B) : bin bany x = true := by
  have h := top_int x
  rw [bin_iff]
  refine ⟨⟨⟨Nat.zero_le _, ?_⟩, h⟩, ?_⟩
  · show _ ≤ 18446744073709551615
    have := x.isLt
    omega
  · rw [tin_bit]
    intro i hi
    have : ∀ i : Fin 64, banyT.m.getLsbD i = true := by decide +kernel
    have hm : bany.t.m.getLsbD i = true := this ⟨i, hi⟩
    rw [hm]
    simp [bany, banyT]
theorem any_check : bcheck bany = true := by decide +kernel
theorem le_all (x : B) : x.toNat ≤ (18446744073709551615#64 : B).toNat := by
  have := x.isLt
  show _ ≤ 18446744073709551615
  omega
def tidyA (b : Bd) : Bd := (tidy b).getD bany
theorem tidyA_in {b : Bd} {x : B} (ht : tcheck b.t = true) (h : bin b x = true) : bin (tidyA b) x = true := by
  unfold tidyA
  cases hd : tidy b with
  | none => rw [tidy_none ht hd x] at h; cases h
  | some c => show bin c x = true; rw [(tidy_some ht hd).2 x]; exact h
theorem tidyA_check {b : Bd} (ht : tcheck b.t = true) : bcheck (tidyA b) = true := by
  unfold tidyA
  cases hd : tidy b with
  | none => exact any_check
  | some c => exact (tidy_some ht hd).1
theorem toInt_add_of {x y : B} (h1 : -9223372036854775808 ≤ x.toInt + y.toInt) (h2 : x.toInt + y.toInt ≤ 9223372036854775807) : (x + y).toInt = x.toInt + y.toInt := by
  have e := BitVec.toNat_add x y
  have t1 := two x
  have t2 := two y
  have t3 := two (x + y)
  omega
theorem toInt_sub_of {x y : B} (h1 : -9223372036854775808 ≤ x.toInt - y.toInt) (h2 : x.toInt - y.toInt ≤ 9223372036854775807) : (x - y).toInt = x.toInt - y.toInt := by
  have e := BitVec.toNat_sub x y
  have t1 := two x
  have t2 := two y
  have t3 := two (x - y)
  omega
theorem toNat_add_of {x y : B} (h : x.toNat + y.toNat < 18446744073709551616) : (x + y).toNat = x.toNat + y.toNat := by
  have e := BitVec.toNat_add x y
  omega
theorem toNat_sub_of {x y : B} (h : y.toNat ≤ x.toNat) : (x - y).toNat = x.toNat - y.toNat := by
  have e := BitVec.toNat_sub x y
  have := x.isLt
  have := y.isLt
  omega
theorem toNat_mul_of {x y : B} (h1 : x.toNat ≤ 4294967295) (h2 : y.toNat ≤ 4294967295) : (x * y).toNat = x.toNat * y.toNat := by
  rw [BitVec.toNat_mul]
  have := Nat.mul_le_mul h1 h2
  exact Nat.mod_eq_of_lt (by omega)
def allB : B := 18446744073709551615#64
def fitsB (x y : B) : Bool := decide (-9223372036854775808 ≤ x.toInt + y.toInt) && decide (x.toInt + y.toInt ≤ 9223372036854775807)
def lessB (x y : B) : Bool := decide (-9223372036854775808 ≤ x.toInt - y.toInt) && decide (x.toInt - y.toInt ≤ 9223372036854775807)
theorem fitsB_iff {x y : B} : fitsB x y = true ↔ -9223372036854775808 ≤ x.toInt + y.toInt ∧ x.toInt + y.toInt ≤ 9223372036854775807 := by simp [fitsB]
theorem lessB_iff {x y : B} : lessB x y = true ↔ -9223372036854775808 ≤ x.toInt - y.toInt ∧ x.toInt - y.toInt ≤ 9223372036854775807 := by simp [lessB]
def addB (a b : Bd) : Bd :=
  ⟨if a.uh.toNat + b.uh.toNat < 18446744073709551616 then a.ul + b.ul else 0#64, if a.uh.toNat + b.uh.toNat < 18446744073709551616 then a.uh + b.uh else allB,
   if fitsB a.sl b.sl = true ∧ fitsB a.sh b.sh = true then a.sl + b.sl else topB, if fitsB a.sl b.sl = true ∧ fitsB a.sh b.sh = true then a.sh + b.sh else mostB, tadd a.t b.t⟩
def subB (a b : Bd) : Bd :=
  ⟨if b.uh.toNat ≤ a.ul.toNat then a.ul - b.uh else 0#64, if b.uh.toNat ≤ a.ul.toNat then a.uh - b.ul else allB,
   if lessB a.sl b.sh = true ∧ lessB a.sh b.sl = true then a.sl - b.sh else topB, if lessB a.sl b.sh = true ∧ lessB a.sh b.sl = true then a.sh - b.sl else mostB, tsub a.t b.t⟩
def mulB (a b : Bd) : Bd :=
  ⟨if a.uh.toNat ≤ 4294967295 ∧ b.uh.toNat ≤ 4294967295 then a.ul * b.ul else 0#64, if a.uh.toNat ≤ 4294967295 ∧ b.uh.toNat ≤ 4294967295 then a.uh * b.uh else allB, topB, mostB, tmul a.t b.t⟩
def divB (a b : Bd) : Bd :=
  if b.ul = b.uh ∧ 0 < b.ul.toNat then ⟨a.ul / b.ul, a.uh / b.ul, topB, mostB, banyT⟩ else ⟨0#64, a.uh, topB, mostB, banyT⟩
def modB (a b : Bd) : Bd := ⟨0#64, if 0 < b.ul.toNat then umin a.uh (b.uh - 1#64) else a.uh, topB, mostB, banyT⟩
def andB (a b : Bd) : Bd := ⟨0#64, umin a.uh b.uh, topB, mostB, tand a.t b.t⟩
def orB (a b : Bd) : Bd := ⟨umax a.ul b.ul, allB, topB, mostB, tor a.t b.t⟩
def xorB (a b : Bd) : Bd := ⟨0#64, allB, topB, mostB, txor a.t b.t⟩
def shlB (a : Bd) (n : Nat) : Bd := ⟨if a.uh.toNat ≤ 18446744073709551615 / 2 ^ n then a.ul <<< n else 0#64, if a.uh.toNat ≤ 18446744073709551615 / 2 ^ n then a.uh <<< n else allB, topB, mostB, tshl a.t n⟩
def shrB (a : Bd) (n : Nat) : Bd := ⟨a.ul >>> n, a.uh >>> n, topB, mostB, tshr a.t n⟩
def sarB (a : Bd) (n : Nat) : Bd := ⟨0#64, allB, a.sl.sshiftRight n, a.sh.sshiftRight n, tsar a.t n⟩
def uptoU (x : B) : Bd := ⟨0#64, x, topB, mostB, banyT⟩

theorem addB_in {a b : Bd} {x y : B} (ha : tcheck a.t = true) (hb : tcheck b.t = true) (hx : bin a x = true) (hy : bin b y = true) : bin (addB a b) (x + y) = true := by
  obtain ⟨⟨⟨x1, x2⟩, x3, x4⟩, x5⟩ := bin_iff.1 hx
  obtain ⟨⟨⟨y1, y2⟩, y3, y4⟩, y5⟩ := bin_iff.1 hy
  rw [bin_iff]
  unfold addB
  refine ⟨⟨?_, ?_⟩, tadd_in ha hb x5 y5⟩
  · by_cases h : a.uh.toNat + b.uh.toNat < 18446744073709551616
    · simp only [if_pos h]
      rw [toNat_add_of (by omega), toNat_add_of (by omega), toNat_add_of (by omega)]
      omega
    · simp only [if_neg h]
      exact ⟨Nat.zero_le _, le_all _⟩
  · by_cases h : fitsB a.sl b.sl = true ∧ fitsB a.sh b.sh = true
    · simp only [if_pos h]
      have h1 := fitsB_iff.1 h.1
      have h2 := fitsB_iff.1 h.2
      rw [toInt_add_of (by omega) (by omega), toInt_add_of (by omega) (by omega), toInt_add_of (by omega) (by omega)]
      omega
    · simp only [if_neg h]
      exact top_int _
theorem subB_in {a b : Bd} {x y : B} (ha : tcheck a.t = true) (hb : tcheck b.t = true) (hx : bin a x = true) (hy : bin b y = true) : bin (subB a b) (x - y) = true := by
  obtain ⟨⟨⟨x1, x2⟩, x3, x4⟩, x5⟩ := bin_iff.1 hx
  obtain ⟨⟨⟨y1, y2⟩, y3, y4⟩, y5⟩ := bin_iff.1 hy
  rw [bin_iff]
  unfold subB
  refine ⟨⟨?_, ?_⟩, tsub_in ha hb x5 y5⟩
  · by_cases h : b.uh.toNat ≤ a.ul.toNat
    · simp only [if_pos h]
      rw [toNat_sub_of (by omega), toNat_sub_of (by omega), toNat_sub_of (by omega)]
      omega
    · simp only [if_neg h]
      exact ⟨Nat.zero_le _, le_all _⟩
  · by_cases h : lessB a.sl b.sh = true ∧ lessB a.sh b.sl = true
    · simp only [if_pos h]
      have h1 := lessB_iff.1 h.1
      have h2 := lessB_iff.1 h.2
      rw [toInt_sub_of (by omega) (by omega), toInt_sub_of (by omega) (by omega), toInt_sub_of (by omega) (by omega)]
      omega
    · simp only [if_neg h]
      exact top_int _
theorem mulB_in {a b : Bd} {x y : B} (ha : tcheck a.t = true) (hb : tcheck b.t = true) (hx : bin a x = true) (hy : bin b y = true) : bin (mulB a b) (x * y) = true := by
  obtain ⟨⟨⟨x1, x2⟩, x3, x4⟩, x5⟩ := bin_iff.1 hx
  obtain ⟨⟨⟨y1, y2⟩, y3, y4⟩, y5⟩ := bin_iff.1 hy
  rw [bin_iff]
  unfold mulB
  refine ⟨⟨?_, top_int _⟩, tmul_in ha hb x5 y5⟩
  by_cases h : a.uh.toNat ≤ 4294967295 ∧ b.uh.toNat ≤ 4294967295
  · simp only [if_pos h]
    rw [toNat_mul_of (by omega) (by omega), toNat_mul_of (by omega) (by omega), toNat_mul_of (by omega) (by omega)]
    exact ⟨Nat.mul_le_mul x1 y1, Nat.mul_le_mul x2 y2⟩
  · simp only [if_neg h]
    exact ⟨Nat.zero_le _, le_all _⟩
theorem anyT_in (x : B) : tin banyT x = true := (bin_iff.1 (any_in x)).2
theorem divB_in {a b : Bd} {x y : B} (hx : bin a x = true) (hy : bin b y = true) : bin (divB a b) (x / y) = true := by
  obtain ⟨⟨⟨x1, x2⟩, _⟩, _⟩ := bin_iff.1 hx
  obtain ⟨⟨⟨y1, y2⟩, _⟩, _⟩ := bin_iff.1 hy
  rw [bin_iff]
  unfold divB
  split
  · rename_i h
    have e : y = b.ul := BitVec.eq_of_toNat_eq (by have := h.1; rw [← this] at y2; omega)
    subst e
    refine ⟨⟨?_, top_int _⟩, anyT_in _⟩
    simp only [BitVec.toNat_udiv]
    exact ⟨Nat.div_le_div_right x1, Nat.div_le_div_right x2⟩
  · refine ⟨⟨⟨Nat.zero_le _, ?_⟩, top_int _⟩, anyT_in _⟩
    simp only [BitVec.toNat_udiv]
    exact Nat.le_trans (Nat.div_le_self _ _) x2
theorem modB_in {a b : Bd} {x y : B} (hx : bin a x = true) (hy : bin b y = true) : bin (modB a b) (x % y) = true := by
  obtain ⟨⟨⟨x1, x2⟩, _⟩, _⟩ := bin_iff.1 hx
  obtain ⟨⟨⟨y1, y2⟩, _⟩, _⟩ := bin_iff.1 hy
  rw [bin_iff]
  unfold modB
  refine ⟨⟨⟨Nat.zero_le _, ?_⟩, top_int _⟩, anyT_in _⟩
  have hm : (x % y).toNat ≤ x.toNat := by rw [BitVec.toNat_umod]; exact Nat.mod_le _ _
  by_cases h : 0 < b.ul.toNat
  · simp only [if_pos h]
    rw [le_umin]
    refine ⟨by omega, ?_⟩
    have hy0 : 0 < y.toNat := by omega
    have hl : (x % y).toNat < y.toNat := by rw [BitVec.toNat_umod]; exact Nat.mod_lt _ hy0
    rw [toNat_sub_of (by show 1 ≤ _; omega)]
    show _ ≤ _ - 1
    omega
  · simp only [if_neg h]
    omega
theorem andB_in {a b : Bd} {x y : B} (hx : bin a x = true) (hy : bin b y = true) : bin (andB a b) (x &&& y) = true := by
  obtain ⟨⟨⟨x1, x2⟩, _⟩, x5⟩ := bin_iff.1 hx
  obtain ⟨⟨⟨y1, y2⟩, _⟩, y5⟩ := bin_iff.1 hy
  rw [bin_iff]
  unfold andB
  refine ⟨⟨⟨Nat.zero_le _, ?_⟩, top_int _⟩, tand_in x5 y5⟩
  rw [le_umin, BitVec.toNat_and]
  exact ⟨Nat.le_trans Nat.and_le_left x2, Nat.le_trans Nat.and_le_right y2⟩
theorem orB_in {a b : Bd} {x y : B} (hx : bin a x = true) (hy : bin b y = true) : bin (orB a b) (x ||| y) = true := by
  obtain ⟨⟨⟨x1, x2⟩, _⟩, x5⟩ := bin_iff.1 hx
  obtain ⟨⟨⟨y1, y2⟩, _⟩, y5⟩ := bin_iff.1 hy
  rw [bin_iff]
  unfold orB
  refine ⟨⟨⟨?_, le_all _⟩, top_int _⟩, tor_in x5 y5⟩
  rw [umax_le, BitVec.toNat_or]
  exact ⟨Nat.le_trans x1 Nat.left_le_or, Nat.le_trans y1 Nat.right_le_or⟩
theorem xorB_in {a b : Bd} {x y : B} (hx : bin a x = true) (hy : bin b y = true) : bin (xorB a b) (x ^^^ y) = true := by
  rw [bin_iff]
  unfold xorB
  exact ⟨⟨⟨Nat.zero_le _, le_all _⟩, top_int _⟩, txor_in (bin_iff.1 hx).2 (bin_iff.1 hy).2⟩
theorem shl_nat {x : B} {n : Nat} (h : x.toNat ≤ 18446744073709551615 / 2 ^ n) : (x <<< n).toNat = x.toNat * 2 ^ n := by
  rw [BitVec.toNat_shiftLeft, Nat.shiftLeft_eq]
  have := (Nat.le_div_iff_mul_le (Nat.pow_pos (by omega) : 0 < 2 ^ n)).1 h
  exact Nat.mod_eq_of_lt (by omega)
theorem shlB_in {a : Bd} {x : B} (n : Nat) (hx : bin a x = true) : bin (shlB a n) (x <<< n) = true := by
  obtain ⟨⟨⟨x1, x2⟩, _⟩, x5⟩ := bin_iff.1 hx
  rw [bin_iff]
  unfold shlB
  refine ⟨⟨?_, top_int _⟩, tshl_in n x5⟩
  by_cases h : a.uh.toNat ≤ 18446744073709551615 / 2 ^ n
  · simp only [if_pos h]
    rw [shl_nat (Nat.le_trans x1 (Nat.le_trans x2 h)), shl_nat (Nat.le_trans x2 h), shl_nat h]
    exact ⟨Nat.mul_le_mul_right _ x1, Nat.mul_le_mul_right _ x2⟩
  · simp only [if_neg h]
    exact ⟨Nat.zero_le _, le_all _⟩
theorem shr_nat (x : B) (n : Nat) : (x >>> n).toNat = x.toNat / 2 ^ n := by
  rw [BitVec.toNat_ushiftRight, Nat.shiftRight_eq_div_pow]
theorem shrB_in {a : Bd} {x : B} (n : Nat) (hx : bin a x = true) : bin (shrB a n) (x >>> n) = true := by
  obtain ⟨⟨⟨x1, x2⟩, _⟩, x5⟩ := bin_iff.1 hx
  rw [bin_iff]
  unfold shrB
  refine ⟨⟨?_, top_int _⟩, tshr_in n x5⟩
  simp only [shr_nat]
  exact ⟨Nat.div_le_div_right x1, Nat.div_le_div_right x2⟩
theorem sar_int (x : B) (n : Nat) : (x.sshiftRight n).toInt = x.toInt / 2 ^ n := by
  rw [BitVec.toInt_sshiftRight, Int.shiftRight_eq_div_pow]
  simp
theorem sarB_in {a : Bd} {x : B} (n : Nat) (hx : bin a x = true) : bin (sarB a n) (x.sshiftRight n) = true := by
  obtain ⟨⟨_, x3, x4⟩, x5⟩ := bin_iff.1 hx
  rw [bin_iff]
  unfold sarB
  refine ⟨⟨⟨Nat.zero_le _, le_all _⟩, ?_⟩, tsar_in n x5⟩
  simp only [sar_int]
  have hp : (0 : Int) < 2 ^ n := Int.pow_pos (by omega)
  exact ⟨Int.ediv_le_ediv hp x3, Int.ediv_le_ediv hp x4⟩
theorem uptoU_in {a : Bd} {x y : B} (hx : bin a x = true) (h : y.toNat ≤ x.toNat) : bin (uptoU a.uh) y = true := by
  obtain ⟨⟨⟨_, x2⟩, _⟩, _⟩ := bin_iff.1 hx
  rw [bin_iff]
  exact ⟨⟨⟨Nat.zero_le _, Nat.le_trans h x2⟩, top_int _⟩, anyT_in _⟩
end Go.Proofs.Yticjhcbkkkkckaa

/- Plain facts on bounds (no program): every operation, of 64 and of 32 bits. -/
namespace Go.Proofs.Yticjhcbkkkkckaa

def isOp (op : Int) : Bool := op == 0 || op == 16 || op == 32 || op == 48 || op == 64 || op == 80 || op == 96 || op == 112 || op == 128 || op == 144 || op == 160 || op == 176 || op == 192
theorem isOp_cases {op : Int} (h : isOp op = true) : op = 0 ∨ op = 16 ∨ op = 32 ∨ op = 48 ∨ op = 64 ∨ op = 80 ∨ op = 96 ∨ op = 112 ∨ op = 128 ∨ op = 144 ∨ op = 160 ∨ op = 176 ∨ op = 192 := by
  simp [isOp] at h
  omega
/-- an operation on words of 64 bits, its shift given -/
def aluN (op : Int) (x y : B) (n : Nat) : B :=
  if op = 0 then x + y else if op = 16 then x - y else if op = 32 then x * y else if op = 48 then x / y else if op = 64 then x ||| y else if op = 80 then x &&& y
  else if op = 96 then x <<< n else if op = 112 then x >>> n else if op = 128 then 0#64 - x else if op = 144 then x % y else if op = 160 then x ^^^ y else if op = 176 then y
  else if op = 192 then x.sshiftRight n else 0#64
def alu64 (op : Int) (x y : B) : B := aluN op x y (y.toNat % 64)
/-- a word of 32 bits, shifted with its sign -/
def sar32 (x : B) (n : Nat) : B := ((x.setWidth 32).sshiftRight n).setWidth 64
def alu32 (op : Int) (x y : B) : B :=
  if op = 192 then sar32 (x &&& low32) ((y &&& low32).toNat % 32) else aluN op (x &&& low32) (y &&& low32) ((y &&& low32).toNat % 32) &&& low32
def aluW (op : Int) (x y : B) (wide : Bool) : B := if wide = true then alu64 op x y else alu32 op x y
def shiftB (op : Int) (a : Bd) (n : Nat) : Bd := if op = 96 then shlB a n else if op = 112 then shrB a n else sarB a n
def wideB (op : Int) (a b : Bd) : Bd :=
  if op = 0 then addB a b else if op = 16 then subB a b else if op = 32 then mulB a b else if op = 48 then divB a b else if op = 64 then orB a b else if op = 80 then andB a b
  else if op = 128 then subB (bconst 0#64) a else if op = 144 then modB a b else if op = 160 then xorB a b else if op = 176 then b
  else if b.ul = b.uh then shiftB op a (b.ul.toNat % 64) else if op = 112 then uptoU a.uh else bany
def isShift (op : Int) : Bool := op == 96 || op == 112 || op == 192
def narrowB (op : Int) (a b : Bd) : Bd :=
  if isShift op = true then
    if (blow b).ul ≠ (blow b).uh ∧ op ≠ 112 ∨ op = 192 ∧ 2147483647 < (blow a).uh.toNat then bupto low32
    else blow (tidyA (wideB (if op = 192 then 112 else op) (blow a) (if (blow b).ul = (blow b).uh then bconst (BitVec.ofNat 64 ((blow b).ul.toNat % 32)) else blow b)))
  else blow (tidyA (wideB op (blow a) (blow b)))
def aluB (op : Int) (a b : Bd) (wide : Bool) : Bd :=
  if isOp op = false then bany else if bcheck a = false ∨ bcheck b = false then bany else tidyA (if wide = true then wideB op a b else narrowB op a b)

theorem const_in_self (x : B) : bin (bconst x) x = true := by rw [const_in]; simp
theorem const_check (x : B) : bcheck (bconst x) = true := bcheck_iff.2 ⟨⟨Nat.le_refl _, Int.le_refl _⟩, by simp [bconst, tcheck]⟩
theorem value_of {b : Bd} {y : B} (h : b.ul = b.uh) (hy : bin b y = true) : y = b.ul := by
  obtain ⟨⟨⟨y1, y2⟩, _⟩, _⟩ := bin_iff.1 hy
  rw [← h] at y2
  exact BitVec.eq_of_toNat_eq (by omega)
theorem anyT_check : tcheck banyT = true := by decide +kernel
theorem ite_check {c : Prop} [Decidable c] {x y : Bd} (h1 : tcheck x.t = true) (h2 : tcheck y.t = true) : tcheck (if c then x else y).t = true := by
  split
  · exact h1
  · exact h2
theorem addB_t (a b : Bd) : (addB a b).t = tadd a.t b.t := rfl
theorem subB_t (a b : Bd) : (subB a b).t = tsub a.t b.t := rfl
theorem mulB_t (a b : Bd) : (mulB a b).t = tmul a.t b.t := rfl
theorem orB_t (a b : Bd) : (orB a b).t = tor a.t b.t := rfl
theorem andB_t (a b : Bd) : (andB a b).t = tand a.t b.t := rfl
theorem xorB_t (a b : Bd) : (xorB a b).t = txor a.t b.t := rfl
theorem shlB_t (a : Bd) (n : Nat) : (shlB a n).t = tshl a.t n := rfl
theorem shrB_t (a : Bd) (n : Nat) : (shrB a n).t = tshr a.t n := rfl
theorem sarB_t (a : Bd) (n : Nat) : (sarB a n).t = tsar a.t n := rfl
theorem wideB_check (op : Int) {a b : Bd} (ha : tcheck a.t = true) (hb : tcheck b.t = true) : tcheck (wideB op a b).t = true := by
  unfold wideB
  refine ite_check (by rw [addB_t]; exact tadd_check _ _) (ite_check (by rw [subB_t]; exact tsub_check _ _) (ite_check (by rw [mulB_t]; exact tmul_check _ _) (ite_check ?_ (ite_check (by rw [orB_t]; exact tor_check _ _) (ite_check (by rw [andB_t]; exact tand_check _ _) (ite_check (by rw [subB_t]; exact tsub_check _ _) (ite_check anyT_check (ite_check (by rw [xorB_t]; exact tof_check _ _) (ite_check hb (ite_check ?_ (ite_check anyT_check anyT_check)))))))))))
  · unfold divB
    exact ite_check anyT_check anyT_check
  · unfold shiftB
    exact ite_check (by rw [shlB_t]; exact tshl_check _ ha) (ite_check (by rw [shrB_t]; exact tshr_check _ ha) (by rw [sarB_t]; exact tsar_check _ ha))
theorem wideB_in {op : Int} (ho : isOp op = true) {a b : Bd} {x y : B} (ha : tcheck a.t = true) (hb : tcheck b.t = true) (hx : bin a x = true) (hy : bin b y = true) : bin (wideB op a b) (alu64 op x y) = true := by
  unfold wideB alu64 aluN
  rcases isOp_cases ho with rfl | rfl | rfl | rfl | rfl | rfl | rfl | rfl | rfl | rfl | rfl | rfl | rfl <;> simp only [Int.reduceEq, if_true, if_false]
  · exact addB_in ha hb hx hy
  · exact subB_in ha hb hx hy
  · exact mulB_in ha hb hx hy
  · exact divB_in hx hy
  · exact orB_in hx hy
  · exact andB_in hx hy
  · split
    · rename_i h
      rw [value_of h hy]
      exact shlB_in _ hx
    · exact any_in _
  · split
    · rename_i h
      rw [value_of h hy]
      exact shrB_in _ hx
    · refine uptoU_in hx ?_
      rw [shr_nat]
      exact Nat.div_le_self _ _
  · exact subB_in (by simp [bconst, tcheck]) ha (const_in_self _) hx
  · exact modB_in hx hy
  · exact xorB_in hx hy
  · exact hy
  · split
    · rename_i h
      rw [value_of h hy]
      exact sarB_in _ hx
    · exact any_in _
theorem upto_in {z : B} (h : z.toNat ≤ 4294967295) : bin (bupto low32) z = true := by
  rw [bin_iff]
  have := two z
  refine ⟨⟨⟨Nat.zero_le _, h⟩, ?_, ?_⟩, ?_⟩
  · show (0 : Int) ≤ _; omega
  · show _ ≤ (4294967295 : Int); omega
  · refine mask_in ?_
    have e := low_same h
    intro i hi hb
    rw [← e, BitVec.getLsbD_and] at hb
    simp at hb
    exact hb.2
theorem upto_check : bcheck (bupto low32) = true := by decide +kernel
theorem blow_check {b : Bd} (hb : bcheck b = true) : bcheck (blow b) = true := by
  unfold blow
  split
  · exact hb
  · cases hd : tidy { bupto low32 with t := tlow b.t } with
    | none => exact upto_check
    | some m => exact (tidy_some (tlow_check (bcheck_iff.1 hb).2) hd).1
theorem blow_uh (b : Bd) : (blow b).uh.toNat ≤ 4294967295 := by
  unfold blow
  split
  · assumption
  · cases hd : tidy { bupto low32 with t := tlow b.t } with
    | none => exact Nat.le_refl _
    | some m => exact tidy_uh hd
theorem narrowB_check (op : Int) {a b : Bd} (ha : bcheck a = true) (hb : bcheck b = true) : bcheck (narrowB op a b) = true := by
  have h1 := (bcheck_iff.1 (blow_check ha)).2
  have h2 := (bcheck_iff.1 (blow_check hb)).2
  unfold narrowB
  split
  · split
    · exact upto_check
    · refine blow_check (tidyA_check (wideB_check _ h1 ?_))
      split
      · exact (bcheck_iff.1 (const_check _)).2
      · exact h2
  · exact blow_check (tidyA_check (wideB_check _ h1 h2))
theorem sar32_le (x : B) (n : Nat) : (sar32 x n).toNat ≤ 4294967295 := by
  unfold sar32
  rw [BitVec.toNat_setWidth]
  have := ((x.setWidth 32).sshiftRight n).isLt
  exact Nat.le_trans (Nat.mod_le _ _) (by omega)
/-- below 2^31 there is no sign -/
theorem sar32_shr {x : B} (h : x.toNat ≤ 2147483647) (n : Nat) : sar32 x n = x >>> n := by
  apply BitVec.eq_of_toNat_eq
  unfold sar32
  have hm : (x.setWidth 32).msb = false := by
    rw [BitVec.msb_eq_decide, BitVec.toNat_setWidth]
    simp
    omega
  rw [BitVec.sshiftRight_eq_of_msb_false hm, BitVec.toNat_setWidth, BitVec.toNat_ushiftRight, BitVec.toNat_setWidth, BitVec.toNat_ushiftRight]
  rw [Nat.mod_eq_of_lt (show x.toNat < 2 ^ 32 by omega)]
  have : x.toNat >>> n ≤ x.toNat := by rw [Nat.shiftRight_eq_div_pow]; exact Nat.div_le_self _ _
  exact Nat.mod_eq_of_lt (by omega)
theorem low_low {z : B} (h : z.toNat ≤ 4294967295) : z &&& low32 = z := low_same h
theorem narrowB_in {op : Int} (ho : isOp op = true) {a b : Bd} {x y : B} (ha : bcheck a = true) (hb : bcheck b = true) (hx : bin a x = true) (hy : bin b y = true) : bin (narrowB op a b) (alu32 op x y) = true := by
  obtain ⟨hx', _⟩ := blow_in ha hx
  obtain ⟨hy', _⟩ := blow_in hb hy
  have hac := blow_check ha
  have hbc := blow_check hb
  have hat := (bcheck_iff.1 hac).2
  have hbt := (bcheck_iff.1 hbc).2
  have hxl := low_le x
  unfold narrowB alu32
  cases hs : isShift op
  · have hne : op ≠ 192 := by rintro rfl; simp [isShift] at hs
    have hn1 : op ≠ 96 := by rintro rfl; simp [isShift] at hs
    have hn2 : op ≠ 112 := by rintro rfl; simp [isShift] at hs
    simp only [Bool.false_eq_true, if_false, if_neg hne]
    have hw := wideB_in ho hat hbt hx' hy'
    have e : aluN op (x &&& low32) (y &&& low32) ((y &&& low32).toNat % 32) = alu64 op (x &&& low32) (y &&& low32) := by
      unfold alu64 aluN
      simp only [if_neg hne, if_neg hn1, if_neg hn2]
    rw [e]
    exact (blow_in (tidyA_check (wideB_check _ hat hbt)) (tidyA_in (wideB_check _ hat hbt) hw)).1
  · simp only [if_true]
    split
    · split
      · exact upto_in (sar32_le _ _)
      · exact upto_in (low_le _)
    · rename_i hc
      generalize hB : (if (blow b).ul = (blow b).uh then bconst (BitVec.ofNat 64 ((blow b).ul.toNat % 32)) else blow b) = b'
      have hbt' : tcheck b'.t = true := by
        rw [← hB]; split
        · exact (bcheck_iff.1 (const_check _)).2
        · exact hbt
      have hsh : op = 96 ∨ op = 112 ∨ op = 192 := by simp [isShift] at hs; omega
      have fin : ∀ z : B, z.toNat ≤ 4294967295 → bin (wideB (if op = 192 then 112 else op) (blow a) b') z = true → bin (blow (tidyA (wideB (if op = 192 then 112 else op) (blow a) b'))) z = true := by
        intro z hz h
        have := (blow_in (tidyA_check (wideB_check _ hat hbt')) (tidyA_in (wideB_check _ hat hbt') h)).1
        rwa [low_low hz] at this
      have finL : ∀ z : B, bin (wideB (if op = 192 then 112 else op) (blow a) b') z = true → bin (blow (tidyA (wideB (if op = 192 then 112 else op) (blow a) b'))) (z &&& low32) = true := by
        intro z h
        exact (blow_in (tidyA_check (wideB_check _ hat hbt')) (tidyA_in (wideB_check _ hat hbt') h)).1
      by_cases hv : (blow b).ul = (blow b).uh
      · rw [if_pos hv] at hB
        have hyv := value_of hv hy'
        have hk : (y &&& low32).toNat % 32 < 32 := Nat.mod_lt _ (by omega)
        rw [← hyv] at hB
        have h1 : (BitVec.ofNat 64 ((y &&& low32).toNat % 32)).toNat % 64 = (y &&& low32).toNat % 32 := by
          rw [BitVec.toNat_ofNat, Nat.mod_eq_of_lt (show (y &&& low32).toNat % 32 < 2 ^ 64 by omega), Nat.mod_eq_of_lt (by omega)]
        have hyb : bin b' (BitVec.ofNat 64 ((y &&& low32).toNat % 32)) = true := by rw [← hB]; exact const_in_self _
        rcases hsh with rfl | rfl | rfl
        · have hw := wideB_in (op := 96) (by decide) hat hbt' hx' hyb
          simp only [Int.reduceEq, if_false] at finL ⊢
          have e : alu64 96 (x &&& low32) (BitVec.ofNat 64 ((y &&& low32).toNat % 32)) = (x &&& low32) <<< ((y &&& low32).toNat % 32) := by
            unfold alu64 aluN
            rw [h1]
            simp
          rw [e] at hw
          have := finL _ hw
          simpa [aluN] using this
        · have hw := wideB_in (op := 112) (by decide) hat hbt' hx' hyb
          simp only [Int.reduceEq, if_false] at finL ⊢
          have e : alu64 112 (x &&& low32) (BitVec.ofNat 64 ((y &&& low32).toNat % 32)) = (x &&& low32) >>> ((y &&& low32).toNat % 32) := by
            unfold alu64 aluN
            rw [h1]
            simp
          rw [e] at hw
          have := finL _ hw
          simpa [aluN] using this
        · have hw := wideB_in (op := 112) (by decide) hat hbt' hx' hyb
          have hu : (blow a).uh.toNat ≤ 2147483647 := by omega
          have hxs : (x &&& low32).toNat ≤ 2147483647 := by have := bin_iff.1 hx'; omega
          simp only [if_true] at fin ⊢
          have e : alu64 112 (x &&& low32) (BitVec.ofNat 64 ((y &&& low32).toNat % 32)) = (x &&& low32) >>> ((y &&& low32).toNat % 32) := by
            unfold alu64 aluN
            rw [h1]
            simp
          rw [e] at hw
          rw [sar32_shr hxs]
          refine fin _ ?_ hw
          rw [shr_nat]
          exact Nat.le_trans (Nat.div_le_self _ _) hxl
      · rw [if_neg hv] at hB
        have ho2 : op = 112 := by
          by_cases h : op = 112
          · exact h
          · exact absurd (.inl ⟨hv, h⟩) hc
        subst ho2
        subst hB
        simp only [Int.reduceEq, if_false] at finL ⊢
        have hw : bin (wideB 112 (blow a) (blow b)) ((x &&& low32) >>> ((y &&& low32).toNat % 32)) = true := by
          unfold wideB
          simp only [Int.reduceEq, if_false, if_neg hv, if_true]
          refine uptoU_in hx' ?_
          rw [shr_nat]
          exact Nat.div_le_self _ _
        have := finL _ hw
        simpa [aluN] using this
/-- nothing is left out -/
theorem aluB_in {op : Int} (ho : isOp op = true) {a b : Bd} {x y : B} {wide : Bool} (ha : bcheck a = true) (hb : bcheck b = true) (hx : bin a x = true) (hy : bin b y = true) : bin (aluB op a b wide) (aluW op x y wide) = true := by
  unfold aluB aluW
  rw [if_neg (by rw [ho]; simp), if_neg (by rw [ha, hb]; simp)]
  have hat := (bcheck_iff.1 ha).2
  have hbt := (bcheck_iff.1 hb).2
  cases wide
  · simp only [Bool.false_eq_true, if_false]
    exact tidyA_in (bcheck_iff.1 (narrowB_check op ha hb)).2 (narrowB_in ho ha hb hx hy)
  · simp only [if_true]
    exact tidyA_in (wideB_check op hat hbt) (wideB_in ho hat hbt hx hy)
theorem aluB_check (op : Int) (a b : Bd) (wide : Bool) : bcheck (aluB op a b wide) = true := by
  unfold aluB
  split
  · exact any_check
  · split
    · exact any_check
    · rename_i h1 h2
      have ha : bcheck a = true := by cases h : bcheck a with | true => rfl | false => exact absurd (.inl h) h2
      have hb : bcheck b = true := by cases h : bcheck b with | true => rfl | false => exact absurd (.inr h) h2
      split
      · exact tidyA_check (wideB_check op (bcheck_iff.1 ha).2 (bcheck_iff.1 hb).2)
      · exact tidyA_check (bcheck_iff.1 (narrowB_check op ha hb)).2
end Go.Proofs.Yticjhcbkkkkckaa

/- Plain facts on bounds (no program): known numbers; what is cut is never empty when tidied again. -/
namespace Go.Proofs.Yticjhcbkkkkckaa

/-- bits that are all known: tidied to the one number, if that is in -/
theorem tidy_known {b : Bd} {v : B} (ht : b.t = ⟨v, 0#64⟩) (hv : bin b v = true) : tidy b = some (bconst v) := by
  obtain ⟨⟨⟨h1, h2⟩, h3, h4⟩, _⟩ := bin_iff.1 hv
  have e1 : tidyB b = bconst v := by
    have a1 : umax b.ul v = v := by
      unfold umax; split
      · rfl
      · exact BitVec.eq_of_toNat_eq (by omega)
    have a2 : umin b.uh v = v := by
      unfold umin; split
      · rfl
      · exact BitVec.eq_of_toNat_eq (by omega)
    have a3 : smax b.sl v = v := by
      unfold smax; split
      · rfl
      · exact BitVec.eq_of_toInt_eq (by omega)
    have a4 : smin b.sh v = v := by
      unfold smin; split
      · rfl
      · exact BitVec.eq_of_toInt_eq (by omega)
    unfold tidyB
    rw [ht]
    simp [tlo, thi, a1, a2, a3, a4, bconst]
  have e2 : tidy1 b = tidy1 (bconst v) := by
    have e3 : tidyB (bconst v) = bconst v := by
      simp [tidyB, bconst, umax_self, umin_self, smax_self, smin_self, tlo, thi]
    unfold tidy1
    rw [e1, e3]
  unfold tidy
  rw [e2, tidy1_const]
  exact tidy1_const v
theorem tadd_known (x y : B) : tadd ⟨x, 0#64⟩ ⟨y, 0#64⟩ = ⟨x + y, 0#64⟩ := by simp [tadd, tof, and_all]
theorem tsub_known (x y : B) : tsub ⟨x, 0#64⟩ ⟨y, 0#64⟩ = ⟨x - y, 0#64⟩ := by simp [tsub, tof, and_all]
theorem tmulQ_known (n : Nat) : ∀ x y : B, tmulQ n ⟨x, 0#64⟩ ⟨y, 0#64⟩ ⟨0#64, 0#64⟩ = ⟨0#64, 0#64⟩ := by
  induction n with
  | zero => exact fun _ _ => rfl
  | succ n ih =>
    intro x y
    unfold tmulQ
    split
    · rfl
    · have e : tadd ⟨0#64, 0#64⟩ ⟨0#64, 0#64⟩ = ⟨0#64, 0#64⟩ := by rw [tadd_known]; simp
      simp only [e, BitVec.zero_ushiftRight, BitVec.zero_shiftLeft, BitVec.getLsbD_zero, Bool.false_eq_true, if_false, ite_self]
      exact ih _ _
theorem tmul_known (x y : B) : tmul ⟨x, 0#64⟩ ⟨y, 0#64⟩ = ⟨x * y, 0#64⟩ := by
  unfold tmul
  rw [tmulQ_known, tadd_known]
  simp
theorem tand_known (x y : B) : tand ⟨x, 0#64⟩ ⟨y, 0#64⟩ = ⟨x &&& y, 0#64⟩ := by
  have : (x &&& y) &&& ~~~(x &&& y) = 0#64 := bext fun i hi => by simp [hi]
  simp [tand, this]
theorem tor_known (x y : B) : tor ⟨x, 0#64⟩ ⟨y, 0#64⟩ = ⟨x ||| y, 0#64⟩ := by simp [tor]
theorem txor_known (x y : B) : txor ⟨x, 0#64⟩ ⟨y, 0#64⟩ = ⟨x ^^^ y, 0#64⟩ := by simp [txor, tof, and_all]
theorem tshl_known (x : B) (n : Nat) : tshl ⟨x, 0#64⟩ n = ⟨x <<< n, 0#64⟩ := by simp [tshl]
theorem tshr_known (x : B) (n : Nat) : tshr ⟨x, 0#64⟩ n = ⟨x >>> n, 0#64⟩ := by simp [tshr]
theorem tsar_known (x : B) (n : Nat) : tsar ⟨x, 0#64⟩ n = ⟨x.sshiftRight n, 0#64⟩ := by simp [tsar]
theorem const_t (x : B) : (bconst x).t = ⟨x, 0#64⟩ := rfl
theorem const_ul (x : B) : (bconst x).ul = x := rfl
theorem const_uh (x : B) : (bconst x).uh = x := rfl
theorem const_ht (x : B) : tcheck (bconst x).t = true := (bcheck_iff.1 (const_check x)).2
theorem tidyA_known {b : Bd} {v : B} (ht : b.t = ⟨v, 0#64⟩) (hv : bin b v = true) : tidyA b = bconst v := by
  unfold tidyA
  rw [tidy_known ht hv]
  rfl
theorem tidyA_const (x : B) : tidyA (bconst x) = bconst x := by
  unfold tidyA
  rw [tidy_const]
  rfl
/-- of known numbers the answer is known (but of a remainder, and of a division by nought) -/
theorem wide_known {op : Int} (ho : isOp op = true) (h1 : op ≠ 144) (x y : B) (h2 : op = 48 → y ≠ 0#64) : tidyA (wideB op (bconst x) (bconst y)) = bconst (alu64 op x y) := by
  have hin := wideB_in ho (const_ht x) (const_ht y) (const_in_self x) (const_in_self y)
  by_cases h48 : op = 48
  · subst h48
    have hy : 0 < y.toNat := by
      have := h2 rfl
      rcases Nat.eq_zero_or_pos y.toNat with h | h
      · exact absurd (BitVec.eq_of_toNat_eq (by simpa using h)) this
      · exact h
    have e : wideB 48 (bconst x) (bconst y) = bone (x / y) := by
      show divB (bconst x) (bconst y) = _
      unfold divB
      rw [if_pos ⟨rfl, hy⟩]
      rfl
    have e2 : alu64 48 x y = x / y := by simp [alu64, aluN]
    rw [e, e2]
    unfold tidyA
    rw [tidy_one]
    rfl
  · refine tidyA_known ?_ hin
    clear hin
    rcases isOp_cases ho with rfl | rfl | rfl | rfl | rfl | rfl | rfl | rfl | rfl | rfl | rfl | rfl | rfl
    · show tadd _ _ = _; rw [const_t, const_t, tadd_known]; simp [alu64, aluN]
    · show tsub _ _ = _; rw [const_t, const_t, tsub_known]; simp [alu64, aluN]
    · show tmul _ _ = _; rw [const_t, const_t, tmul_known]; simp [alu64, aluN]
    · exact absurd rfl h48
    · show tor _ _ = _; rw [const_t, const_t, tor_known]; simp [alu64, aluN]
    · show tand _ _ = _; rw [const_t, const_t, tand_known]; simp [alu64, aluN]
    · show (if (bconst y).ul = (bconst y).uh then shiftB 96 (bconst x) ((bconst y).ul.toNat % 64) else _ : Bd).t = _
      rw [if_pos (show (bconst y).ul = (bconst y).uh from rfl)]
      show tshl _ _ = _; rw [const_t, const_ul, tshl_known]; simp [alu64, aluN]
    · show (if (bconst y).ul = (bconst y).uh then shiftB 112 (bconst x) ((bconst y).ul.toNat % 64) else _ : Bd).t = _
      rw [if_pos (show (bconst y).ul = (bconst y).uh from rfl)]
      show tshr _ _ = _; rw [const_t, const_ul, tshr_known]; simp [alu64, aluN]
    · show tsub _ _ = _; rw [const_t, const_t, tsub_known]; simp [alu64, aluN]
    · exact absurd rfl h1
    · show txor _ _ = _; rw [const_t, const_t, txor_known]; simp [alu64, aluN]
    · show (bconst y).t = _; rw [const_t]; simp [alu64, aluN]
    · show (if (bconst y).ul = (bconst y).uh then shiftB 192 (bconst x) ((bconst y).ul.toNat % 64) else _ : Bd).t = _
      rw [if_pos (show (bconst y).ul = (bconst y).uh from rfl)]
      show tsar _ _ = _; rw [const_t, const_ul, tsar_known]; simp [alu64, aluN]
theorem blow_const (x : B) : blow (bconst x) = bconst (x &&& low32) := by
  unfold blow
  split
  · rename_i h
    rw [low_same (x := x) h]
  · have e : tidy { bupto low32 with t := tlow (bconst x).t } = some (bconst (x &&& low32)) := by
      refine tidy_known ?_ ?_
      · show tlow _ = _
        simp [tlow, bconst]
      · have h := bin_iff.1 (upto_in (low_le x))
        rw [bin_iff]
        refine ⟨h.1, ?_⟩
        exact tlow_in (bin_iff.1 (const_in_self x)).2
    rw [e]
    rfl
theorem narrow_known {op : Int} (ho : isOp op = true) (h1 : op ≠ 144) (h3 : op ≠ 192) (x y : B) (h2 : op = 48 → y &&& low32 ≠ 0#64) : narrowB op (bconst x) (bconst y) = bconst (alu32 op x y) := by
  unfold narrowB alu32
  simp only [blow_const, if_neg h3]
  cases hs : isShift op
  · simp only [Bool.false_eq_true, if_false]
    rw [wide_known ho h1 _ _ h2, blow_const]
    have hn1 : op ≠ 96 := by rintro rfl; simp [isShift] at hs
    have hn2 : op ≠ 112 := by rintro rfl; simp [isShift] at hs
    have e : aluN op (x &&& low32) (y &&& low32) ((y &&& low32).toNat % 32) = alu64 op (x &&& low32) (y &&& low32) := by
      unfold alu64 aluN
      simp only [if_neg h3, if_neg hn1, if_neg hn2]
    rw [e]
  · have hsh : op = 96 ∨ op = 112 := by simp [isShift] at hs; omega
    simp only [if_true]
    rw [if_neg (by rintro (⟨h, _⟩ | ⟨h, _⟩); exact h rfl; exact h3 h), if_pos (show (bconst (y &&& low32)).ul = (bconst (y &&& low32)).uh from rfl), const_ul, wide_known ho h1 _ _ (fun h => by subst h; simp at hsh), blow_const]
    have h5 : (BitVec.ofNat 64 ((y &&& low32).toNat % 32)).toNat % 64 = (y &&& low32).toNat % 32 := by
      have hk : (y &&& low32).toNat % 32 < 32 := Nat.mod_lt _ (by omega)
      rw [BitVec.toNat_ofNat, Nat.mod_eq_of_lt (show (y &&& low32).toNat % 32 < 2 ^ 64 by omega), Nat.mod_eq_of_lt (by omega)]
    have e : alu64 op (x &&& low32) (BitVec.ofNat 64 ((y &&& low32).toNat % 32)) = aluN op (x &&& low32) (y &&& low32) ((y &&& low32).toNat % 32) := by
      unfold alu64 aluN
      rw [h5]
      rcases hsh with rfl | rfl <;> simp
    rw [e]
theorem aluB_known {op : Int} (ho : isOp op = true) (h1 : op ≠ 144) (x y : B) (wide : Bool) (h2 : op = 48 → y ≠ 0#64 ∧ y &&& low32 ≠ 0#64) (h3 : op = 192 → wide = true) : aluB op (bconst x) (bconst y) wide = bconst (aluW op x y wide) := by
  unfold aluB aluW
  rw [if_neg (by rw [ho]; simp), if_neg (by rw [const_check, const_check]; simp)]
  cases wide
  · simp only [Bool.false_eq_true, if_false]
    rw [narrow_known ho h1 (fun h => by have := h3 h; cases this) x y (fun h => (h2 h).2), tidyA_const]
  · simp only [if_true]
    exact wide_known ho h1 x y (fun h => (h2 h).1)

/-- one round leaves a word's two readings together, or its greatest number has a sign -/
theorem tidyS_sync (b : Bd) : ((tidyS b).sl = (tidyS b).ul ∧ (tidyS b).sh = (tidyS b).uh) ∨ (tidyS b = b ∧ b.uh.toInt < 0 ∧ 0 ≤ b.ul.toInt ∧ b.sl.toInt < 0 ∧ 0 ≤ b.sh.toInt) := by
  unfold tidyS
  split
  · exact .inl ⟨rfl, rfl⟩
  · rename_i h1
    split
    · exact .inl ⟨rfl, rfl⟩
    · rename_i h2
      split
      · exact .inl ⟨rfl, rfl⟩
      · rename_i h3
        exact .inr ⟨rfl, by omega, by omega, by omega, by omega⟩
/-- what one round answers -/
theorem tidy1_form {a b : Bd} (h : tidy1 a = some b) : b = tidyR (tidyS (tidyB a)) ∧ bgood (tidyB a) = true ∧ bgood (tidyS (tidyB a)) = true ∧ tagree (tidyS (tidyB a)).t (rangeT (tidyS (tidyB a)).ul (tidyS (tidyB a)).uh) = true := by
  unfold tidy1 at h
  by_cases h1 : bgood (tidyB a) = false
  · rw [if_pos h1] at h; cases h
  rw [if_neg h1] at h
  by_cases h2 : tagree (tidyS (tidyB a)).t (rangeT (tidyS (tidyB a)).ul (tidyS (tidyB a)).uh) = false ∨ bgood (tidyS (tidyB a)) = false
  · rw [if_pos h2] at h; cases h
  rw [if_neg h2] at h
  injection h with h
  exact ⟨h.symm, by simpa using h1, by simpa using fun e => h2 (.inr e), by simpa using fun e => h2 (.inl e)⟩
/-- below 2^63 the two readings are one -/
theorem tidy1_sync {a b : Bd} (h : tidy1 a = some b) (hu : b.uh.toNat < 9223372036854775808) : b.sl = b.ul ∧ b.sh = b.uh := by
  obtain ⟨rfl, _, _, _⟩ := tidy1_form h
  rcases tidyS_sync (tidyB a) with hs | ⟨e, h1, _⟩
  · exact hs
  · exfalso
    have : (tidyR (tidyS (tidyB a))).uh = (tidyB a).uh := by rw [e]; rfl
    rw [this] at hu
    have := two (tidyB a).uh
    omega
theorem tidy_sync {a b : Bd} (h : tidy a = some b) (hu : b.uh.toNat < 9223372036854775808) : b.sl = b.ul ∧ b.sh = b.uh := by
  unfold tidy at h
  cases h1 : tidy1 a with
  | none => rw [h1] at h; cases h
  | some c => rw [h1] at h; exact tidy1_sync h hu
theorem meet_again {t r : Tn} : tmeetT (tmeetT t r) r = tmeetT t r := by
  have hv : (tmeetT (tmeetT t r) r).v = (tmeetT t r).v := by
    apply bext
    intro i hi
    unfold tmeetT
    simp only [tof_v hi, tof_m, BitVec.getLsbD_and, BitVec.getLsbD_or]
    cases t.v.getLsbD i <;> cases t.m.getLsbD i <;> cases r.v.getLsbD i <;> cases r.m.getLsbD i <;> rfl
  have hm : (tmeetT (tmeetT t r) r).m = (tmeetT t r).m := by
    apply bext
    intro i hi
    unfold tmeetT
    simp only [tof_m, BitVec.getLsbD_and]
    cases t.m.getLsbD i <;> cases r.m.getLsbD i <;> rfl
  cases h1 : tmeetT (tmeetT t r) r
  cases h2 : tmeetT t r
  rw [h1, h2] at hv hm
  simp at hv hm
  rw [hv, hm]
end Go.Proofs.Yticjhcbkkkkckaa

/- Plain facts on bounds (no program): what is tidied, and below 2^63, is not empty when it is tidied again; so what is not wide is below 2^32. -/
namespace Go.Proofs.Yticjhcbkkkkckaa

theorem bit63 {x : B} : x.getLsbD 63 = decide (9223372036854775808 ≤ x.toNat) := by
  rcases toInt_cases x with ⟨h, h2, _⟩ | ⟨h, h2, _⟩
  · rw [h]; symm; exact decide_eq_false (by omega)
  · rw [h]; symm; exact decide_eq_true h2
theorem lo63 (t : Tn) : (tlo t).getLsbD 63 = (t.v.getLsbD 63 || t.m.getLsbD 63) := by
  unfold tlo
  rw [BitVec.getLsbD_or, BitVec.getLsbD_and, top_bit (by omega)]
  simp
theorem hi63 (t : Tn) : (thi t).getLsbD 63 = t.v.getLsbD 63 := by
  unfold thi
  rw [BitVec.getLsbD_or, BitVec.getLsbD_and, most_bit (by omega)]
  simp
theorem lo_plain {t : Tn} (h : t.m.getLsbD 63 = false) : tlo t = t.v := by
  unfold tlo
  apply bext
  intro i hi
  rw [BitVec.getLsbD_or, BitVec.getLsbD_and, top_bit hi]
  by_cases e : i = 63
  · subst e; rw [h]; simp
  · rw [decide_eq_false e]; simp
theorem hi_plain {t : Tn} (h : t.m.getLsbD 63 = false) : thi t = t.v ||| t.m := by
  unfold thi
  apply bext
  intro i hi
  rw [BitVec.getLsbD_or, BitVec.getLsbD_and, BitVec.getLsbD_or, most_bit hi]
  by_cases e : i = 63
  · subst e; rw [h]; simp
  · rw [decide_eq_false e]; simp
theorem range_m (a b : B) {i : Nat} (hi : i < 64) : (rangeT a b).m.getLsbD i = decide (i < lenN (a ^^^ b).toNat) := by
  unfold rangeT
  rw [tof_m]
  exact fill_bit hi
theorem range_v (a b : B) {i : Nat} (hi : i < 64) : (rangeT a b).v.getLsbD i = (a.getLsbD i && !decide (i < lenN (a ^^^ b).toNat)) := by
  unfold rangeT
  rw [tof_v hi]
  unfold fillN
  rw [fill_bit hi]
theorem lenN_63 (n : Nat) : (63 < lenN n) ↔ 9223372036854775808 ≤ n := by
  unfold lenN
  split
  · omega
  · rename_i h
    have := Nat.le_log2 h (k := 63)
    constructor
    · intro h2
      have := this.1 (by omega)
      simpa using this
    · intro h2
      have := this.2 (by simpa using h2)
      omega
theorem range63 (a b : B) : (rangeT a b).m.getLsbD 63 = (a.getLsbD 63 ^^ b.getLsbD 63) := by
  rw [range_m a b (by omega)]
  have h := bit63 (x := a ^^^ b)
  rw [BitVec.getLsbD_xor] at h
  rw [h, decide_eq_decide]
  exact lenN_63 _
theorem umax_smax {a b : B} (ha : a.toNat < 9223372036854775808) (hb : b.toNat < 9223372036854775808) : smax a b = umax a b := by
  have h1 := two a
  have h2 := two b
  unfold smax umax
  split <;> split <;> first | rfl | omega
theorem umin_smin {a b : B} (ha : a.toNat < 9223372036854775808) (hb : b.toNat < 9223372036854775808) : smin a b = umin a b := by
  have h1 := two a
  have h2 := two b
  unfold smin umin
  split <;> split <;> first | rfl | omega
theorem v_in {t : Tn} (h : tcheck t = true) : tin t t.v = true := by
  rw [tin_bit]
  intro i hi
  have := tcheck_bit.1 h i hi
  revert this
  cases t.v.getLsbD i <;> cases t.m.getLsbD i <;> simp
theorem vm_in {t : Tn} (h : tcheck t = true) : tin t (t.v ||| t.m) = true := by
  rw [tin_bit]
  intro i hi
  have := tcheck_bit.1 h i hi
  rw [BitVec.getLsbD_or]
  revert this
  cases t.v.getLsbD i <;> cases t.m.getLsbD i <;> simp
theorem v_le_vm (t : Tn) : t.v.toNat ≤ (t.v ||| t.m).toNat := by
  rw [BitVec.toNat_or]; exact Nat.left_le_or
/-- a round whose greatest number has no sign began with one that has none -/
theorem round_low {a c b : Bd} (ha : tcheck a.t = true) (h1 : tidy1 a = some c) (h2 : tidy1 c = some b) (hu : b.uh.toNat < 9223372036854775808) : c.uh.toNat < 9223372036854775808 := by
  obtain ⟨hc, g1, g2, g3⟩ := tidy1_form h1
  obtain ⟨hb, k1, k2, k3⟩ := tidy1_form h2
  obtain ⟨cc, _⟩ := tidy1_some ha h1
  obtain ⟨⟨c1, c2⟩, _⟩ := bcheck_iff.1 cc
  have bs := tidy1_sync h2 hu
  by_cases hge : c.uh.toNat < 9223372036854775808
  · exact hge
  exfalso
  have ebu : b.uh = (tidyS (tidyB c)).uh := by rw [hb]; rfl
  have ebl : b.ul = (tidyS (tidyB c)).ul := by rw [hb]; rfl
  obtain ⟨⟨b1, _⟩, _⟩ := bcheck_iff.1 (tidy1_some (bcheck_iff.1 cc).2 h2).1
  rw [ebu] at hu
  rw [ebu, ebl] at b1
  have t1 := two c.uh
  have t2 := two c.ul
  -- the second part of the round, said of any bounds
  have key : ∀ e : Bd, 9223372036854775808 ≤ e.ul.toNat → (tidyS e).ul.toNat ≤ (tidyS e).uh.toNat → (tidyS e).uh.toNat < 9223372036854775808 → False := by
    intro e he
    have q := two e.uh
    unfold tidyS
    split
    · have := le_umax (a := e.ul) (b := e.sl)
      show (umax e.ul e.sl).toNat ≤ _ → _
      omega
    · split
      · show e.ul.toNat ≤ _ → _
        omega
      · split
        · show _ → e.uh.toNat < _ → False
          omega
        · show e.ul.toNat ≤ _ → _
          omega
  have ec : c = tidyR (tidyS (tidyB a)) := hc
  rcases tidyS_sync (tidyB a) with hs | ⟨e, s1, s2, s3, s4⟩
  · have es : c.sl = c.ul ∧ c.sh = c.uh := by rw [ec]; exact hs
    rw [es.1, es.2] at c2
    refine key (tidyB c) ?_ b1 hu
    have := le_umax (a := c.ul) (b := c.t.v)
    show _ ≤ (umax c.ul c.t.v).toNat
    omega
  · rw [e] at hc
    have u1 : c.uh = (tidyB a).uh := by rw [hc]; rfl
    have u2 : c.ul = (tidyB a).ul := by rw [hc]; rfl
    have u3 : c.sl = (tidyB a).sl := by rw [hc]; rfl
    have u4 : c.sh = (tidyB a).sh := by rw [hc]; rfl
    have u5 : c.t = tmeetT a.t (rangeT c.ul c.uh) := by rw [hc]; rfl
    rw [← u1] at s1
    rw [← u2] at s2
    rw [← u3] at s3
    rw [← u4] at s4
    have x1 : c.uh.getLsbD 63 = true := by rw [bit63]; exact decide_eq_true (by omega)
    have x2 : c.ul.getLsbD 63 = false := by rw [bit63]; exact decide_eq_false (by omega)
    have r1 : (rangeT c.ul c.uh).m.getLsbD 63 = true := by rw [range63, x1, x2]; rfl
    have r2 : (rangeT c.ul c.uh).v.getLsbD 63 = false := by rw [range_v _ _ (by omega), x2]; rfl
    have m1 : c.t.m.getLsbD 63 = a.t.m.getLsbD 63 := by rw [u5]; unfold tmeetT; rw [tof_m, BitVec.getLsbD_and, r1]; simp
    have v1 : c.t.v.getLsbD 63 = (a.t.v.getLsbD 63 && !a.t.m.getLsbD 63) := by
      rw [u5]; unfold tmeetT; rw [tof_v (by omega), BitVec.getLsbD_or, BitVec.getLsbD_and, r1, r2]; simp
    have av : a.t.v.getLsbD 63 = false := by
      have := (le_umax (a := a.ul) (b := a.t.v)).2
      have h3 : c.ul = umax a.ul a.t.v := by rw [u2]; rfl
      rw [bit63]; apply decide_eq_false
      rw [← h3] at this
      omega
    have am : a.t.m.getLsbD 63 = true := by
      have h3 : c.uh = umin a.uh (a.t.v ||| a.t.m) := by rw [u1]; rfl
      have := (umin_le (a := a.uh) (b := a.t.v ||| a.t.m)).2
      rw [← h3] at this
      have h4 : (a.t.v ||| a.t.m).getLsbD 63 = true := by rw [bit63]; exact decide_eq_true (by omega)
      rw [BitVec.getLsbD_or, av] at h4
      simpa using h4
    rw [av] at v1
    rw [am] at m1
    have v1' : c.t.v.getLsbD 63 = false := by simpa using v1
    have vm : (c.t.v ||| c.t.m).getLsbD 63 = true := by rw [BitVec.getLsbD_or, m1]; simp
    have vm' : 9223372036854775808 ≤ (c.t.v ||| c.t.m).toNat := by rw [bit63] at vm; exact of_decide_eq_true vm
    have w1 : 9223372036854775808 ≤ (tidyB c).uh.toNat := by
      show _ ≤ (umin c.uh (c.t.v ||| c.t.m)).toNat
      rw [le_umin]
      omega
    have lneg : (tlo c.t).toInt < 0 := by
      have := lo63 c.t
      rw [v1', m1, bit63] at this
      have h5 : 9223372036854775808 ≤ (tlo c.t).toNat := of_decide_eq_true (by simpa using this)
      have := two (tlo c.t)
      omega
    have hpos : 0 ≤ (thi c.t).toInt := by
      have := hi63 c.t
      rw [v1', bit63] at this
      have h5 : ¬ (9223372036854775808 ≤ (thi c.t).toNat) := of_decide_eq_false this
      have := two (thi c.t)
      omega
    have w2 : (tidyB c).sl.toInt < 0 := by
      show (smax c.sl (tlo c.t)).toInt < 0
      unfold smax
      split <;> omega
    have w3 : 0 ≤ (tidyB c).sh.toInt := by
      show 0 ≤ (smin c.sh (thi c.t)).toInt
      rw [le_smin]
      omega
    have w4 : (tidyB c).ul.toNat < 9223372036854775808 := by
      show (umax c.ul c.t.v).toNat < _
      have : ¬ (9223372036854775808 ≤ c.t.v.toNat) := by rw [bit63] at v1'; exact of_decide_eq_false v1'
      unfold umax
      split <;> omega
    have q1 := two (tidyB c).uh
    have q2 := two (tidyB c).ul
    have e2 : tidyS (tidyB c) = tidyB c := by
      unfold tidyS
      rw [if_neg (by omega), if_neg (by omega), if_neg (by omega)]
    rw [e2] at hu
    omega
/-- what is tidied, and below 2^63, is not empty when it is tidied again -/
theorem tidy_again {a b : Bd} (ha : tcheck a.t = true) (h : tidy a = some b) (hu : b.uh.toNat < 9223372036854775808) : ∃ k, tidy b = some k := by
  unfold tidy at h
  cases h1 : tidy1 a with
  | none => rw [h1] at h; cases h
  | some c =>
    rw [h1] at h
    have h2 : tidy1 c = some b := h
    have hcu := round_low ha h1 h2 hu
    have hcs := tidy1_sync h1 hcu
    obtain ⟨hc, g1, g2, g3⟩ := tidy1_form h1
    obtain ⟨hb, k1, k2, k3⟩ := tidy1_form h2
    obtain ⟨cc, _⟩ := tidy1_some ha h1
    obtain ⟨⟨c1, c2⟩, ct⟩ := bcheck_iff.1 cc
    obtain ⟨bc, bi⟩ := tidy1_some ct h2
    have bt := (bcheck_iff.1 bc).2
    have u5 : c.t = tmeetT a.t (rangeT c.ul c.uh) := by
      have : (tidyR (tidyS (tidyB a))).t = tmeetT a.t (rangeT (tidyR (tidyS (tidyB a))).ul (tidyR (tidyS (tidyB a))).uh) := by
        show tmeetT (tidyS (tidyB a)).t _ = _
        rw [tidyS_t]
        rfl
      rw [← hc] at this
      exact this
    have agr : tagree a.t (rangeT c.ul c.uh) = true := by
      rw [tidyS_t] at g3
      have e1 : c.ul = (tidyS (tidyB a)).ul := by rw [hc]; rfl
      have e2 : c.uh = (tidyS (tidyB a)).uh := by rw [hc]; rfl
      rw [e1, e2]
      exact g3
    have x1 : c.uh.getLsbD 63 = false := by rw [bit63]; exact decide_eq_false (by omega)
    have x2 : c.ul.getLsbD 63 = false := by rw [bit63]; exact decide_eq_false (by omega)
    have r1 : (rangeT c.ul c.uh).m.getLsbD 63 = false := by rw [range63, x1, x2]; rfl
    have r2 : (rangeT c.ul c.uh).v.getLsbD 63 = false := by rw [range_v _ _ (by omega), x2]; rfl
    have m1 : c.t.m.getLsbD 63 = false := by rw [u5]; unfold tmeetT; rw [tof_m, BitVec.getLsbD_and, r1]; simp
    have v1 : c.t.v.getLsbD 63 = false := by
      have t1 := tagree_bit.1 agr 63 (by omega)
      have t2 := tcheck_bit.1 ha 63 (by omega)
      rw [r1, r2] at t1
      rw [u5]; unfold tmeetT; rw [tof_v (by omega), BitVec.getLsbD_or, BitVec.getLsbD_and, r1, r2]
      revert t1 t2
      cases a.t.v.getLsbD 63 <;> cases a.t.m.getLsbD 63 <;> simp
    have vl : c.t.v.toNat < 9223372036854775808 := by rw [bit63] at v1; have := of_decide_eq_false v1; omega
    have vml : (c.t.v ||| c.t.m).toNat < 9223372036854775808 := by
      have : (c.t.v ||| c.t.m).getLsbD 63 = false := by rw [BitVec.getLsbD_or, v1, m1]; rfl
      rw [bit63] at this
      have := of_decide_eq_false this
      omega
    have eB : tidyB c = ⟨umax c.ul c.t.v, umin c.uh (c.t.v ||| c.t.m), umax c.ul c.t.v, umin c.uh (c.t.v ||| c.t.m), c.t⟩ := by
      unfold tidyB
      rw [hcs.1, hcs.2, lo_plain m1, hi_plain m1, umax_smax (by omega) vl, umin_smin hcu vml]
    have ulb : (umax c.ul c.t.v).toNat < 9223372036854775808 := by unfold umax; split <;> omega
    have uhb : (umin c.uh (c.t.v ||| c.t.m)).toNat < 9223372036854775808 := by unfold umin; split <;> omega
    have eS : tidyS (tidyB c) = tidyB c := by
      rw [eB]
      unfold tidyS
      rw [if_pos (.inl (by have := two (umax c.ul c.t.v); show 0 ≤ (umax c.ul c.t.v).toInt; omega))]
      simp only [umax_self, umin_self]
    rw [eS, eB] at hb k2
    obtain ⟨n1, n2⟩ := bgood_iff.1 k2
    replace n1 : (umax c.ul c.t.v).toNat ≤ (umin c.uh (c.t.v ||| c.t.m)).toNat := n1
    have full : ∀ x : B, tin c.t x = true → c.ul.toNat ≤ x.toNat → x.toNat ≤ c.uh.toNat → ∃ k, tidy b = some k := by
      intro x hx hl hh
      cases hd : tidy b with
      | some k => exact ⟨k, rfl⟩
      | none =>
        have hbx := tidy_none bt hd x
        rw [bi x] at hbx
        have : bin c x = true := by
          rw [bin_iff]
          have q1 := two c.ul
          have q2 := two c.uh
          have q3 := two x
          refine ⟨⟨⟨hl, hh⟩, ?_, ?_⟩, hx⟩
          · rw [hcs.1]; omega
          · rw [hcs.2]; omega
        rw [this] at hbx
        cases hbx
    by_cases hv : c.ul.toNat < c.t.v.toNat
    · have e : umax c.ul c.t.v = c.t.v := by unfold umax; rw [if_pos hv]
      rw [e] at n1
      exact full c.t.v (v_in ct) (by omega) (Nat.le_trans n1 umin_le.1)
    · by_cases hw : (c.t.v ||| c.t.m).toNat < c.uh.toNat
      · have e : umin c.uh (c.t.v ||| c.t.m) = c.t.v ||| c.t.m := by unfold umin; rw [if_pos hw]
        rw [e] at n1
        exact full _ (vm_in ct) (Nat.le_trans le_umax.1 n1) (by omega)
      · have e1 : umax c.ul c.t.v = c.ul := by unfold umax; rw [if_neg hv]
        have e2 : umin c.uh (c.t.v ||| c.t.m) = c.uh := by unfold umin; rw [if_neg hw]
        rw [e1, e2] at hb
        have hbc : b = c := by
          rw [hb]
          show (⟨c.ul, c.uh, c.ul, c.uh, tmeetT c.t (rangeT c.ul c.uh)⟩ : Bd) = c
          have ht : tmeetT c.t (rangeT c.ul c.uh) = c.t := by
            have h5 : tmeetT (tmeetT a.t (rangeT c.ul c.uh)) (rangeT c.ul c.uh) = tmeetT a.t (rangeT c.ul c.uh) := meet_again
            rw [← u5] at h5
            exact h5
          rw [ht]
          obtain ⟨a1, a2, a3, a4, a5⟩ := c
          simp at hcs
          rw [hcs.1, hcs.2]
        refine ⟨b, ?_⟩
        unfold tidy
        rw [hbc, h2, hbc]
        show tidy1 c = some c
        rw [h2, hbc]
/-- what is not wide is below 2^32 -/
theorem blow_form (b : Bd) (hb : ∃ a, tcheck a.t = true ∧ (tidy a = some b)) : ∃ a, tcheck a.t = true ∧ (tidy a = some (blow b) ∨ blow b = bupto low32) := by
  obtain ⟨a, ha, h⟩ := hb
  unfold blow
  split
  · exact ⟨a, ha, .inl h⟩
  · have ht : tcheck (tlow b.t) = true := tlow_check (bcheck_iff.1 (tidy_some ha h).1).2
    cases hd : tidy { bupto low32 with t := tlow b.t } with
    | none => exact ⟨a, ha, .inr rfl⟩
    | some m => exact ⟨_, ht, .inl hd⟩
theorem upto_again : ∃ k, tidy (bupto low32) = some k ∧ k.uh.toNat ≤ 4294967295 ∧ 0 ≤ k.sl.toInt := by
  refine ⟨bupto low32, ?_, ?_, ?_⟩ <;> decide +kernel
theorem low_again {b : Bd} (h : (∃ a, tcheck a.t = true ∧ tidy a = some b) ∨ b = bupto low32) (hu : b.uh.toNat ≤ 4294967295) : (tidyA b).uh.toNat ≤ 4294967295 ∧ 0 ≤ (tidyA b).sl.toInt := by
  have main : ∀ k, tidy b = some k → tcheck b.t = true → (tidyA b).uh.toNat ≤ 4294967295 ∧ 0 ≤ (tidyA b).sl.toInt := by
    intro k hk ht
    have e : tidyA b = k := by unfold tidyA; rw [hk]; rfl
    rw [e]
    have h1 := tidy_uh hk
    have h2 := tidy_sync hk (by omega)
    obtain ⟨⟨h3, _⟩, _⟩ := bcheck_iff.1 (tidy_some ht hk).1
    refine ⟨by omega, ?_⟩
    rw [h2.1]
    have := two k.ul
    omega
  rcases h with ⟨a, ha, h⟩ | rfl
  · obtain ⟨k, hk⟩ := tidy_again ha h (by omega)
    exact main k hk (bcheck_iff.1 (tidy_some ha h).1).2
  · obtain ⟨k, hk, _⟩ := upto_again
    exact main k hk (bcheck_iff.1 upto_check).2
theorem any_low : ∃ a, tcheck a.t = true ∧ (tidy a = some (blow bany) ∨ blow bany = bupto low32) := by
  unfold blow
  rw [if_neg (by decide +kernel)]
  cases hd : tidy { bupto low32 with t := tlow bany.t } with
  | none => exact ⟨bany, anyT_check, .inr rfl⟩
  | some m => exact ⟨_, tlow_check anyT_check, .inl hd⟩
theorem aluB_low {op : Int} (ho : isOp op = true) {a b : Bd} (ha : bcheck a = true) (hb : bcheck b = true) : (aluB op a b false).uh.toNat ≤ 4294967295 ∧ 0 ≤ (aluB op a b false).sl.toInt := by
  have e : aluB op a b false = tidyA (narrowB op a b) := by
    unfold aluB
    rw [if_neg (by rw [ho]; simp), if_neg (by rw [ha, hb]; simp)]
    rfl
  rw [e]
  have cutA : ∀ x : Bd, tcheck x.t = true → (tidyA (blow (tidyA x))).uh.toNat ≤ 4294967295 ∧ 0 ≤ (tidyA (blow (tidyA x))).sl.toInt := by
    intro x hx
    have hf : ∃ a, tcheck a.t = true ∧ (tidy a = some (blow (tidyA x)) ∨ blow (tidyA x) = bupto low32) := by
      cases hd : tidy x with
      | none =>
        have : tidyA x = bany := by unfold tidyA; rw [hd]; rfl
        rw [this]
        exact any_low
      | some k =>
        have : tidyA x = k := by unfold tidyA; rw [hd]; rfl
        rw [this]
        exact blow_form k ⟨x, hx, hd⟩
    obtain ⟨y, hy, h | h⟩ := hf
    · exact low_again (.inl ⟨y, hy, h⟩) (blow_uh _)
    · exact low_again (.inr h) (blow_uh _)
  have hat := (bcheck_iff.1 (blow_check ha)).2
  have hbt := (bcheck_iff.1 (blow_check hb)).2
  unfold narrowB
  split
  · split
    · exact low_again (.inr rfl) (Nat.le_refl _)
    · refine cutA _ (wideB_check _ hat ?_)
      split
      · exact const_ht _
      · exact hbt
  · exact cutA _ (wideB_check _ hat hbt)
/-- what the laws ask at any rate -/
theorem heads9 : aluB 0 (tidyA ⟨1#64, 3#64, 1#64, 3#64, banyT⟩) (tidyA ⟨10#64, 20#64, 10#64, 20#64, banyT⟩) true = ⟨11#64, 23#64, 11#64, 23#64, ⟨0#64, 31#64⟩⟩ ∧ (aluB 80 bany (bconst 7#64) true).uh = 7#64 ∧ (aluB 80 bany (bconst 7#64) true).sl = 0#64 ∧ (aluB 176 bany bany false).uh = low32 := by
  decide +kernel
end Go.Proofs.Yticjhcbkkkkckaa
