/- Plain facts on bounds (no program): tidying loses nothing, meets, joins, cuts. -/
import Derived.Test.YtaolcmmdefchmaaPA
namespace Go.Proofs.Ytaolcmmdefchmaa

/-- what is known of a number: with signs (sl, sh) and without (ul, uh), and bits -/
structure Bd where
  ul : B
  uh : B
  sl : B
  sh : B
  t : Tn
deriving DecidableEq
def umax (a b : B) : B := if a.toNat < b.toNat then b else a
def umin (a b : B) : B := if b.toNat < a.toNat then b else a
def smax (a b : B) : B := if a.toInt < b.toInt then b else a
def smin (a b : B) : B := if b.toInt < a.toInt then b else a
def uinB (b : Bd) (x : B) : Bool := decide (b.ul.toNat ≤ x.toNat) && decide (x.toNat ≤ b.uh.toNat)
def sinB (b : Bd) (x : B) : Bool := decide (b.sl.toInt ≤ x.toInt) && decide (x.toInt ≤ b.sh.toInt)
def bin (b : Bd) (x : B) : Bool := uinB b x && sinB b x && tin b.t x
def bcheck (b : Bd) : Bool := decide (b.ul.toNat ≤ b.uh.toNat) && decide (b.sl.toInt ≤ b.sh.toInt) && tcheck b.t
def bgood (b : Bd) : Bool := decide (b.ul.toNat ≤ b.uh.toNat) && decide (b.sl.toInt ≤ b.sh.toInt)
def bwithin (a b : Bd) : Bool := uinB a b.ul && uinB a b.uh && sinB a b.sl && sinB a b.sh && twithin a.t b.t
def banyT : Tn := ⟨0#64, 18446744073709551615#64⟩
def bany : Bd := ⟨0#64, 18446744073709551615#64, topB, mostB, banyT⟩
def bzero : Bd := ⟨0#64, 0#64, 0#64, 0#64, ⟨0#64, 0#64⟩⟩
def bconst (x : B) : Bd := ⟨x, x, x, x, ⟨x, 0#64⟩⟩
def bupto (x : B) : Bd := ⟨0#64, x, 0#64, x, ⟨0#64, x⟩⟩
/-- the first part of tidying -/
def tidyB (b : Bd) : Bd := ⟨umax b.ul b.t.v, umin b.uh (b.t.v ||| b.t.m), smax b.sl (tlo b.t), smin b.sh (thi b.t), b.t⟩
/-- the second part -/
def tidyS (b : Bd) : Bd :=
  if 0 ≤ b.sl.toInt ∨ b.sh.toInt < 0 then ⟨umax b.ul b.sl, umin b.uh b.sh, umax b.ul b.sl, umin b.uh b.sh, b.t⟩
  else if 0 ≤ b.uh.toInt then ⟨b.ul, smin b.sh b.uh, b.ul, smin b.sh b.uh, b.t⟩
  else if b.ul.toInt < 0 then ⟨smax b.sl b.ul, b.uh, smax b.sl b.ul, b.uh, b.t⟩
  else b
def tidyR (b : Bd) : Bd := { b with t := tmeetT b.t (rangeT b.ul b.uh) }
/-- one round of tidying -/
def tidy1 (b : Bd) : Option Bd :=
  if bgood (tidyB b) = false then none
  else if tagree (tidyS (tidyB b)).t (rangeT (tidyS (tidyB b)).ul (tidyS (tidyB b)).uh) = false ∨ bgood (tidyS (tidyB b)) = false then none
  else some (tidyR (tidyS (tidyB b)))
def tidy (b : Bd) : Option Bd := (tidy1 b).bind tidy1
def bjoin (a b : Bd) : Bd := ⟨umin a.ul b.ul, umax a.uh b.uh, smin a.sl b.sl, smax a.sh b.sh, tjoin a.t b.t⟩
def bmeet (a b : Bd) : Option Bd := if tagree a.t b.t = false then none else tidy ⟨umax a.ul b.ul, umin a.uh b.uh, smax a.sl b.sl, smin a.sh b.sh, tmeetT a.t b.t⟩
def blow (b : Bd) : Bd := if b.uh.toNat ≤ 4294967295 then b else (tidy { bupto low32 with t := tlow b.t }).getD (bupto low32)

theorem bin_iff {b : Bd} {x : B} : bin b x = true ↔ ((b.ul.toNat ≤ x.toNat ∧ x.toNat ≤ b.uh.toNat) ∧ (b.sl.toInt ≤ x.toInt ∧ x.toInt ≤ b.sh.toInt)) ∧ tin b.t x = true := by
  simp [bin, uinB, sinB]
theorem bcheck_iff {b : Bd} : bcheck b = true ↔ (b.ul.toNat ≤ b.uh.toNat ∧ b.sl.toInt ≤ b.sh.toInt) ∧ tcheck b.t = true := by
  simp [bcheck]
theorem bgood_iff {b : Bd} : bgood b = true ↔ b.ul.toNat ≤ b.uh.toNat ∧ b.sl.toInt ≤ b.sh.toInt := by
  simp [bgood]
theorem umax_le {a b : B} {n : Nat} : (umax a b).toNat ≤ n ↔ a.toNat ≤ n ∧ b.toNat ≤ n := by unfold umax; split <;> omega
theorem le_umin {a b : B} {n : Nat} : n ≤ (umin a b).toNat ↔ n ≤ a.toNat ∧ n ≤ b.toNat := by unfold umin; split <;> omega
theorem smax_le {a b : B} {n : Int} : (smax a b).toInt ≤ n ↔ a.toInt ≤ n ∧ b.toInt ≤ n := by unfold smax; split <;> omega
theorem le_smin {a b : B} {n : Int} : n ≤ (smin a b).toInt ↔ n ≤ a.toInt ∧ n ≤ b.toInt := by unfold smin; split <;> omega
theorem umin_le {a b : B} : (umin a b).toNat ≤ a.toNat ∧ (umin a b).toNat ≤ b.toNat := by unfold umin; split <;> omega
theorem le_umax {a b : B} : a.toNat ≤ (umax a b).toNat ∧ b.toNat ≤ (umax a b).toNat := by unfold umax; split <;> omega
theorem smin_le {a b : B} : (smin a b).toInt ≤ a.toInt ∧ (smin a b).toInt ≤ b.toInt := by unfold smin; split <;> omega
theorem le_smax {a b : B} : a.toInt ≤ (smax a b).toInt ∧ b.toInt ≤ (smax a b).toInt := by unfold smax; split <;> omega
theorem tidyB_in {b : Bd} {x : B} : bin (tidyB b) x = true ↔ bin b x = true := by
  rw [bin_iff, bin_iff]
  unfold tidyB
  simp only [umax_le, le_umin, smax_le, le_smin]
  constructor
  · rintro ⟨⟨⟨⟨h1, _⟩, h2, _⟩, ⟨h3, _⟩, h4, _⟩, h5⟩
    exact ⟨⟨⟨h1, h2⟩, h3, h4⟩, h5⟩
  · rintro ⟨⟨⟨h1, h2⟩, h3, h4⟩, h5⟩
    have a := tin_le h5
    have c := tin_sle h5
    exact ⟨⟨⟨⟨h1, a.1⟩, h2, a.2⟩, ⟨h3, c.1⟩, h4, c.2⟩, h5⟩
/-- a word's two readings -/
theorem two (x : B) : (x.toNat < 9223372036854775808 ∧ x.toInt = x.toNat) ∨ (9223372036854775808 ≤ x.toNat ∧ x.toNat < 18446744073709551616 ∧ x.toInt = (x.toNat : Int) - 18446744073709551616) := by
  rcases toInt_cases x with ⟨_, h⟩ | ⟨_, h⟩
  · exact .inl h
  · exact .inr h
theorem tidyS_in {b : Bd} {x : B} (hg : bgood b = true) : bin (tidyS b) x = true ↔ bin b x = true := by
  obtain ⟨g1, g2⟩ := bgood_iff.1 hg
  have dx := two x
  have d1 := two b.ul
  have d2 := two b.uh
  have d3 := two b.sl
  have d4 := two b.sh
  rw [bin_iff, bin_iff]
  unfold tidyS
  split
  · simp only [umax_le, le_umin]
    have e1 : (umax b.ul b.sl).toInt ≤ x.toInt ∧ x.toInt ≤ (umin b.uh b.sh).toInt ∧ (b.ul.toNat ≤ x.toNat ∧ b.sl.toNat ≤ x.toNat) ∧ x.toNat ≤ b.uh.toNat ∧ x.toNat ≤ b.sh.toNat ↔ (b.ul.toNat ≤ x.toNat ∧ x.toNat ≤ b.uh.toNat) ∧ (b.sl.toInt ≤ x.toInt ∧ x.toInt ≤ b.sh.toInt) := by
      have u1 : (umax b.ul b.sl).toInt = if b.ul.toNat < b.sl.toNat then b.sl.toInt else b.ul.toInt := by unfold umax; split <;> rfl
      have u2 : (umin b.uh b.sh).toInt = if b.sh.toNat < b.uh.toNat then b.sh.toInt else b.uh.toInt := by unfold umin; split <;> rfl
      rw [u1, u2]
      split <;> split <;> omega
    constructor
    · rintro ⟨⟨⟨h1, h2⟩, h3, h4⟩, h5⟩
      exact ⟨e1.1 ⟨h3, h4, h1, h2⟩, h5⟩
    · rintro ⟨h, h5⟩
      obtain ⟨h3, h4, h1, h2⟩ := e1.2 h
      exact ⟨⟨⟨h1, h2⟩, h3, h4⟩, h5⟩
  · split
    · have u1 : (smin b.sh b.uh).toNat = if b.uh.toInt < b.sh.toInt then b.uh.toNat else b.sh.toNat := by unfold smin; split <;> rfl
      simp only [le_smin, u1]
      have e : ((b.ul.toNat ≤ x.toNat ∧ x.toNat ≤ if b.uh.toInt < b.sh.toInt then b.uh.toNat else b.sh.toNat) ∧ b.ul.toInt ≤ x.toInt ∧ x.toInt ≤ b.sh.toInt ∧ x.toInt ≤ b.uh.toInt) ↔ (b.ul.toNat ≤ x.toNat ∧ x.toNat ≤ b.uh.toNat) ∧ b.sl.toInt ≤ x.toInt ∧ x.toInt ≤ b.sh.toInt := by
        split <;> omega
      rw [e]
    · split
      · have u1 : (smax b.sl b.ul).toNat = if b.sl.toInt < b.ul.toInt then b.ul.toNat else b.sl.toNat := by unfold smax; split <;> rfl
        simp only [smax_le, u1]
        have e : (((if b.sl.toInt < b.ul.toInt then b.ul.toNat else b.sl.toNat) ≤ x.toNat ∧ x.toNat ≤ b.uh.toNat) ∧ (b.sl.toInt ≤ x.toInt ∧ b.ul.toInt ≤ x.toInt) ∧ x.toInt ≤ b.uh.toInt) ↔ (b.ul.toNat ≤ x.toNat ∧ x.toNat ≤ b.uh.toNat) ∧ b.sl.toInt ≤ x.toInt ∧ x.toInt ≤ b.sh.toInt := by
          split <;> omega
        rw [e]
      · exact Iff.rfl
theorem tidyS_t (b : Bd) : (tidyS b).t = b.t := by unfold tidyS; (repeat' split) <;> rfl
theorem range_check (a b : B) : tcheck (rangeT a b) = true := tof_check _ _
/-- one round loses nothing -/
theorem tidy1_some {a b : Bd} (ht : tcheck a.t = true) (h : tidy1 a = some b) : bcheck b = true ∧ ∀ x, bin b x = bin a x := by
  unfold tidy1 at h
  by_cases h1 : bgood (tidyB a) = false
  · rw [if_pos h1] at h; cases h
  rw [if_neg h1] at h
  by_cases h2 : tagree (tidyS (tidyB a)).t (rangeT (tidyS (tidyB a)).ul (tidyS (tidyB a)).uh) = false ∨ bgood (tidyS (tidyB a)) = false
  · rw [if_pos h2] at h; cases h
  rw [if_neg h2] at h
  injection h with h
  subst h
  have g1 : bgood (tidyB a) = true := by simpa using h1
  have g2 : tagree (tidyS (tidyB a)).t (rangeT (tidyS (tidyB a)).ul (tidyS (tidyB a)).uh) = true ∧ bgood (tidyS (tidyB a)) = true := by simpa using h2
  have tt : tcheck (tidyS (tidyB a)).t = true := by rw [tidyS_t]; exact ht
  refine ⟨bcheck_iff.2 ⟨bgood_iff.1 g2.2, tof_check _ _⟩, fun x => ?_⟩
  rw [Bool.eq_iff_iff, ← tidyB_in (b := a), ← tidyS_in g1]
  generalize tidyS (tidyB a) = s at *
  rw [bin_iff, bin_iff]
  unfold tidyR
  have hm := tmeet_in (x := x) tt (range_check s.ul s.uh)
  constructor
  · rintro ⟨h1, h2⟩
    exact ⟨h1, (hm.2 ⟨g2.1, h2⟩).1⟩
  · rintro ⟨h1, h2⟩
    exact ⟨h1, (hm.1 ⟨h2, range_in h1.1.1 h1.1.2⟩).2⟩
theorem tidy1_none {a : Bd} (ht : tcheck a.t = true) (h : tidy1 a = none) (x : B) : bin a x = false := by
  unfold tidy1 at h
  rw [Bool.eq_false_iff]
  intro hx
  have hB := tidyB_in.2 hx
  by_cases h1 : bgood (tidyB a) = false
  · have := bin_iff.1 hB
    have g : bgood (tidyB a) = true := bgood_iff.2 ⟨by omega, by omega⟩
    rw [g] at h1; cases h1
  rw [if_neg h1] at h
  have g1 : bgood (tidyB a) = true := by simpa using h1
  have hS := (tidyS_in (x := x) g1).2 hB
  have tt : tcheck (tidyS (tidyB a)).t = true := by rw [tidyS_t]; exact ht
  generalize tidyS (tidyB a) = s at *
  have hs := bin_iff.1 hS
  have g2 : bgood s = true := bgood_iff.2 ⟨by omega, by omega⟩
  have g3 := ((tmeet_in (x := x) tt (range_check s.ul s.uh)).1 ⟨hs.2, range_in hs.1.1.1 hs.1.1.2⟩).1
  rw [if_neg (by rw [g2, g3]; simp)] at h
  cases h
theorem tidy_some {a b : Bd} (ht : tcheck a.t = true) (h : tidy a = some b) : bcheck b = true ∧ ∀ x, bin b x = bin a x := by
  unfold tidy at h
  cases h1 : tidy1 a with
  | none => rw [h1] at h; cases h
  | some c =>
    rw [h1] at h
    obtain ⟨c1, c2⟩ := tidy1_some ht h1
    obtain ⟨b1, b2⟩ := tidy1_some (bcheck_iff.1 c1).2 h
    exact ⟨b1, fun x => (b2 x).trans (c2 x)⟩
theorem tidy_none {a : Bd} (ht : tcheck a.t = true) (h : tidy a = none) (x : B) : bin a x = false := by
  unfold tidy at h
  cases h1 : tidy1 a with
  | none => exact tidy1_none ht h1 x
  | some c =>
    rw [h1] at h
    obtain ⟨c1, c2⟩ := tidy1_some ht h1
    rw [← c2 x]
    exact tidy1_none (bcheck_iff.1 c1).2 h x
theorem bmeet_in {a b : Bd} {x : B} (ha : bcheck a = true) (hb : bcheck b = true) :
    (bin a x = true ∧ bin b x = true) ↔ ∃ m, bmeet a b = some m ∧ bin m x = true := by
  have ta := (bcheck_iff.1 ha).2
  have tb := (bcheck_iff.1 hb).2
  have hm := tmeet_in (x := x) ta tb
  have key : (bin a x = true ∧ bin b x = true) ↔ tagree a.t b.t = true ∧ bin ⟨umax a.ul b.ul, umin a.uh b.uh, smax a.sl b.sl, smin a.sh b.sh, tmeetT a.t b.t⟩ x = true := by
    rw [bin_iff, bin_iff, bin_iff]
    simp only [umax_le, le_umin, smax_le, le_smin]
    constructor
    · rintro ⟨⟨h1, h2⟩, h3, h4⟩
      obtain ⟨m1, m2⟩ := hm.1 ⟨h2, h4⟩
      exact ⟨m1, ⟨⟨⟨h1.1.1, h3.1.1⟩, h1.1.2, h3.1.2⟩, ⟨h1.2.1, h3.2.1⟩, h1.2.2, h3.2.2⟩, m2⟩
    · rintro ⟨m1, ⟨⟨⟨a1, a2⟩, a3, a4⟩, ⟨a5, a6⟩, a7, a8⟩, m2⟩
      obtain ⟨n1, n2⟩ := hm.2 ⟨m1, m2⟩
      exact ⟨⟨⟨⟨a1, a3⟩, a5, a7⟩, n1⟩, ⟨⟨a2, a4⟩, a6, a8⟩, n2⟩
  rw [key]
  have tt : tcheck (⟨umax a.ul b.ul, umin a.uh b.uh, smax a.sl b.sl, smin a.sh b.sh, tmeetT a.t b.t⟩ : Bd).t = true := tof_check _ _
  unfold bmeet
  constructor
  · rintro ⟨g, h⟩
    rw [if_neg (by rw [g]; simp)]
    cases hd : tidy ⟨umax a.ul b.ul, umin a.uh b.uh, smax a.sl b.sl, smin a.sh b.sh, tmeetT a.t b.t⟩ with
    | none => rw [tidy_none tt hd x] at h; cases h
    | some m => exact ⟨m, rfl, by rw [(tidy_some tt hd).2 x]; exact h⟩
  · rintro ⟨m, h1, h2⟩
    by_cases g : tagree a.t b.t = false
    · rw [if_pos g] at h1; cases h1
    · rw [if_neg g] at h1
      exact ⟨by simpa using g, by rw [← (tidy_some tt h1).2 x]; exact h2⟩
theorem bjoin_in {a b : Bd} {x : B} (h : bin a x = true ∨ bin b x = true) : bin (bjoin a b) x = true := by
  rw [bin_iff, bin_iff] at h
  rw [bin_iff]
  unfold bjoin
  have i1 := umin_le (a := a.ul) (b := b.ul)
  have i2 := le_umax (a := a.uh) (b := b.uh)
  have i3 := smin_le (a := a.sl) (b := b.sl)
  have i4 := le_smax (a := a.sh) (b := b.sh)
  refine ⟨⟨⟨?_, ?_⟩, ?_, ?_⟩, tjoin_in ?_⟩
  · show (umin a.ul b.ul).toNat ≤ _; omega
  · show _ ≤ (umax a.uh b.uh).toNat; omega
  · show (smin a.sl b.sl).toInt ≤ _; omega
  · show _ ≤ (smax a.sh b.sh).toInt; omega
  · rcases h with h | h
    · exact .inl h.2
    · exact .inr h.2
theorem bjoin_within {a b : Bd} (ha : bcheck a = true) (hb : bcheck b = true) : bwithin (bjoin a b) a = true ∧ bwithin (bjoin a b) b = true := by
  have ga := (bcheck_iff.1 ha).1
  have gb := (bcheck_iff.1 hb).1
  have i1 := umin_le (a := a.ul) (b := b.ul)
  have i2 := le_umax (a := a.uh) (b := b.uh)
  have i3 := smin_le (a := a.sl) (b := b.sl)
  have i4 := le_smax (a := a.sh) (b := b.sh)
  have ht := tjoin_within a.t b.t
  unfold bwithin uinB sinB bjoin
  simp only [Bool.and_eq_true, decide_eq_true_eq]
  refine ⟨⟨⟨⟨⟨⟨?_, ?_⟩, ?_, ?_⟩, ?_, ?_⟩, ?_, ?_⟩, ht.1⟩, ⟨⟨⟨⟨?_, ?_⟩, ?_, ?_⟩, ?_, ?_⟩, ?_, ?_⟩, ht.2⟩ <;> omega
theorem bwithin_in {a b : Bd} {x : B} (h : bwithin a b = true) (hx : bin b x = true) : bin a x = true := by
  unfold bwithin uinB sinB at h
  simp only [Bool.and_eq_true, decide_eq_true_eq] at h
  have hb := bin_iff.1 hx
  obtain ⟨⟨⟨⟨h1, h2⟩, h3⟩, h4⟩, h5⟩ := h
  exact bin_iff.2 ⟨⟨⟨by omega, by omega⟩, by omega, by omega⟩, twithin_in h5 hb.2⟩
end Go.Proofs.Ytaolcmmdefchmaa
