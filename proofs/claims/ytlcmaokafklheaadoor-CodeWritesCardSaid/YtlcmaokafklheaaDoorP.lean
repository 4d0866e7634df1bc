/- Plain facts on instructions, their fields and their bytes: what package code answers, said without a program. -/
import Derived.Below
import Derived.Laws.BitsAllLaws
namespace Go.Proofs.YtlcmaokafklheaaDoor.M
open Go.RowKit

/-- an instruction -/
structure In where
  op : Int
  dst : Int
  src : Int
  off : Int
  imm : Int
  wide : Int
def z : In := ⟨0, 0, 0, 0, 0, 0⟩
theorem In.ext_ {x y : In} (h0 : x.op = y.op) (h1 : x.dst = y.dst) (h2 : x.src = y.src) (h3 : x.off = y.off) (h4 : x.imm = y.imm) (h5 : x.wide = y.wide) : x = y := by
  cases x; cases y; simp_all
def eqB (x y : In) : Bool := decide (x.op = y.op ∧ x.dst = y.dst ∧ x.src = y.src ∧ x.off = y.off ∧ x.imm = y.imm ∧ x.wide = y.wide)
theorem eqB_true {x y : In} : eqB x y = true ↔ x = y := by
  unfold eqB
  rw [decide_eq_true_iff]
  constructor
  · rintro ⟨a, b, c, d, e, f⟩; exact In.ext_ a b c d e f
  · rintro rfl; exact ⟨rfl, rfl, rfl, rfl, rfl, rfl⟩
/-- are its numbers a machine's? -/
structure Bd (x : In) : Prop where
  op : -9223372036854775808 ≤ x.op ∧ x.op ≤ 9223372036854775807
  dst : -9223372036854775808 ≤ x.dst ∧ x.dst ≤ 9223372036854775807
  src : -9223372036854775808 ≤ x.src ∧ x.src ≤ 9223372036854775807
  off : -9223372036854775808 ≤ x.off ∧ x.off ≤ 9223372036854775807
  imm : -9223372036854775808 ≤ x.imm ∧ x.imm ≤ 9223372036854775807
  wide : 0 ≤ x.wide ∧ x.wide < 18446744073709551616
theorem Bd.z : Bd z := ⟨by decide, by decide, by decide, by decide, by decide, by decide⟩

def sg16 (x : Int) : Int := (x + 32768) % 65536 - 32768
def sg32 (x : Int) : Int := (x + 2147483648) % 4294967296 - 2147483648

def isSize (n : Int) : Bool := n == 1 || n == 2 || n == 4 || n == 8

/-- the fields of a slot, read as one number -/
def unp (X : Int) : In := ⟨X % 256, X / 256 % 16, X / 4096 % 16, sg16 (X / 65536), sg32 (X / 4294967296), 0⟩
/-- the slot of fields, as one number -/
def pk (x : In) : Int := x.op % 256 + x.dst % 16 * 256 + x.src % 16 * 4096 + x.off % 65536 * 65536 + x.imm % 4294967296 * 4294967296
theorem pk_bd (x : In) : 0 ≤ pk x ∧ pk x < 18446744073709551616 := by unfold pk; omega
theorem unp_pk (x : In) : unp (pk x) = ⟨x.op % 256, x.dst % 16, x.src % 16, sg16 x.off, sg32 x.imm, 0⟩ := by
  unfold unp pk sg16 sg32
  apply In.ext_ <;> dsimp only <;> omega
theorem pk_unp {X : Int} (h0 : 0 ≤ X) (h1 : X < 18446744073709551616) : pk (unp X) = X := by
  unfold unp pk sg16 sg32
  dsimp only
  omega
/-- has a slot room for the fields? -/
def fitsB (x : In) : Bool := decide (0 ≤ x.op ∧ x.op ≤ 255 ∧ 0 ≤ x.dst ∧ x.dst ≤ 15 ∧ 0 ≤ x.src ∧ x.src ≤ 15 ∧ -32768 ≤ x.off ∧ x.off ≤ 32767 ∧ -2147483648 ≤ x.imm ∧ x.imm ≤ 2147483647)
theorem fits_true {x : In} : fitsB x = true ↔ (0 ≤ x.op ∧ x.op ≤ 255 ∧ 0 ≤ x.dst ∧ x.dst ≤ 15 ∧ 0 ≤ x.src ∧ x.src ≤ 15 ∧ -32768 ≤ x.off ∧ x.off ≤ 32767 ∧ -2147483648 ≤ x.imm ∧ x.imm ≤ 2147483647) := by
  unfold fitsB; exact decide_eq_true_iff
theorem fits_eq (x : In) : fitsB x = decide ((unp (pk x)).op = x.op ∧ (unp (pk x)).dst = x.dst ∧ (unp (pk x)).src = x.src ∧ (unp (pk x)).off = x.off ∧ (unp (pk x)).imm = x.imm) := by
  rw [unp_pk]
  unfold fitsB sg16 sg32
  dsimp only
  apply decide_eq_decide.2
  omega
theorem unp_fits (X : Int) : fitsB (unp X) = true := by
  rw [fits_true]; unfold unp sg16 sg32; dsimp only; omega
theorem unp_bd (X : Int) : Bd (unp X) := by
  constructor <;> unfold unp sg16 sg32 <;> dsimp only <;> omega
/-- the fields of a wide one's second slot -/
def restI (w : Int) : In := ⟨0, 0, 0, 0, sg32 (w / 4294967296), 0⟩
def wideOf (x y : In) : Int := x.imm % 4294967296 + y.imm % 4294967296 * 4294967296
theorem wideOf_bd (x y : In) : 0 ≤ wideOf x y ∧ wideOf x y < 18446744073709551616 := by unfold wideOf; omega

/-- after so many places, does a hole stand there? -/
def hR (o : Nat → Int) : Nat → Bool
  | 0 => false
  | i + 1 => decide (o i = 24) && !hR o i
theorem hR_succ (o : Nat → Int) (i : Nat) : hR o (i + 1) = (decide (o i = 24) && !hR o i) := rfl
theorem hR_congr {o o' : Nat → Int} {n : Nat} (h : ∀ i, i < n → o i = o' i) : hR o n = hR o' n := by
  induction n with
  | zero => rfl
  | succ n ih => rw [hR_succ, hR_succ, h n (by omega), ih fun i hi => h i (by omega)]
theorem hR_of {o : Nat → Int} {i : Nat} (h : hR o (i + 1) = true) : o i = 24 ∧ hR o i = false := by
  rw [hR_succ] at h
  simpa using h
/-- holes turned to noughts change no hole -/
theorem hR_clear {o o' : Nat → Int} (h : ∀ i, o' i = if hR o i = true then 0 else o i) (n : Nat) : hR o' n = hR o n := by
  induction n with
  | zero => rfl
  | succ n ih =>
    rw [hR_succ, hR_succ, ih, h n]
    cases hR o n <;> simp

def okHole (y : In) : Bool := decide (y.op = 0 ∧ y.dst = 0 ∧ y.src = 0 ∧ y.off = 0)
/-- the slots' own operations -/
def opsOf (S : Nat → In) (i : Nat) : Int := (S i).op
/-- is a slot, of n, no instruction? -/
def badB (S : Nat → In) (n i : Nat) : Bool := !hR (opsOf S) i && decide ((S i).op = 24) && !(decide (i + 1 < n) && okHole (S (i + 1)))
/-- what is decoded there -/
def dec (S : Nat → In) (i : Nat) : In := if hR (opsOf S) i = true then z else if (S i).op = 24 then { S i with wide := wideOf (S i) (S (i + 1)) } else S i
theorem dec_op (S : Nat → In) (i : Nat) : (dec S i).op = if hR (opsOf S) i = true then 0 else opsOf S i := by
  unfold dec opsOf
  split
  · rfl
  · split <;> rfl
theorem dec_holes (S : Nat → In) (n : Nat) : hR (opsOf (dec S)) n = hR (opsOf S) n := hR_clear (fun i => dec_op S i) n
end Go.Proofs.YtlcmaokafklheaaDoor.M
