/- Plain facts on ops, instructions and programs: what package legal answers, said without a program. -/
import Derived.Below
import Derived.Laws.BitsAllLaws
namespace Go.Proofs.Ytnpnpjpmklmklaa.M
open Go.RowKit

/-- an instruction -/
structure In where
  op : Int
  dst : Int
  src : Int
  off : Int
  imm : Int
  wide : Int
def z : In := ⟨0, 0, 0, 0, 0, 0⟩
theorem In.ext_ {x y : In} (h0 : x.op = y.op) (h1 : x.dst = y.dst) (h2 : x.src = y.src) (h3 : x.off = y.off) (h4 : x.imm = y.imm) (h5 : x.wide = y.wide) : x = y := by
  cases x; cases y; simp_all
def eqB (x y : In) : Bool := decide (x.op = y.op ∧ x.dst = y.dst ∧ x.src = y.src ∧ x.off = y.off ∧ x.imm = y.imm ∧ x.wide = y.wide)
theorem eqB_true {x y : In} : eqB x y = true ↔ x = y := by
  unfold eqB
  rw [decide_eq_true_iff]
  constructor
  · rintro ⟨a, b, c, d, e, f⟩; exact In.ext_ a b c d e f
  · rintro rfl; exact ⟨rfl, rfl, rfl, rfl, rfl, rfl⟩
/-- are its numbers a machine's? -/
structure Bd (x : In) : Prop where
  op : -9223372036854775808 ≤ x.op ∧ x.op ≤ 9223372036854775807
  dst : -9223372036854775808 ≤ x.dst ∧ x.dst ≤ 9223372036854775807
  src : -9223372036854775808 ≤ x.src ∧ x.src ≤ 9223372036854775807
  off : -9223372036854775808 ≤ x.off ∧ x.off ≤ 9223372036854775807
  imm : -9223372036854775808 ≤ x.imm ∧ x.imm ≤ 9223372036854775807
  wide : 0 ≤ x.wide ∧ x.wide < 18446744073709551616
theorem Bd.z : Bd z := ⟨by decide, by decide, by decide, by decide, by decide, by decide⟩

/-- after so many places, does a hole stand there? -/
def hR (o : Nat → Int) : Nat → Bool
  | 0 => false
  | i + 1 => decide (o i = 24) && !hR o i
theorem hR_succ (o : Nat → Int) (i : Nat) : hR o (i + 1) = (decide (o i = 24) && !hR o i) := rfl
theorem hR_congr {o o' : Nat → Int} {n : Nat} (h : ∀ i, i < n → o i = o' i) : hR o n = hR o' n := by
  induction n with
  | zero => rfl
  | succ n ih => rw [hR_succ, hR_succ, h n (by omega), ih fun i hi => h i (by omega)]
theorem hR_of {o : Nat → Int} {i : Nat} (h : hR o (i + 1) = true) : o i = 24 ∧ hR o i = false := by
  rw [hR_succ] at h
  simpa using h

def hi (op : Int) : Int := op - op % 16
def rg (op : Int) : Bool := decide (8 ≤ op % 16)
/-- is it an op of numbers, of a jump? -/
def aluB (op : Int) : Bool := decide ((op % 8 = 4 ∨ op % 8 = 7) ∧ 0 ≤ op ∧ op < 208 ∧ ¬ (op - op % 16 = 128 ∧ 8 ≤ op % 16))
def jmpB (op : Int) : Bool := decide ((op % 8 = 5 ∨ op % 8 = 6) ∧ 16 ≤ op ∧ op < 224 ∧ ¬ op - op % 16 = 128 ∧ ¬ op - op % 16 = 144)
theorem aluB_true {op : Int} : aluB op = true ↔ ((op % 8 = 4 ∨ op % 8 = 7) ∧ 0 ≤ op ∧ op < 208 ∧ ¬ (op - op % 16 = 128 ∧ 8 ≤ op % 16)) := by unfold aluB; exact decide_eq_true_iff
theorem jmpB_true {op : Int} : jmpB op = true ↔ ((op % 8 = 5 ∨ op % 8 = 6) ∧ 16 ≤ op ∧ op < 224 ∧ ¬ op - op % 16 = 128 ∧ ¬ op - op % 16 = 144) := by unfold jmpB; exact decide_eq_true_iff
theorem aluB_false {op : Int} : aluB op = false ↔ ¬ ((op % 8 = 4 ∨ op % 8 = 7) ∧ 0 ≤ op ∧ op < 208 ∧ ¬ (op - op % 16 = 128 ∧ 8 ≤ op % 16)) := by unfold aluB; exact decide_eq_false_iff_not
theorem jmpB_false {op : Int} : jmpB op = false ↔ ¬ ((op % 8 = 5 ∨ op % 8 = 6) ∧ 16 ≤ op ∧ op < 224 ∧ ¬ op - op % 16 = 128 ∧ ¬ op - op % 16 = 144) := by unfold jmpB; exact decide_eq_false_iff_not
def sizeI (op : Int) : Int :=
  if op = 97 ∨ op = 98 ∨ op = 99 then 4 else if op = 105 ∨ op = 106 ∨ op = 107 then 2 else if op = 113 ∨ op = 114 ∨ op = 115 then 1 else if op = 121 ∨ op = 122 ∨ op = 123 then 8 else 0
def inB (n a b : Int) : Bool := decide (a ≤ n ∧ n ≤ b)
theorem inB_true {n a b : Int} : inB n a b = true ↔ (a ≤ n ∧ n ≤ b) := by unfold inB; exact decide_eq_true_iff
theorem inB_false {n a b : Int} : inB n a b = false ↔ ¬ (a ≤ n ∧ n ≤ b) := by unfold inB; exact decide_eq_false_iff_not
end Go.Proofs.Ytnpnpjpmklmklaa.M
