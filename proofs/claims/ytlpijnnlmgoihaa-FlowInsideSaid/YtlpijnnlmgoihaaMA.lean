/- Plain facts on ops, instructions and programs: what package legal answers, said without a program. -/
import Derived.Below
import Derived.Laws.BitsAllLaws
import Derived.Test.YtlpijnnlmgoihaaProg
import Derived.WalkKit
import Derived.Lib.Hide
import Derived.WalkSpells
import Derived.WalkLawsBesides
import Derived.BigQuiet
import Derived.Deep.QuietTactic
import Derived.IntWalk
import Derived.Deep.RegionWith
import Derived.Deep.RegionHeld3

/- Plain facts on ops, instructions and programs: what package legal answers, said without a program. -/
namespace Go.Proofs.Ytlpijnnlmgoihaa.M
open Go.RowKit

/-- an instruction -/
structure In where
  op : Int
  dst : Int
  src : Int
  off : Int
  imm : Int
  wide : Int
def z : In := ⟨0, 0, 0, 0, 0, 0⟩
theorem In.ext_ {x y : In} (h0 : x.op = y.op) (h1 : x.dst = y.dst) (h2 : x.src = y.src) (h3 : x.off = y.off) (h4 : x.imm = y.imm) (h5 : x.wide = y.wide) : x = y := by
  cases x; cases y; simp_all
def eqB (x y : In) : Bool := decide (x.op = y.op ∧ x.dst = y.dst ∧ x.src = y.src ∧ x.off = y.off ∧ x.imm = y.imm ∧ x.wide = y.wide)
theorem eqB_true {x y : In} : eqB x y = true ↔ x = y := by
  unfold eqB
  rw [decide_eq_true_iff]
  constructor
  · rintro ⟨a, b, c, d, e, f⟩; exact In.ext_ a b c d e f
  · rintro rfl; exact ⟨rfl, rfl, rfl, rfl, rfl, rfl⟩
/-- are its numbers a machine's? -/
structure Bd (x : In) : Prop where
  op : -9223372036854775808 ≤ x.op ∧ x.op ≤ 9223372036854775807
  dst : -9223372036854775808 ≤ x.dst ∧ x.dst ≤ 9223372036854775807
  src : -9223372036854775808 ≤ x.src ∧ x.src ≤ 9223372036854775807
  off : -9223372036854775808 ≤ x.off ∧ x.off ≤ 9223372036854775807
  imm : -9223372036854775808 ≤ x.imm ∧ x.imm ≤ 9223372036854775807
  wide : 0 ≤ x.wide ∧ x.wide < 18446744073709551616
theorem Bd.z : Bd z := ⟨by decide, by decide, by decide, by decide, by decide, by decide⟩

/-- after so many places, does a hole stand there? -/
def hR (o : Nat → Int) : Nat → Bool
  | 0 => false
  | i + 1 => decide (o i = 24) && !hR o i
theorem hR_succ (o : Nat → Int) (i : Nat) : hR o (i + 1) = (decide (o i = 24) && !hR o i) := rfl
theorem hR_congr {o o' : Nat → Int} {n : Nat} (h : ∀ i, i < n → o i = o' i) : hR o n = hR o' n := by
  induction n with
  | zero => rfl
  | succ n ih => rw [hR_succ, hR_succ, h n (by omega), ih fun i hi => h i (by omega)]
theorem hR_of {o : Nat → Int} {i : Nat} (h : hR o (i + 1) = true) : o i = 24 ∧ hR o i = false := by
  rw [hR_succ] at h
  simpa using h

def hi (op : Int) : Int := op - op % 16
def rg (op : Int) : Bool := decide (8 ≤ op % 16)
/-- is it an op of numbers, of a jump? -/
def aluB (op : Int) : Bool := decide ((op % 8 = 4 ∨ op % 8 = 7) ∧ 0 ≤ op ∧ op < 208 ∧ ¬ (op - op % 16 = 128 ∧ 8 ≤ op % 16))
def jmpB (op : Int) : Bool := decide ((op % 8 = 5 ∨ op % 8 = 6) ∧ 16 ≤ op ∧ op < 224 ∧ ¬ op - op % 16 = 128 ∧ ¬ op - op % 16 = 144)
theorem aluB_true {op : Int} : aluB op = true ↔ ((op % 8 = 4 ∨ op % 8 = 7) ∧ 0 ≤ op ∧ op < 208 ∧ ¬ (op - op % 16 = 128 ∧ 8 ≤ op % 16)) := by unfold aluB; exact decide_eq_true_iff
theorem jmpB_true {op : Int} : jmpB op = true ↔ ((op % 8 = 5 ∨ op % 8 = 6) ∧ 16 ≤ op ∧ op < 224 ∧ ¬ op - op % 16 = 128 ∧ ¬ op - op % 16 = 144) := by unfold jmpB; exact decide_eq_true_iff
theorem aluB_false {op : Int} : aluB op = false ↔ ¬ ((op % 8 = 4 ∨ op % 8 = 7) ∧ 0 ≤ op ∧ op < 208 ∧ ¬ (op - op % 16 = 128 ∧ 8 ≤ op % 16)) := by unfold aluB; exact decide_eq_false_iff_not
theorem jmpB_false {op : Int} : jmpB op = false ↔ ¬ ((op % 8 = 5 ∨ op % 8 = 6) ∧ 16 ≤ op ∧ op < 224 ∧ ¬ op - op % 16 = 128 ∧ ¬ op - op % 16 = 144) := by unfold jmpB; exact decide_eq_false_iff_not
def sizeI (op : Int) : Int :=
  if op = 97 ∨ op = 98 ∨ op = 99 then 4 else if op = 105 ∨ op = 106 ∨ op = 107 then 2 else if op = 113 ∨ op = 114 ∨ op = 115 then 1 else if op = 121 ∨ op = 122 ∨ op = 123 then 8 else 0
def inB (n a b : Int) : Bool := decide (a ≤ n ∧ n ≤ b)
theorem inB_true {n a b : Int} : inB n a b = true ↔ (a ≤ n ∧ n ≤ b) := by unfold inB; exact decide_eq_true_iff
theorem inB_false {n a b : Int} : inB n a b = false ↔ ¬ (a ≤ n ∧ n ≤ b) := by unfold inB; exact decide_eq_false_iff_not
end Go.Proofs.Ytlpijnnlmgoihaa.M

/- Contracts of the small functions of legal and of the document's answer: what an op is. -/
namespace Go.Proofs.Ytlpijnnlmgoihaa
open Go.RowKit M

theorem nat_and7 (n : Nat) : n &&& 7 = n % 8 := Nat.and_two_pow_sub_one_eq_mod n 3
theorem i64_and7 (n : Int) : bits .and .i64 n 7 = n % 8 := by
  have h : (BitVec.ofInt 64 7).toNat = 2 ^ 3 - 1 := by decide
  have key : (BitVec.ofInt 64 n &&& BitVec.ofInt 64 7).toNat = (n % ((2 ^ 64 : Nat) : Int)).toNat % 2 ^ 3 := by
    rw [BitVec.toNat_and, BitVec.toNat_ofInt, h, Nat.and_two_pow_sub_one_eq_mod]
  show IntKind.i64.wrap ((BitVec.ofInt 64 n &&& BitVec.ofInt 64 7).toNat : Nat) = n % 8
  rw [key, IntKind.wrap_i64]
  omega
theorem nat_and8 (n : Nat) : n &&& 8 = if 8 ≤ n % 16 then 8 else 0 := by
  have h : n &&& 8 = (n % 16) &&& 8 := by
    rw [show (8 : Nat) = 15 &&& 8 from rfl, ← Nat.and_assoc, show n &&& 15 = n % 16 from Nat.and_two_pow_sub_one_eq_mod n 4]
    rfl
  rw [h]
  have hm : n % 16 < 16 := Nat.mod_lt _ (by decide)
  clear h
  generalize n % 16 = m at *
  revert m
  decide
theorem i64_and8 (n : Int) : bits .and .i64 n 8 = if 8 ≤ n % 16 then 8 else 0 := by
  have h : (BitVec.ofInt 64 8).toNat = 8 := by decide
  have key : (BitVec.ofInt 64 n &&& BitVec.ofInt 64 8).toNat = if 8 ≤ (n % ((2 ^ 64 : Nat) : Int)).toNat % 16 then 8 else 0 := by
    rw [BitVec.toNat_and, BitVec.toNat_ofInt, h, nat_and8]
  show IntKind.i64.wrap ((BitVec.ofInt 64 n &&& BitVec.ofInt 64 8).toNat : Nat) = _
  rw [key, IntKind.wrap_i64]
  split <;> split <;> omega
theorem nat_andNot15 (n : Nat) (h : n < 2 ^ 64) : n &&& (2 ^ 64 - 1 - 15) = n - n % 16 := by
  apply Nat.eq_of_testBit_eq
  intro i
  rw [Nat.testBit_and]
  have e : n - n % 16 = n / 16 * 2 ^ 4 := by omega
  rw [e, Nat.testBit_mul_two_pow]
  have e2 : 2 ^ 64 - 1 - 15 = (2 ^ 60 - 1) * 2 ^ 4 := by decide
  rw [e2, Nat.testBit_mul_two_pow, Nat.testBit_two_pow_sub_one]
  by_cases h4 : 4 ≤ i
  · have e3 : n / 16 = n / 2 ^ 4 := rfl
    rw [e3, Nat.testBit_div_two_pow, Nat.sub_add_cancel h4]
    by_cases h5 : i - 4 < 60
    · simp [h4, h5]
    · have : n.testBit i = false := Nat.testBit_lt_two_pow (Nat.lt_of_lt_of_le h (Nat.pow_le_pow_right (by decide) (by omega)))
      simp [this]
  · simp [h4]
theorem i64_high (n : Int) (h0 : -9223372036854775808 ≤ n) (h1 : n ≤ 9223372036854775807) : bits .andNot .i64 n 15 = n - n % 16 := by
  have h : (BitVec.ofInt 64 15).toNat = 15 := by decide
  have key : (BitVec.ofInt 64 n &&& ~~~ BitVec.ofInt 64 15).toNat = (n % ((2 ^ 64 : Nat) : Int)).toNat - (n % ((2 ^ 64 : Nat) : Int)).toNat % 16 := by
    rw [BitVec.toNat_and, BitVec.toNat_not, BitVec.toNat_ofInt, h, nat_andNot15 _ (by omega)]
  show IntKind.i64.wrap ((BitVec.ofInt 64 n &&& ~~~ BitVec.ofInt 64 15).toNat : Nat) = _
  rw [key, IntKind.wrap_i64]
  omega
theorem ret_int {k : IntKind} {a b : Int} (h : a = b) : Ending.returned (.int k a) = .returned (.int k b) := by rw [h]
theorem ret_bool {a b : Bool} (h : a = b) : Ending.returned (.bool a) = .returned (.bool b) := by rw [h]

theorem class_any (op : Int) (w : World) : Calls Try.prog 60 #[.int .i64 op] w fun e w' => e = .returned (.int .i64 (op % 8)) ∧ w = w' := by
  go_enter Try.func60, Try.ntmps60
  go_wp2
  go_ret
  exact ⟨ret_int (by first | exact i64_and7 _ | (rw [i64_and7])), rfl⟩
theorem high_any (op : Int) (w : World) (h0 : -9223372036854775808 ≤ op) (h1 : op ≤ 9223372036854775807) : Calls Try.prog 62 #[.int .i64 op] w fun e w' => e = .returned (.int .i64 (op - op % 16)) ∧ w = w' := by
  go_enter Try.func62, Try.ntmps62
  go_wp2
  go_ret
  exact ⟨ret_int (i64_high _ h0 h1), rfl⟩
theorem byReg_any (op : Int) (w : World) : Calls Try.prog 88 #[.int .i64 op] w fun e w' => e = .returned (.bool (rg op)) ∧ w = w' := by
  go_enter Try.func88, Try.ntmps88
  go_wp2
  go_ret
  refine ⟨ret_bool ?_, rfl⟩
  rw [i64_and8]
  unfold rg
  split <;> simp [*]
theorem within_any (n a b : Int) (w : World) :
    Calls Try.prog 67 #[.int .i64 n, .int .i64 a, .int .i64 b] w fun e w' => e = .returned (.bool (inB n a b)) ∧ w = w' := by
  unfold inB
  by_cases h1 : a ≤ n
  · go_enter Try.func67, Try.ntmps67
    go_wp2
    go_ret
    exact ⟨by simp [h1], rfl⟩
  · go_enter Try.func67, Try.ntmps67
    go_wp2
    go_ret
    exact ⟨by simp; omega, rfl⟩
theorem rwithin_any (n a b : Int) (w : World) :
    Calls Try.prog 53 #[.int .i64 n, .int .i64 a, .int .i64 b] w fun e w' => e = .returned (.bool (inB n a b)) ∧ w = w' := by
  unfold inB
  by_cases h1 : a ≤ n
  · go_enter Try.func53, Try.ntmps53
    go_wp2
    go_ret
    exact ⟨by simp [h1], rfl⟩
  · go_enter Try.func53, Try.ntmps53
    go_wp2
    go_ret
    exact ⟨by simp; omega, rfl⟩
theorem within_is {v : Bool} (n a b : Int) (w : World) (h : inB n a b = v) : Calls Try.prog 67 #[.int .i64 n, .int .i64 a, .int .i64 b] w fun e w' => e = .returned (.bool v) ∧ w = w' := by
  rw [← h]; exact within_any n a b w
theorem rwithin_is {v : Bool} (n a b : Int) (w : World) (h : inB n a b = v) : Calls Try.prog 53 #[.int .i64 n, .int .i64 a, .int .i64 b] w fun e w' => e = .returned (.bool v) ∧ w = w' := by
  rw [← h]; exact rwithin_any n a b w
set_option maxHeartbeats 1000000 in
theorem size_any (op : Int) (w : World) : Calls Try.prog 72 #[.int .i64 op] w fun e w' => e = .returned (.int .i64 (sizeI op)) ∧ w = w' := by
  unfold sizeI
  go_enter Try.func72, Try.ntmps72
  go_wp2
  all_goals
    go_ret
    exact ⟨ret_int (by simp_all), rfl⟩
set_option maxHeartbeats 1000000 in
theorem rsize_any (op : Int) (w : World) : Calls Try.prog 55 #[.int .i64 op] w fun e w' => e = .returned (.int .i64 (sizeI op)) ∧ w = w' := by
  unfold sizeI
  go_enter Try.func55, Try.ntmps55
  go_wp2
  all_goals
    go_ret
    exact ⟨ret_int (by simp_all), rfl⟩
end Go.Proofs.Ytlpijnnlmgoihaa
