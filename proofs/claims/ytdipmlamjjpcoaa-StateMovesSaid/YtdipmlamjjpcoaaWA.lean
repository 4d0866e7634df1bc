/- Words: the machine's own operations on numbers of 64 bits, told as words. -/
import Derived.Test.YtdipmlamjjpcoaaProg
import Derived.Test.YtdipmlamjjpcoaaGP
import Derived.WalkKit
import Derived.Lib.Hide
import Derived.WalkSpells
import Derived.WalkLawsBesides
import Derived.BigQuiet
import Derived.Deep.QuietTactic
namespace Go.Proofs.Ytdipmlamjjpcoaa
open Go.RowKit

/-- a word as the machine's number without a sign, with one -/
def U (x : B) : Int := (x.toNat : Int)
def S (x : B) : Int := x.toInt
theorem U_bd (x : B) : 0 ≤ U x ∧ U x < 18446744073709551616 := by have := x.isLt; unfold U; omega
theorem S_bd (x : B) : -9223372036854775808 ≤ S x ∧ S x < 9223372036854775808 := by have := two x; unfold S; omega
theorem U_inj {x y : B} (h : U x = U y) : x = y := BitVec.eq_of_toNat_eq (by unfold U at h; omega)
theorem S_inj {x y : B} (h : S x = S y) : x = y := BitVec.eq_of_toInt_eq h
theorem U_of (n : Int) (h0 : 0 ≤ n) (h1 : n < 18446744073709551616) : U (BitVec.ofInt 64 n) = n := by
  unfold U; rw [BitVec.toNat_ofInt]; omega
theorem S_of (n : Int) (h0 : -9223372036854775808 ≤ n) (h1 : n < 9223372036854775808) : S (BitVec.ofInt 64 n) = n := by
  unfold S; rw [BitVec.toInt_ofInt, Int.bmod_def]; omega
theorem b_of (x : B) : BitVec.ofInt 64 (U x) = x := by
  unfold U; rw [BitVec.ofInt_natCast]; simp
theorem b_wrap (x : B) : IntKind.u64.wrap (x.toNat : Int) = U x := by
  have := x.isLt
  unfold U; rw [IntKind.wrap_u64]; omega
theorem b_and (x y : B) : bits .and .u64 (U x) (U y) = U (x &&& y) := by
  show IntKind.u64.wrap ((BitVec.ofInt 64 _ &&& BitVec.ofInt 64 _).toNat : Int) = _
  rw [b_of, b_of, b_wrap]
theorem b_or (x y : B) : bits .or .u64 (U x) (U y) = U (x ||| y) := by
  show IntKind.u64.wrap ((BitVec.ofInt 64 _ ||| BitVec.ofInt 64 _).toNat : Int) = _
  rw [b_of, b_of, b_wrap]
theorem b_xor (x y : B) : bits .xor .u64 (U x) (U y) = U (x ^^^ y) := by
  show IntKind.u64.wrap ((BitVec.ofInt 64 _ ^^^ BitVec.ofInt 64 _).toNat : Int) = _
  rw [b_of, b_of, b_wrap]
theorem b_andNot (x y : B) : bits .andNot .u64 (U x) (U y) = U (x &&& ~~~y) := by
  show IntKind.u64.wrap ((BitVec.ofInt 64 _ &&& ~~~BitVec.ofInt 64 _).toNat : Int) = _
  rw [b_of, b_of, b_wrap]
theorem b_low (x : B) : bits .and .u64 (U x) 4294967295 = U (x &&& low32) := b_and x low32
theorem b_top (x : B) : bits .and .u64 (U x) 9223372036854775808 = U (x &&& topB) := b_and x topB
theorem b_most (x : B) : bits .and .u64 (U x) 9223372036854775807 = U (x &&& mostB) := b_and x mostB
theorem b_signed (x : B) : wrap64 (U x) = S x := by
  have := two x
  have := x.isLt
  unfold U S wrap64; omega
theorem b_unsigned (x : B) : IntKind.u64.wrap (S x) = U x := by
  have := two x
  have := x.isLt
  unfold U S; rw [IntKind.wrap_u64]; omega
theorem b_zero (x : B) : (U x == 0) = (x == 0#64) := by
  rw [Bool.eq_iff_iff, beq_iff_eq, beq_iff_eq]
  exact ⟨fun h => U_inj h, fun h => by rw [h]; rfl⟩
theorem b_eq (x y : B) : (U x == U y) = (x == y) := by
  rw [Bool.eq_iff_iff, beq_iff_eq, beq_iff_eq]
  exact ⟨fun h => U_inj h, fun h => by rw [h]⟩
theorem s_eq (x y : B) : (S x == S y) = (x == y) := by
  rw [Bool.eq_iff_iff, beq_iff_eq, beq_iff_eq]
  exact ⟨fun h => S_inj h, fun h => by rw [h]⟩
theorem b_nzero (x : B) : (U x != 0) = !(x == 0#64) := by rw [← b_zero]; rfl
theorem b_neq (x y : B) : (U x != U y) = !(x == y) := by rw [← b_eq]; rfl
theorem s_neq (x y : B) : (S x != S y) = !(x == y) := by rw [← s_eq]; rfl
theorem b_max (x y : B) : max (U x) (U y) = U (umax x y) := by
  unfold umax U; split <;> omega
theorem b_min (x y : B) : min (U x) (U y) = U (umin x y) := by
  unfold umin U; split <;> omega
theorem s_max (x y : B) : max (S x) (S y) = S (smax x y) := by
  unfold smax S; split <;> omega
theorem s_min (x y : B) : min (S x) (S y) = S (smin x y) := by
  unfold smin S; split <;> omega
theorem S_0 : S 0#64 = 0 := rfl
theorem U_0 : U 0#64 = 0 := rfl
theorem U_any : U banyT.v = 0 ∧ U banyT.m = 18446744073709551615 := ⟨rfl, rfl⟩
def tconst (x : B) : Tn := ⟨x, 0#64⟩
end Go.Proofs.Ytdipmlamjjpcoaa
