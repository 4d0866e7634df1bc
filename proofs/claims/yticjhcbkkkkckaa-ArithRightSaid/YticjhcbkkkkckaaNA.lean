/- Words: sums, differences, products, quotients, shifts of the machine's, told as words. -/
import Derived.Test.YticjhcbkkkkckaaGP
import Derived.Test.YticjhcbkkkkckaaWD
namespace Go.Proofs.Yticjhcbkkkkckaa
open Go.RowKit

theorem b_add (x y : B) : IntKind.u64.wrap (U x + U y) = U (x + y) := by
  unfold U; rw [IntKind.wrap_u64, BitVec.toNat_add]; omega
theorem b_sub (x y : B) : IntKind.u64.wrap (U x - U y) = U (x - y) := by
  have := x.isLt
  have := y.isLt
  unfold U; rw [IntKind.wrap_u64, BitVec.toNat_sub]; omega
theorem b_mul (x y : B) : IntKind.u64.wrap (U x * U y) = U (x * y) := by
  unfold U; rw [IntKind.wrap_u64, BitVec.toNat_mul, ← Int.natCast_mul]; omega
theorem b_neg (x : B) : IntKind.u64.wrap (-U x) = U (-x) := by
  have := x.isLt
  unfold U; rw [IntKind.wrap_u64, BitVec.toNat_neg]; omega
theorem b_two (x : B) : IntKind.u64.wrap (U x * 2) = U (x * 2#64) := b_mul x 2#64
theorem b_div (x y : B) : U x / U y = U (x / y) := by
  unfold U; rw [BitVec.toNat_udiv]; exact (Int.natCast_ediv _ _).symm
theorem b_mod (x y : B) : U x % U y = U (x % y) := by
  unfold U; rw [BitVec.toNat_umod]; exact (Int.natCast_emod _ _).symm
theorem U_nn (x : B) : 0 ≤ U x := (U_bd x).1
end Go.Proofs.Yticjhcbkkkkckaa
