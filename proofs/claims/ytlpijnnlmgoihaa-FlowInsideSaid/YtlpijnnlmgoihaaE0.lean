/- Contracts of legal's own parts of Ins. -/
import Derived.Test.YtlpijnnlmgoihaaD
namespace Go.Proofs.Ytlpijnnlmgoihaa
open Go.RowKit M

theorem nums_new {k : IntKind} (w : World) (t : TypeId) (xs : List Int) (cs : Array Value) (hc : cs = (xs.map (Value.int k)).toArray) (hs : xs.length ≤ 4096) : NumsAt k (w.alloc (.cells cs t)) (some ⟨w.heap.size, 0, none⟩) xs :=
  ⟨by omega, fun j hj => ⟨_, _, rfl, by simp, cell_new w (by subst hc; simp [hj])⟩⟩
theorem nought1 (a : Int) (w : World) : Calls Try.prog 68 #[.slice (some ⟨w.heap.size, 0, none⟩) 1 1] (w.alloc (.cells #[.int .i64 a] 3)) fun e w' => e = .returned (.bool (a == 0)) ∧ (w.alloc (.cells #[.int .i64 a] 3)) = w' :=
  (nought_any _ 1 [a] _ (nums_new w 3 [a] _ rfl (by simp))).mono fun e w' ⟨he, hw⟩ => ⟨by rw [he]; simp [zeroB], hw⟩
theorem noughtu1 (a : Int) (w : World) : Calls Try.prog 58 #[.slice (some ⟨w.heap.size, 0, none⟩) 1 1] (w.alloc (.cells #[.int .u64 a] 53)) fun e w' => e = .returned (.bool (a == 0)) ∧ (w.alloc (.cells #[.int .u64 a] 53)) = w' :=
  (noughtu_any _ 1 [a] _ (nums_new w 53 [a] _ rfl (by simp))).mono fun e w' ⟨he, hw⟩ => ⟨by rw [he]; simp [zeroB], hw⟩
theorem nought3 (a b c : Int) (w : World) : Calls Try.prog 68 #[.slice (some ⟨w.heap.size, 0, none⟩) 3 3] (w.alloc (.cells #[.int .i64 a, .int .i64 b, .int .i64 c] 3)) fun e w' => e = .returned (.bool (a == 0 && (b == 0 && c == 0))) ∧ (w.alloc (.cells #[.int .i64 a, .int .i64 b, .int .i64 c] 3)) = w' :=
  (nought_any _ 3 [a, b, c] _ (nums_new w 3 [a, b, c] _ rfl (by simp))).mono fun e w' ⟨he, hw⟩ => ⟨by rw [he]; simp [zeroB], hw⟩
theorem nought4 (a b c d : Int) (w : World) : Calls Try.prog 68 #[.slice (some ⟨w.heap.size, 0, none⟩) 4 4] (w.alloc (.cells #[.int .i64 a, .int .i64 b, .int .i64 c, .int .i64 d] 3)) fun e w' => e = .returned (.bool (a == 0 && (b == 0 && (c == 0 && d == 0)))) ∧ (w.alloc (.cells #[.int .i64 a, .int .i64 b, .int .i64 c, .int .i64 d] 3)) = w' :=
  (nought_any _ 4 [a, b, c, d] _ (nums_new w 3 [a, b, c, d] _ rfl (by simp))).mono fun e w' ⟨he, hw⟩ => ⟨by rw [he]; simp [zeroB], hw⟩
theorem n1 (a : Int) (w : World) (o : Obj) : Calls Try.prog 68 #[.slice (some ⟨w.heap.size + 1, 0, none⟩) 1 1] ((w.alloc o).alloc (.cells #[.int .i64 a] 3)) fun e w' => e = .returned (.bool (a == 0)) ∧ ((w.alloc o).alloc (.cells #[.int .i64 a] 3)) = w' := by
  have h := nought1 a (w.alloc o)
  rwa [World.size_alloc] at h
theorem nu1 (a : Int) (w : World) (o : Obj) : Calls Try.prog 58 #[.slice (some ⟨w.heap.size + 1, 0, none⟩) 1 1] ((w.alloc o).alloc (.cells #[.int .u64 a] 53)) fun e w' => e = .returned (.bool (a == 0)) ∧ ((w.alloc o).alloc (.cells #[.int .u64 a] 53)) = w' := by
  have h := noughtu1 a (w.alloc o)
  rwa [World.size_alloc] at h
theorem n3 (a b c : Int) (w : World) (o : Obj) : Calls Try.prog 68 #[.slice (some ⟨w.heap.size + 1, 0, none⟩) 3 3] ((w.alloc o).alloc (.cells #[.int .i64 a, .int .i64 b, .int .i64 c] 3)) fun e w' => e = .returned (.bool (a == 0 && (b == 0 && c == 0))) ∧ ((w.alloc o).alloc (.cells #[.int .i64 a, .int .i64 b, .int .i64 c] 3)) = w' := by
  have h := nought3 a b c (w.alloc o)
  rwa [World.size_alloc] at h
theorem n4 (a b c d : Int) (w : World) (o : Obj) : Calls Try.prog 68 #[.slice (some ⟨w.heap.size + 1, 0, none⟩) 4 4] ((w.alloc o).alloc (.cells #[.int .i64 a, .int .i64 b, .int .i64 c, .int .i64 d] 3)) fun e w' => e = .returned (.bool (a == 0 && (b == 0 && (c == 0 && d == 0)))) ∧ ((w.alloc o).alloc (.cells #[.int .i64 a, .int .i64 b, .int .i64 c, .int .i64 d] 3)) = w' := by
  have h := nought4 a b c d (w.alloc o)
  rwa [World.size_alloc] at h
theorem b1 {w : World} {o : Obj} : Below w.heap.size w (w.alloc o) := (Below.refl _ _).alloc (Nat.le_refl _) _
theorem b2 {w : World} {o1 o2 : Obj} : Below w.heap.size w ((w.alloc o1).alloc o2) := b1.alloc (by simp) _

end Go.Proofs.Ytlpijnnlmgoihaa
