/- What the laws ask at any rate comes true. -/
import Derived.Test.YtlpijnnlmgoihaaT4
namespace Go.Proofs.Ytlpijnnlmgoihaa
open Go.RowKit M

def cellsX (X : In) : List Value := [.int .i64 X.op, .int .i64 X.dst, .int .i64 X.src, .int .i64 X.off, .int .i64 X.imm, .int .u64 X.wide]
theorem ins_new {w : World} {l : List In} {cs : Array Value} {t : TypeId} (hs : l.length ≤ 4096) (hc : ∀ i, i < l.length → ∀ j v, (cellsX (l.getD i z))[j]? = some v → cs[i * 6 + j]? = some v) (hb : ∀ i, i < l.length → Bd (l.getD i z)) :
    InsAt (w.alloc (.cells cs t)) (some ⟨w.heap.size, 0, none⟩) l :=
  ⟨by omega, fun i hi => ⟨_, _, rfl, by simp, by
    have h := hc i hi
    have f := fun j v hj => cell_new w (t := t) (fr := (0, 0)) (h j v hj)
    refine ⟨?_, ?_, ?_, ?_, ?_, ?_⟩
    · simpa using f 0 _ rfl
    · simpa using f 1 _ rfl
    · simpa using f 2 _ rfl
    · simpa using f 3 _ rfl
    · simpa using f 4 _ rfl
    · simpa using f 5 _ rfl⟩, hb⟩
def xE : In := ⟨149, 0, 0, 0, 0, 0⟩
def x5 : In := ⟨183, 0, 0, 0, 5, 0⟩
def xJ : In := ⟨21, 0, 0, 1, 0, 0⟩
theorem bdE : Bd xE := ⟨by decide, by decide, by decide, by decide, by decide, by decide⟩
theorem bd5 : Bd x5 := ⟨by decide, by decide, by decide, by decide, by decide, by decide⟩
theorem bdJ : Bd xJ := ⟨by decide, by decide, by decide, by decide, by decide, by decide⟩
theorem new2 (w : World) (x y : In) (hx : Bd x) (hy : Bd y) : InsAt (w.alloc (.cells #[.int .i64 x.op, .int .i64 x.dst, .int .i64 x.src, .int .i64 x.off, .int .i64 x.imm, .int .u64 x.wide, .int .i64 y.op, .int .i64 y.dst, .int .i64 y.src, .int .i64 y.off, .int .i64 y.imm, .int .u64 y.wide] 55)) (some ⟨w.heap.size, 0, none⟩) [x, y] :=
  ins_new (by simp) (fun i hi j v h => by
    match i, hi with
    | 0, _ => match j, h with
      | 0, h => exact h
      | 1, h => exact h
      | 2, h => exact h
      | 3, h => exact h
      | 4, h => exact h
      | 5, h => exact h
    | 1, _ => match j, h with
      | 0, h => exact h
      | 1, h => exact h
      | 2, h => exact h
      | 3, h => exact h
      | 4, h => exact h
      | 5, h => exact h) (fun i hi => by
    match i, hi with
    | 0, _ => exact hx
    | 1, _ => exact hy)
theorem new3 (w : World) (x y u : In) (hx : Bd x) (hy : Bd y) (hu : Bd u) : InsAt (w.alloc (.cells #[.int .i64 x.op, .int .i64 x.dst, .int .i64 x.src, .int .i64 x.off, .int .i64 x.imm, .int .u64 x.wide, .int .i64 y.op, .int .i64 y.dst, .int .i64 y.src, .int .i64 y.off, .int .i64 y.imm, .int .u64 y.wide, .int .i64 u.op, .int .i64 u.dst, .int .i64 u.src, .int .i64 u.off, .int .i64 u.imm, .int .u64 u.wide] 55)) (some ⟨w.heap.size, 0, none⟩) [x, y, u] :=
  ins_new (by simp) (fun i hi j v h => by
    match i, hi with
    | 0, _ => match j, h with
      | 0, h => exact h
      | 1, h => exact h
      | 2, h => exact h
      | 3, h => exact h
      | 4, h => exact h
      | 5, h => exact h
    | 1, _ => match j, h with
      | 0, h => exact h
      | 1, h => exact h
      | 2, h => exact h
      | 3, h => exact h
      | 4, h => exact h
      | 5, h => exact h
    | 2, _ => match j, h with
      | 0, h => exact h
      | 1, h => exact h
      | 2, h => exact h
      | 3, h => exact h
      | 4, h => exact h
      | 5, h => exact h) (fun i hi => by
    match i, hi with
    | 0, _ => exact hx
    | 1, _ => exact hy
    | 2, _ => exact hu)
theorem ck1 : checkS [x5, xE] = (0, 0) := by kernel_rfl
theorem ck2 : checkS [xE, x5] = (1, 40) := by kernel_rfl
theorem ck3 : checkS [] = (0, 40) := by kernel_rfl
theorem ck4 : succL [xJ, xE, xE] 0 = [1, 2] := by kernel_rfl
theorem ckA : aluB 183 = true := by kernel_rfl
theorem ckJ : jmpB 94 = true := by kernel_rfl
theorem head1 (w : World) (o1 o2 : Obj) : Calls Try.prog 18 #[.slice (some ⟨w.heap.size + 1 + 1, 0, none⟩) 2 2] (((w.alloc o1).alloc o2).alloc (.cells #[.int .i64 183, .int .i64 0, .int .i64 0, .int .i64 0, .int .i64 5, .int .u64 0, .int .i64 149, .int .i64 0, .int .i64 0, .int .i64 0, .int .i64 0, .int .u64 0] 55))
    fun e w' => e = .returned (.tuple #[.int .i64 0, .int .i64 0]) ∧ Below (((w.alloc o1).alloc o2).alloc (.cells #[.int .i64 183, .int .i64 0, .int .i64 0, .int .i64 0, .int .i64 5, .int .u64 0, .int .i64 149, .int .i64 0, .int .i64 0, .int .i64 0, .int .i64 0, .int .u64 0] 55)).heap.size (((w.alloc o1).alloc o2).alloc (.cells #[.int .i64 183, .int .i64 0, .int .i64 0, .int .i64 0, .int .i64 5, .int .u64 0, .int .i64 149, .int .i64 0, .int .i64 0, .int .i64 0, .int .i64 0, .int .u64 0] 55)) w' := by
  have h := new2 ((w.alloc o1).alloc o2) x5 xE bd5 bdE
  rw [World.size_alloc, World.size_alloc] at h
  have h2 := check_any _ 2 _ _ h
  unfold CheckP at h2
  rw [ck1] at h2
  exact h2
theorem head2 (w : World) : Calls Try.prog 18 #[.slice (some ⟨w.heap.size, 0, none⟩) 2 2] (w.alloc (.cells #[.int .i64 149, .int .i64 0, .int .i64 0, .int .i64 0, .int .i64 0, .int .u64 0, .int .i64 183, .int .i64 0, .int .i64 0, .int .i64 0, .int .i64 5, .int .u64 0] 55))
    fun e w' => e = .returned (.tuple #[.int .i64 1, .int .i64 40]) ∧ Below (w.alloc (.cells #[.int .i64 149, .int .i64 0, .int .i64 0, .int .i64 0, .int .i64 0, .int .u64 0, .int .i64 183, .int .i64 0, .int .i64 0, .int .i64 0, .int .i64 5, .int .u64 0] 55)).heap.size (w.alloc (.cells #[.int .i64 149, .int .i64 0, .int .i64 0, .int .i64 0, .int .i64 0, .int .u64 0, .int .i64 183, .int .i64 0, .int .i64 0, .int .i64 0, .int .i64 5, .int .u64 0] 55)) w' := by
  have h2 := check_any _ 2 _ _ (new2 w xE x5 bdE bd5)
  unfold CheckP at h2
  rw [ck2] at h2
  exact h2
theorem head3 (w : World) : Calls Try.prog 18 #[.slice none 0 0] w fun e w' => e = .returned (.tuple #[.int .i64 0, .int .i64 40]) ∧ Below w.heap.size w w' := by
  have h2 := check_any none 0 [] w ⟨Nat.zero_le _, fun _ h => absurd h (Nat.not_lt_zero _), fun _ h => absurd h (Nat.not_lt_zero _)⟩
  unfold CheckP at h2
  rw [ck3] at h2
  exact h2
def Two (w : World) (e : Ending) (w' : World) : Prop := ∃ p cap, e = .returned (.slice p 2 cap) ∧ NumsAt .i64 w' p [1, 2] ∧ Below w.heap.size w w'
theorem head4 (w : World) : Calls Try.prog 36 #[.slice (some ⟨w.heap.size, 0, none⟩) 3 3, .int .i64 0] (w.alloc (.cells #[.int .i64 21, .int .i64 0, .int .i64 0, .int .i64 1, .int .i64 0, .int .u64 0, .int .i64 149, .int .i64 0, .int .i64 0, .int .i64 0, .int .i64 0, .int .u64 0, .int .i64 149, .int .i64 0, .int .i64 0, .int .i64 0, .int .i64 0, .int .u64 0] 55))
    (Two (w.alloc (.cells #[.int .i64 21, .int .i64 0, .int .i64 0, .int .i64 1, .int .i64 0, .int .u64 0, .int .i64 149, .int .i64 0, .int .i64 0, .int .i64 0, .int .i64 0, .int .u64 0, .int .i64 149, .int .i64 0, .int .i64 0, .int .i64 0, .int .i64 0, .int .u64 0] 55))) := by
  have h2 := succ_any _ 3 _ 0 _ (new3 w xJ xE xE bdJ bdE bdE)
  unfold SuccP at h2
  rw [ck4] at h2
  exact h2
theorem head5 (w : World) (p : Option Addr) (cap : Nat) (h : NumsAt .i64 w p [1, 2]) : Calls Try.prog 10 #[.slice p 2 cap, .slice (some ⟨w.heap.size, 0, none⟩) 2 2] (w.alloc (.cells #[.int .i64 1, .int .i64 2] 3)) fun e w' => e = .returned (.bool true) ∧ Below (w.alloc (.cells #[.int .i64 1, .int .i64 2] 3)).heap.size (w.alloc (.cells #[.int .i64 1, .int .i64 2] 3)) w' :=
  ints_eq p _ cap 2 [1, 2] _ (h.below b1) (nums_new w 3 [1, 2] _ rfl (by simp))
theorem headA (w : World) : Calls Try.prog 69 #[.int .i64 183] w fun e w' => e = .returned (.tuple #[.int .i64 176, .bool true, .bool true]) ∧ w = w' := alu_yes 183 w (by decide) (by decide) ckA
theorem headJ (w : World) : Calls Try.prog 45 #[.int .i64 94] w fun e w' => e = .returned (.tuple #[.int .i64 80, .bool false, .bool true]) ∧ w = w' := jump_yes 94 w (by decide) (by decide) ckJ
theorem headS (w : World) : Calls Try.prog 72 #[.int .i64 121] w fun e w' => e = .returned (.int .i64 8) ∧ w = w' := size_any 121 w
theorem below3 {w w1 : World} {o1 o2 o3 : Obj} (h : Below (((w.alloc o1).alloc o2).alloc o3).heap.size (((w.alloc o1).alloc o2).alloc o3) w1) : Below w.heap.size w w1 := below1 (below2 h)
end Go.Proofs.Ytlpijnnlmgoihaa
