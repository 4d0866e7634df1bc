/- Contracts of cut: a program's slots, or why there are none. -/
import Derived.Test.YtlcmaokafklheaaDoorAX
import Derived.Test.YtlcmaokafklheaaDoorE
import Derived.Test.YtlcmaokafklheaaDoorH
namespace Go.Proofs.YtlcmaokafklheaaDoor
open Go.RowKit M

set_option maxHeartbeats 1000000 in
theorem cut_none (q : Option Addr) (qc : Nat) (N : Nat) (w : World) (hN : N ≤ 140737488351232) (h : N = 0 ∨ N % 8 ≠ 0) :
    Calls Tryd.prog 31 #[.slice q N qc] w fun e w' => e = .returned (.tuple #[.slice none 0 0, .iface 67 (.agg #[.int .i64 30, .int .i64 ((N : Int) / 8)])]) ∧ w = w' := by
  by_cases h0 : N = 0
  · subst h0
    clear h
    go_enter Tryd.func31, Tryd.ntmps31
    go_wp2
    go_ret2
    exact ⟨rfl, rfl⟩
  · have h1 : ((N : Int) == 0) = false := by simpa using h0
    have h3 : ((N : Int) % 8 != 0) = true := by
      have : N % 8 ≠ 0 := by omega
      simp; omega
    clear h h0
    go_enter Tryd.func31, Tryd.ntmps31
    go_wp2
    go_ret2
    exact ⟨rfl, rfl⟩
set_option maxHeartbeats 1000000 in
theorem cut_long (q : Option Addr) (qc : Nat) (N : Nat) (w : World) (hN : N ≤ 140737488351232) (h : N % 8 = 0) (hl : 32768 < N) :
    Calls Tryd.prog 31 #[.slice q N qc] w fun e w' => e = .returned (.tuple #[.slice none 0 0, .iface 67 (.agg #[.int .i64 31, .int .i64 4096])]) ∧ w = w' := by
  have h1 : ((N : Int) == 0) = false := by simp; omega
  have h3 : ((N : Int) % 8 != 0) = false := by simp; omega
  have h4 : 4096 < (N : Int) / 8 := by omega
  clear h
  go_enter Tryd.func31, Tryd.ntmps31
  go_wp2
  go_ret2
  exact ⟨rfl, rfl⟩
theorem info22 : (Tryd.prog.info? 22).map (fun i => (i.zero, i.size, i.bytes)) = some (some (.slice none 0 0), 1, 24) := by kernel_rfl
def slotV (b off : Nat) (i : Nat) : Value := .slice (some ⟨b, off + i * 8, none⟩) 8 8
def cutRow (b off k i : Nat) : Value := if i < k then slotV b off i else .slice none 0 0
set_option maxHeartbeats 1000000 in
theorem cut_ok (b off qc n : Nat) (w : World) (h1 : 1 ≤ n) (h2 : n ≤ 4096) (hc : n * 8 ≤ qc) :
    Calls Tryd.prog 31 #[.slice (some ⟨b, off, none⟩) (n * 8) qc] w fun e w' => e = .returned (.tuple #[.slice (some ⟨w.heap.size, 0, none⟩) n n, .nilIface]) ∧ Below w.heap.size w w' ∧ w'.rowIs w.heap.size 22 n (slotV b off) := by
  obtain ⟨N, hN⟩ : ∃ N, n * 8 = N := ⟨_, rfl⟩
  rw [hN] at hc ⊢
  have hmk := fun W => run_make_row' (P := Tryd.prog) 61 22 (.slice none 0 0) 24 Tryd.underlying61 info22 rfl .i64 .i64 n (by omega) (by omega) W
  have e1 : ((N : Int) == 0) = false := by simp; omega
  have e2 : ((N : Int) % 8 != 0) = false := by simp; omega
  have e3 : (N : Int) / 8 = n := by omega
  have e4 : ¬ 4096 < (n : Int) := by omega
  have HN := Lib.hid hN
  clear hN
  go_enter Tryd.func31, Tryd.ntmps31
  go_wp2
  go_loopw [32] (fun i wr => ∃ k : Nat, k ≤ n ∧ i = .int .i64 k ∧ Below w.heap.size w wr ∧ wr.rowIs w.heap.size 22 n (cutRow b off k)) (fun i _ => n - (intOf i).toNat)
  case atStart => exact ⟨0, Nat.zero_le _, rfl, (Below.refl _ _).alloc (Nat.le_refl _) _, (World.rowIs_made w _ _ _).congr (fun i hi => by simp [cutRow])⟩
  case round =>
    obtain ⟨k, hk, rfl, hb, hrow⟩ := hrel
    have HB := Lib.hid hb
    by_cases hlt : k < n
    · have d1 := hrow.cell hlt
      have d2 := hrow.frozen k
      have HR := Lib.hid hrow
      clear hb hrow
      go_wp2
      go_roundw
      case rel =>
        refine ⟨k + 1, by omega, by go_num, HB.out.setCell (p := ⟨w.heap.size, k, none⟩) (Nat.le_refl _) _, (HR.out.set k _).congr fun i hi => ?_⟩
        simp only [cutRow]
        by_cases h1 : i = k
        · subst h1; simp [slotV]; omega
        · by_cases h2 : i < k
          · rw [if_neg h1, if_pos h2, if_pos (by omega)]
          · rw [if_neg h1, if_neg h2, if_neg (by omega)]
      case measure => simp [intOf]; omega
    · have HR := Lib.hid hrow
      clear hb hrow
      go_wp2
      go_ret2
      exact ⟨rfl, HB.out, HR.out.congr fun i hi => by simp only [cutRow]; rw [if_pos (by omega)]⟩
end Go.Proofs.YtlcmaokafklheaaDoor
