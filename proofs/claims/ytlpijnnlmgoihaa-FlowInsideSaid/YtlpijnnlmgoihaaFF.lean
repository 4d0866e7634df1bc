/- Flow: the document's own jumps, next, has. -/
import Derived.Test.YtlpijnnlmgoihaaFE
namespace Go.Proofs.Ytlpijnnlmgoihaa
open Go.RowKit M

set_option maxRecDepth 100000 in
theorem rjumps_any (x : In) (hx : Bd x) (w : World) : Calls Try.prog 26 #[.agg #[.int .i64 x.op, .int .i64 x.dst, .int .i64 x.src, .int .i64 x.off, .int .i64 x.imm, .int .u64 x.wide]] w fun e w' => e = .returned (.bool (jB x)) ∧ Below w.heap.size w w' := by
  have hj := fun W => rjump_any x.op W hx.op.1 hx.op.2
  unfold JmpP at hj
  have he : jB x = (jmpB x.op || (x.op == 5)) := rfl
  rw [he]
  clear he hx
  obtain ⟨x0, x1, x2, x3, x4, x5⟩ := x
  dsimp only at hj ⊢
  generalize (jmpB x0 && decide (x0 % 8 = 5)) = b at *
  generalize (if jmpB x0 = true then x0 - x0 % 16 else 0) = c at *
  generalize jmpB x0 = g at *
  have HJ := Lib.hid hj
  clear hj
  cases g with
  | true =>
    rw [Bool.true_or]
    go_enter Try.func26, Try.ntmps26
    go_wp2_with (go_at_call 31; (with_reducible refine (HJ.out _).mono ?_); rintro e w1 ⟨rfl, rfl⟩)
    go_ret
    exact ⟨rfl, (Below.refl _ _).alloc (Nat.le_refl _) _⟩
  | false =>
    rw [Bool.false_or]
    go_enter Try.func26, Try.ntmps26
    go_wp2_with (go_at_call 31; (with_reducible refine (HJ.out _).mono ?_); rintro e w1 ⟨rfl, rfl⟩)
    go_ret
    exact ⟨rfl, (Below.refl _ _).alloc (Nat.le_refl _) _⟩
theorem rnext_any (q : Option Addr) (qc : Nat) (l : List In) (i : Nat) (hi : i < l.length) (w : World) (h : InsAt w q l) : Calls Try.prog 25 #[.slice q l.length qc, .int .i64 (i : Int)] w fun e w' => e = .returned (.int .i64 ((nxI (l.getD i z) i : Nat) : Int)) ∧ w = w' := by
  have hs := h.small
  obtain ⟨b, off, rfl, hb, c0, _⟩ := h.cells i hi
  generalize l.length = N at *
  unfold nxI
  clear h
  by_cases h24 : (l.getD i z).op = 24
  · rw [if_pos h24]
    rw [h24] at c0
    clear h24
    go_enter Try.func25, Try.ntmps25
    go_wp2
    go_ret
    exact ⟨rfl, rfl⟩
  · rw [if_neg h24]
    have hne : ((l.getD i z).op == 24) = false := by simpa using h24
    generalize (l.getD i z).op = o at *
    clear h24
    go_enter Try.func25, Try.ntmps25
    go_wp2
    go_ret
    exact ⟨rfl, rfl⟩
theorem rhas_any (q : Option Addr) (qc : Nat) (l : List Int) (x : Int) (w : World) (h : NumsAt .i64 w q l) : Calls Try.prog 27 #[.slice q l.length qc, .int .i64 x] w fun e w' => e = .returned (.bool (decide (x ∈ l))) ∧ w = w' := by
  have hs := h.small
  have HT : Hid (∀ i, i < l.length → l.getD i 0 = x → decide (x ∈ l) = true) := Lib.hid (fun i hi e => by
    rw [decide_eq_true_eq, ← e, List.getD_eq_getElem?_getD, List.getElem?_eq_getElem hi]; exact List.getElem_mem hi)
  have HF : Hid ((∀ i, i < l.length → l.getD i 0 ≠ x) → decide (x ∈ l) = false) := Lib.hid (fun hf => by
    rw [decide_eq_false_iff_not]
    intro hm
    obtain ⟨i, hi, e⟩ := List.getElem_of_mem hm
    exact hf i hi (by rw [List.getD_eq_getElem?_getD, List.getElem?_eq_getElem hi]; exact e))
  have HC := Lib.hid h.cells
  generalize decide (x ∈ l) = g at *
  obtain ⟨N, hN⟩ : ∃ N, l.length = N := ⟨_, rfl⟩
  rw [hN] at hs HT HF HC ⊢
  clear h hN
  go_enter Try.func27, Try.ntmps27
  go_wp2
  go_loop [5] (fun i => ∃ k : Nat, k ≤ N ∧ i = .int .i64 (k : Int) ∧ Hid (∀ j, j < k → l.getD j 0 ≠ x)) (fun i => N - (intOf i).toNat)
  case atStart => exact ⟨0, Nat.zero_le _, rfl, Lib.hid (fun j hj => absurd hj (Nat.not_lt_zero _))⟩
  case round =>
    obtain ⟨k, hk1, rfl, HK⟩ := hrel
    by_cases hk : k < N
    · obtain ⟨b, off, rfl, hb, c0⟩ := HC.out k hk
      have HT' := Lib.hid (HT.out k hk)
      generalize hy : l.getD k 0 = y at *
      by_cases hyx : y = x
      · have HG := Lib.hid (HT'.out hyx)
        subst hyx
        clear HT'
        have HY := Lib.hid hy
        clear hy
        go_wp2
        go_ret
        rw [HG.out]
        exact ⟨rfl, rfl⟩
      · have hb2 : (y == x) = false := by simpa using hyx
        have HK' : Hid (∀ j, j < k + 1 → l.getD j 0 ≠ x) := Lib.hid (fun j hj => by
          by_cases e : j = k
          · rw [e, hy]; exact hyx
          · exact HK.out j (by omega))
        clear HT' hy
        go_wp2
        go_round
        case rel => exact ⟨k + 1, by omega, rfl, HK'⟩
        case measure => simp [intOf]; omega
    · obtain rfl : N = k := by omega
      have HG := Lib.hid (HF.out HK.out)
      go_wp2
      go_ret
      rw [HG.out]
      exact ⟨rfl, rfl⟩
end Go.Proofs.Ytlpijnnlmgoihaa
