/- Flow: the document's own Find. -/
import Derived.Test.YtlpijnnlmgoihaaGA
namespace Go.Proofs.Ytlpijnnlmgoihaa
open Go.RowKit M

/-- from where to where blocks go, in memory -/
structure FtAt (w : World) (q : Option Addr) (n : Nat) (fr to : Nat → Int) : Prop where
  small : n * 72 ≤ 140737488351232
  cells : ∀ i, i < n → ∃ b off, q = some ⟨b, off, none⟩ ∧ b < w.heap.size ∧ w.cell? ⟨b, off + i * 5, none⟩ = some (.int .i64 (fr i)) ∧ w.cell? ⟨b, off + i * 5 + 1, none⟩ = some (.int .i64 (to i))
def findI (fr to : Nat → Int) (n : Nat) (x : Int) : Int := match (List.range n).find? (fun k => decide (fr k ≤ x) && decide (x < to k)) with
  | some k => (k : Int)
  | none => -1
theorem findI_some {fr to : Nat → Int} {n k : Nat} {x : Int} (hk : k < n) (h1 : fr k ≤ x) (h2 : x < to k) (hj : ∀ j, j < k → ¬ (fr j ≤ x ∧ x < to j)) : findI fr to n x = (k : Int) := by
  have hf : (List.range n).find? (fun k => decide (fr k ≤ x) && decide (x < to k)) = some k := by
    rw [List.find?_range_eq_some]
    refine ⟨by simp [h1, h2], List.mem_range.2 hk, fun j h => ?_⟩
    have := hj j h
    simp only [Bool.not_eq_true', Bool.and_eq_false_iff, decide_eq_false_iff_not]
    by_cases c : fr j ≤ x
    · exact .inr (fun d => this ⟨c, d⟩)
    · exact .inl c
  unfold findI
  rw [hf]
theorem findI_none {fr to : Nat → Int} {n : Nat} {x : Int} (hj : ∀ j, j < n → ¬ (fr j ≤ x ∧ x < to j)) : findI fr to n x = -1 := by
  have hf : (List.range n).find? (fun k => decide (fr k ≤ x) && decide (x < to k)) = none := by
    rw [List.find?_eq_none]
    intro j h
    have := hj j (List.mem_range.1 h)
    simpa using this
  unfold findI
  rw [hf]
set_option maxRecDepth 100000 in
theorem rfind_any (q : Option Addr) (qc n : Nat) (fr to : Nat → Int) (x : Int) (w : World) (h : FtAt w q n fr to) : Calls Try.prog 14 #[.slice q n qc, .int .i64 x] w fun e w' => e = .returned (.int .i64 (findI fr to n x)) ∧ w = w' := by
  have hs := h.small
  have HT := Lib.hid (fun k (hk : k < n) h1 h2 hj => findI_some (fr := fr) (to := to) (x := x) hk h1 h2 hj)
  have HF := Lib.hid (fun hj => findI_none (fr := fr) (to := to) (n := n) (x := x) hj)
  have HC := Lib.hid h.cells
  generalize findI fr to n x = g at *
  clear h
  go_enter Try.func14, Try.ntmps14
  go_wp2
  go_loop [5] (fun i => ∃ k : Nat, k ≤ n ∧ i = .int .i64 (k : Int) ∧ Hid (∀ j, j < k → ¬ (fr j ≤ x ∧ x < to j))) (fun i => n - (intOf i).toNat)
  case atStart => exact ⟨0, Nat.zero_le _, rfl, Lib.hid (fun j hj => absurd hj (Nat.not_lt_zero _))⟩
  case round =>
    obtain ⟨k, hk1, rfl, HK⟩ := hrel
    by_cases hk : k < n
    · obtain ⟨b, off, rfl, hb, c0, c1⟩ := HC.out k hk
      have HT' := Lib.hid (HT.out k hk)
      have next : Hid (¬ (fr k ≤ x ∧ x < to k) → ∀ j, j < k + 1 → ¬ (fr j ≤ x ∧ x < to j)) := Lib.hid (fun hn j hj => by
          by_cases e : j = k
          · rw [e]; exact hn
          · exact HK.out j (by omega))
      generalize fr k = y at *
      generalize to k = y2 at *
      by_cases h1 : y ≤ x
      · by_cases h2 : x < y2
        · have HG := Lib.hid (HT'.out h1 h2 HK.out)
          clear HT' next
          go_wp2
          go_ret
          rw [HG.out]
          exact ⟨rfl, rfl⟩
        · have HK' := Lib.hid (next.out (fun c => h2 c.2))
          clear HT' next
          go_wp2
          go_round
          case rel => exact ⟨k + 1, by omega, rfl, HK'.out |> Lib.hid⟩
          case measure => simp [intOf]; omega
      · have HK' := Lib.hid (next.out (fun c => h1 c.1))
        clear HT' next
        go_wp2
        go_round
        case rel => exact ⟨k + 1, by omega, rfl, HK'.out |> Lib.hid⟩
        case measure => simp [intOf]; omega
    · obtain rfl : n = k := by omega
      have HG := Lib.hid (HF.out HK.out)
      go_wp2
      go_ret
      rw [HG.out]
      exact ⟨rfl, rfl⟩
theorem BksAt.ft {w : World} {q : Option Addr} {B : List Bk} (h : BksAt w q B) : FtAt w q B.length (fun k => (bk B k).fr) (fun k => (bk B k).to) :=
  ⟨h.small, fun i hi => by
    obtain ⟨b, off, sp, sc, pp, pc, hq, hl, c0, c1, c2, c3, c4, n1, n2⟩ := h.cells i hi
    exact ⟨b, off, hq, hl, c0, c1⟩⟩
theorem rfindB_any (q : Option Addr) (qc : Nat) (B : List Bk) (x : Int) (w : World) (h : BksAt w q B) : Calls Try.prog 14 #[.slice q B.length qc, .int .i64 x] w fun e w' => e = .returned (.int .i64 (findB B x)) ∧ w' = w :=
  (rfind_any q qc B.length _ _ x w h.ft).mono fun _ _ ⟨he, hw⟩ => ⟨he, hw.symm⟩
end Go.Proofs.Ytlpijnnlmgoihaa
