/- Dominance: the document's own leads. -/
import Derived.Test.YtgaacdnljkildaaDJ
namespace Go.Proofs.Ytgaacdnljkildaa
open Go.RowKit
open Dm

def leadsP (g : List (List Int)) (D : List Bool) (b : Int) : Prop := ∃ x i, x < g.length ∧ D.getD x false = true ∧ i < (g.getD x []).length ∧ (g.getD x []).getD i 0 = b
open Classical in
noncomputable def leadsB (g : List (List Int)) (D : List Bool) (b : Int) : Bool := decide (leadsP g D b)
open Classical in
theorem leads_yes {g : List (List Int)} {D : List Bool} {b : Int} (h : leadsP g D b) : leadsB g D b = true := by
  unfold leadsB
  rw [decide_eq_true_eq]
  exact h
open Classical in
theorem leads_no {g : List (List Int)} {D : List Bool} {b : Int} (h : ¬ leadsP g D b) : leadsB g D b = false := by
  unfold leadsB
  rw [decide_eq_false_iff_not]
  exact h
set_option maxRecDepth 100000 in
set_option maxHeartbeats 2000000 in
theorem rleads_any (q : Option Addr) (qc : Nat) (g : List (List Int)) (gb : Nat) (D : List Bool) (b : Int) (w : World) (h : GsAt w q g) (hN : g.length ≤ 4096) (hT : tot g ≤ 1048576) (hD : Rb w gb D) (hl : D.length = g.length) : Calls Try.prog 27 #[.slice q g.length qc, .slice (some ⟨gb, 0, none⟩) g.length g.length, .int .i64 b] w fun e w' => e = .returned (.bool (leadsB g D b)) ∧ w = w' := by
  have HY : Hid (∀ x i, x < g.length → D.getD x false = true → i < (g.getD x []).length → (g.getD x []).getD i 0 = b → leadsB g D b = true) := Lib.hid (fun x i h1 h2 h3 h4 => leads_yes ⟨x, i, h1, h2, h3, h4⟩)
  have HZ : Hid ((∀ x, x < g.length → D.getD x false = true → ∀ i, i < (g.getD x []).length → (g.getD x []).getD i 0 ≠ b) → leadsB g D b = false) := Lib.hid (fun h => leads_no (fun ⟨x, i, h1, h2, h3, h4⟩ => h x h1 h2 i h3 h4))
  have HRW : Hid (∀ i, i < g.length → (g.getD i []).length ≤ tot g) := Lib.hid (fun i hi => row_le hi)
  have HGC := Lib.hid h.cells
  generalize leadsB g D b = v at *
  obtain ⟨su, hsu⟩ : ∃ su : Nat → List Int, (fun i => g.getD i []) = su := ⟨_, rfl⟩
  have hsi : ∀ i, g.getD i [] = su i := fun i => congrFun hsu i
  simp only [hsi] at HGC HRW HY HZ
  generalize tot g = TT at *
  generalize g.length = N at *
  clear h hsu hsi
  have rl := hD.lt
  go_enter Try.func27, Try.ntmps27
  go_wp2
  go_loop [7] (fun i => ∃ k : Nat, k ≤ N ∧ i = .int .i64 (k : Int) ∧ Hid (∀ x, x < k → D.getD x false = true → ∀ i, i < (su x).length → (su x).getD i 0 ≠ b)) (fun i => N - (intOf i).toNat)
  case atStart => exact ⟨0, Nat.zero_le _, rfl, Lib.hid (fun x hx => absurd hx (Nat.not_lt_zero _))⟩
  case round =>
    obtain ⟨k, hk, rfl, HK⟩ := hrel
    by_cases hlt : k < N
    · obtain ⟨b4, o4, p4, c4, rfl, hl4, e4, hn4⟩ := HGC.out k hlt
      have rc := hD.cell k (by omega)
      have hRT := HRW.out k hlt
      have HYK := Lib.hid (HY.out k · hlt)
      have HNX : Hid ((D.getD k false = true → ∀ i, i < (su k).length → (su k).getD i 0 ≠ b) → ∀ x, x < k + 1 → D.getD x false = true → ∀ i, i < (su x).length → (su x).getD i 0 ≠ b) := Lib.hid (fun hh x hx => by
        by_cases e : x = k
        · rw [e]; exact hh
        · exact HK.out x (by omega))
      generalize su k = R at *
      obtain ⟨M, hM⟩ : ∃ M, R.length = M := ⟨_, rfl⟩
      have HM := Lib.hid hM
      rw [hM] at e4 hRT HYK HNX
      clear hM
      cases hv : D.getD k false with
      | false =>
        rw [hv] at rc HNX
        have HN := Lib.hid (HNX.out (fun c => by cases c))
        clear hv HYK HNX hn4
        by_cases hM0 : 0 < M
        · go_wp2_with fail
          go_loop [8] (fun i => i = .int .i64 0) (fun _ => 0)
          case atStart => rfl
          case round =>
            obtain rfl := hrel
            go_wp2_with fail
            go_round
            case rel => exact ⟨k + 1, by omega, rfl, HN⟩
            case measure => simp [intOf]; omega
        · obtain rfl : M = 0 := by omega
          go_wp2_with fail
          go_loop [8] (fun i => i = .int .i64 0) (fun _ => 0)
          case atStart => rfl
          case round =>
            obtain rfl := hrel
            go_wp2_with fail
            go_round
            case rel => exact ⟨k + 1, by omega, rfl, HN⟩
            case measure => simp [intOf]; omega
      | true =>
        rw [hv] at rc HNX HYK
        clear hv
        go_wp2_with fail
        go_loop [8] (fun i => ∃ m : Nat, m ≤ M ∧ i = .int .i64 (m : Int) ∧ Hid (∀ i, i < m → R.getD i 0 ≠ b)) (fun i => M - (intOf i).toNat)
        case atStart => exact ⟨0, Nat.zero_le _, rfl, Lib.hid (fun i hi => absurd hi (Nat.not_lt_zero _))⟩
        case round =>
          obtain ⟨m, hm, rfl, HMM⟩ := hrel
          by_cases hmM : m < M
          · obtain ⟨b5, o5, rfl, hl5, e5⟩ := hn4.cells m (by rw [HM.out]; exact hmM)
            have HYM := Lib.hid (fun e => HYK.out m (by first | rfl | trivial) hmM e)
            have HNM : Hid (R.getD m 0 ≠ b → ∀ i, i < m + 1 → R.getD i 0 ≠ b) := Lib.hid (fun hh i hi => by
              by_cases e : i = m
              · rw [e]; exact hh
              · exact HMM.out i (by omega))
            generalize R.getD m 0 = y at *
            by_cases hy : y = b
            · have HV := Lib.hid (HYM.out hy)
              have hb : (y == b) = true := by simpa using hy
              clear hy HYM HNM hn4
              go_wp2_with fail
              go_ret
              rw [HV.out]
              exact ⟨rfl, rfl⟩
            · have HN := Lib.hid (HNM.out hy)
              have hb : (y == b) = false := by simpa using hy
              clear hy HYM HNM hn4
              go_wp2_with fail
              go_round
              case rel => exact ⟨m + 1, by omega, rfl, HN⟩
              case measure => simp [intOf]; omega
          · obtain rfl : M = m := by omega
            have HN := Lib.hid (HNX.out (fun _ => HMM.out))
            clear hn4
            go_wp2_with fail
            go_round
            case rel => exact ⟨k + 1, by omega, rfl, HN⟩
            case measure => simp [intOf]; omega
    · obtain rfl : N = k := by omega
      have HV := Lib.hid (HZ.out HK.out)
      go_wp2_with fail
      go_ret
      rw [HV.out]
      exact ⟨rfl, rfl⟩
end Go.Proofs.Ytgaacdnljkildaa
