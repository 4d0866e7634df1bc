/- Contracts of Get, on both sides: the number of bytes. -/
import Derived.Test.YtgchdiocbllppaaDoorF
namespace Go.Proofs.YtgchdiocbllppaaDoor
open Go.RowKit M

def getTo (xs : List Int) : Nat → Int
  | 0 => 0
  | k + 1 => bits .or .u64 (getTo xs k) (IntKind.u64.wrap (xs.getD k 0 * 2 ^ (8 * k)))
def getN (xs : List Int) : Int := getTo xs (min xs.length 8)

set_option maxHeartbeats 400000 in
theorem get_any (q : Option Addr) (qc : Nat) (xs : List Int) (w : World) (h : RowAt w q xs) :
    Calls Tryd.prog 46 #[.slice q xs.length qc] w fun e w' => e = .returned (.int .u64 (getN xs)) ∧ w = w' := by
  have hs := h.small
  obtain ⟨N, hN⟩ : ∃ N, xs.length = N := ⟨_, rfl⟩
  rw [hN] at hs ⊢
  have HN := Lib.hid hN
  have H := Lib.hid h
  clear hN h
  go_enter Tryd.func46, Tryd.ntmps46
  go_wp2
  all_goals
    go_loop [3, 8] (fun x i => ∃ k : Nat, k ≤ N ∧ k ≤ 8 ∧ i = .int .i64 k ∧ x = .int .u64 (getTo xs k)) (fun _ i => 8 - (intOf i).toNat)
    case atStart => exact ⟨0, Nat.zero_le _, Nat.zero_le _, rfl, rfl⟩
    case round =>
      obtain ⟨k, hk, hk8, rfl, rfl⟩ := hrel
      by_cases hlt : k < N ∧ k < 8
      · obtain ⟨hl1, hl2⟩ := hlt
        obtain ⟨b, off, rfl, hbl, hc⟩ := H.out.cells k (by rw [HN.out]; exact hl1)
        have hby := H.out.byte k (by rw [HN.out]; exact hl1)
        obtain ⟨X, hX⟩ : ∃ X, getTo xs k = X := ⟨_, rfl⟩
        obtain ⟨y, hy⟩ : ∃ y, xs.getD k 0 = y := ⟨_, rfl⟩
        rw [hX]
        rw [hy] at hc hby
        have HX := Lib.hid hX
        have HY := Lib.hid hy
        clear hX hy
        go_wp2
        go_round
        case rel => exact ⟨k + 1, by omega, by omega, by go_num, by rw [getTo, HX.out, HY.out]⟩
        case measure => simp [intOf]; omega
      · have hE := Lib.hid (show min xs.length 8 = k by rw [HN.out]; omega)
        go_wp2
        go_ret
        exact ⟨by unfold getN; rw [hE.out]; rfl, rfl⟩
set_option maxHeartbeats 400000 in
theorem rget_any (q : Option Addr) (qc : Nat) (xs : List Int) (w : World) (h : RowAt w q xs) :
    Calls Tryd.prog 35 #[.slice q xs.length qc] w fun e w' => e = .returned (.int .u64 (getN xs)) ∧ w = w' := by
  have hs := h.small
  obtain ⟨N, hN⟩ : ∃ N, xs.length = N := ⟨_, rfl⟩
  rw [hN] at hs ⊢
  have HN := Lib.hid hN
  have H := Lib.hid h
  clear hN h
  go_enter Tryd.func35, Tryd.ntmps35
  go_wp2
  all_goals
    go_loop [3, 4] (fun x i => ∃ k : Nat, k ≤ N ∧ k ≤ 8 ∧ i = .int .i64 k ∧ x = .int .u64 (getTo xs k)) (fun _ i => 8 - (intOf i).toNat)
    case atStart => exact ⟨0, Nat.zero_le _, Nat.zero_le _, rfl, rfl⟩
    case round =>
      obtain ⟨k, hk, hk8, rfl, rfl⟩ := hrel
      by_cases hlt : k < N ∧ k < 8
      · obtain ⟨hl1, hl2⟩ := hlt
        obtain ⟨b, off, rfl, hbl, hc⟩ := H.out.cells k (by rw [HN.out]; exact hl1)
        have hby := H.out.byte k (by rw [HN.out]; exact hl1)
        obtain ⟨X, hX⟩ : ∃ X, getTo xs k = X := ⟨_, rfl⟩
        obtain ⟨y, hy⟩ : ∃ y, xs.getD k 0 = y := ⟨_, rfl⟩
        rw [hX]
        rw [hy] at hc hby
        have HX := Lib.hid hX
        have HY := Lib.hid hy
        clear hX hy
        go_wp2
        go_round
        case rel => exact ⟨k + 1, by omega, by omega, by go_num, by rw [getTo, HX.out, HY.out]⟩
        case measure => simp [intOf]; omega
      · have hE := Lib.hid (show min xs.length 8 = k by rw [HN.out]; omega)
        by_cases hlt2 : k < N
        · go_wp2
          go_ret
          exact ⟨by unfold getN; rw [hE.out]; rfl, rfl⟩
        · go_wp2
          go_ret
          exact ⟨by unfold getN; rw [hE.out]; rfl, rfl⟩
end Go.Proofs.YtgchdiocbllppaaDoor
