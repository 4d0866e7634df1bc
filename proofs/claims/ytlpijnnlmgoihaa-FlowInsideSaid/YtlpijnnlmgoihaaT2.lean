/- Contract of Check. -/
import Derived.Test.YtlpijnnlmgoihaaT
namespace Go.Proofs.Ytlpijnnlmgoihaa
open Go.RowKit M

def CheckP (l : List In) (w : World) (e : Ending) (w' : World) : Prop :=
  e = .returned (.tuple #[.int .i64 (checkS l).1, .int .i64 (checkS l).2]) ∧ Below w.heap.size w w'
theorem badI_hole {l : List In} {k : Nat} (h : holeB l k = true) : badI l k = false := by unfold badI; rw [h]; rfl
theorem badI_may {l : List In} {k : Nat} (h : holeB l k = false) : badI l k = !mayB l k := by unfold badI; rw [h]; rfl
set_option maxRecDepth 100000 in
set_option maxHeartbeats 4000000 in
theorem check_any (q : Option Addr) (qc : Nat) (l : List In) (w : World) (h : InsAt w q l) :
    Calls Try.prog 18 #[.slice q l.length qc] w (CheckP l w) := by
  have hs := h.small
  have H := Lib.hid h
  unfold CheckP
  by_cases h1 : 4096 < l.length
  · have hv : checkS l = (31, 31) ∨ checkS l = (0, 31) := by unfold checkS; rw [if_pos h1]; exact .inr rfl
    have hv2 : checkS l = (0, 31) := by unfold checkS; rw [if_pos h1]
    rw [hv2]
    generalize l.length = N at *
    clear h hv hv2
    go_enter Try.func18, Try.ntmps18
    go_wp2
    go_ret2
    exact ⟨rfl, Below.refl _ _⟩
  by_cases h0 : l.length = 0
  · have hv2 : checkS l = (0, 40) := by unfold checkS; rw [if_neg h1, if_pos h0]
    rw [hv2, h0]
    clear h hv2 h1 h0 hs H
    go_enter Try.func18, Try.ntmps18
    go_wp2
    go_ret2
    exact ⟨rfl, Below.refl _ _⟩
  have HH := Lib.hid (fun (k : Nat) W hW => hole_any q qc l (k : Int) W hW)
  have HM := Lib.hid (fun k W hW hk => may_any q qc l k W hW hk)
  have HG := Lib.hid (fun hj => check_good (l := l) (by omega) h0 hj)
  have HBD := Lib.hid (fun k hk hb hj => check_bad (l := l) (k := k) (by omega) hk hb hj)
  have h2 : l.length ≤ 4096 := by omega
  have h3 : 1 ≤ l.length := by omega
  generalize checkS l = cs at *
  generalize l.length = N at *
  clear h h1 h0
  have g0 : ((N : Int) == 0) = false := by simp; omega
  have g1 : decide ((4096 : Int) < (N : Int)) = false := decide_eq_false (by omega)
  go_enter Try.func18, Try.ntmps18
  go_wp2
  go_loopw [13] (fun i wr => ∃ k : Nat, k ≤ N ∧ i = .int .i64 k ∧ Below w.heap.size w wr ∧ Hid (∀ j, j < k → badI l j = false)) (fun i _ => N - (intOf i).toNat)
  case atStart => exact ⟨0, Nat.zero_le _, rfl, Below.refl _ _, Lib.hid (fun j hj => absurd hj (Nat.not_lt_zero _))⟩
  case round =>
    obtain ⟨k, hk, rfl, hb, hx⟩ := hrel
    have HB := Lib.hid hb
    clear hb
    by_cases hlt : k < N
    · have HHk := Lib.hid (HH.out k)
      have HMk := Lib.hid (fun W hW => HM.out k W hW hlt)
      have HX2 := Lib.hid (fun (hv : badI l k = false) j (hj : j < k + 1) => (show badI l j = false by
        by_cases e : j = k
        · rw [e]; exact hv
        · exact hx.out j (by omega)))
      cases hh : holeB l (k : Int)
      · have HV := Lib.hid (badI_may hh)
        rw [hh] at HHk
        cases hm : mayB l k
        · have HF := Lib.hid (HBD.out k hlt (by rw [HV.out, hm]; rfl) hx.out)
          rw [hm] at HMk
          clear hm hh
          go_wp2_with (first
            | (go_at_call 32; refine (HHk.out _ (H.out.below HB.out)).mono ?_; rintro e w1 ⟨rfl, rfl⟩)
            | (go_at_call 33; refine (HMk.out _ (H.out.below HB.out)).mono ?_; rintro e w2 ⟨rfl, hb⟩; have HB2 := Lib.hid (HB.out.trans (hb.mono HB.out.size)); clear hb))
          go_ret2
          rw [HF.out]
          exact ⟨rfl, HB2.out⟩
        · have HF := Lib.hid (HX2.out (by rw [HV.out, hm]; rfl))
          rw [hm] at HMk
          clear hm hh
          go_wp2_with (first
            | (go_at_call 32; refine (HHk.out _ (H.out.below HB.out)).mono ?_; rintro e w1 ⟨rfl, rfl⟩)
            | (go_at_call 33; refine (HMk.out _ (H.out.below HB.out)).mono ?_; rintro e w2 ⟨rfl, hb⟩; have HB2 := Lib.hid (HB.out.trans (hb.mono HB.out.size)); clear hb))
          go_roundw
          case rel => exact ⟨k + 1, by omega, by go_num, HB2.out, HF⟩
          case measure => simp [intOf]; omega
      · have HF := Lib.hid (HX2.out (badI_hole hh))
        rw [hh] at HHk
        clear hh
        go_wp2_with (go_at_call 32; refine (HHk.out _ (H.out.below HB.out)).mono ?_; rintro e w1 ⟨rfl, rfl⟩)
        go_roundw
        case rel => exact ⟨k + 1, by omega, by go_num, HB.out, HF⟩
        case measure => simp [intOf]; omega
    · have hkN : k = N := by omega
      subst hkN
      have HV := Lib.hid (HG.out hx.out)
      go_wp2
      go_ret2
      rw [HV.out]
      exact ⟨rfl, HB.out⟩
end Go.Proofs.Ytlpijnnlmgoihaa
