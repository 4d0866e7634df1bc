/- Contract of the document's own answer: are two memories the same? -/
import Derived.Test.YtgchdiocbllppaaDoorRE
import Derived.Deep.RegionHeld3
namespace Go.Proofs.YtgchdiocbllppaaDoor
open Go.RowKit M

theorem conv_any {w : World} {q : Option Addr} {xs : List Int} (h : RowAt w q xs) (c : Nat) : (convert 36 9 (.slice q xs.length c)).run Tryd.prog w = .ok (.string (strOfNums xs)) w := by
  cases xs with
  | nil =>
    cases q with
    | none => exact run_convert_bytes_nil w 36 5 Tryd.underlying36 Tryd.underlying5 _ _ 9 Tryd.underlying9
    | some a =>
      rw [run_convert_bytes_string w 36 9 5 _ _ c Tryd.underlying36 Tryd.underlying5 Tryd.underlying9]
      show (Conv.bytesToString (.slice (some a) 0 c)).run Tryd.prog w = _
      rw [run_bytesToString w a 0 c [] (by simpa using run_loadCells_list (P := Tryd.prog) w a [] (by simp))]
      rfl
  | cons x xs =>
    obtain ⟨b, off, rfl, _, _⟩ := h.cells 0 (by simp)
    refine run_convert_bytes_arg w 36 5 Tryd.underlying36 Tryd.underlying5 b off _ c (x :: xs) rfl (fun i hi => ?_) 9 Tryd.underlying9
    obtain ⟨b', off', e, _, hc⟩ := h.cells i hi
    injection e with e
    injection e with e1 e2
    subst e1 e2
    exact hc
set_option maxHeartbeats 400000 in
theorem rsame_rows (q1 q2 : Option Addr) (c1 c2 : Nat) (xs : List Int) (w : World) (h1 : RowAt w q1 xs) (h2 : RowAt w q2 xs) :
    Calls Tryd.prog 29 #[.slice q1 xs.length c1, .slice q2 xs.length c2] w fun e w' => e = .returned (.bool true) ∧ w = w' := by
  have e1 := conv_any h1 c1
  have e2 := conv_any h2 c2
  generalize strOfNums xs = S at e1 e2
  generalize xs.length = N at e1 e2
  clear h1 h2
  go_enter Tryd.func29, Tryd.ntmps29
  go_wp2
  go_ret
  exact ⟨by simp, rfl⟩
set_option maxRecDepth 100000 in
set_option maxHeartbeats 1000000 in
theorem rsame_mem (m1 m2 : Option Addr) (c1 c2 : Nat) (Q1 Q2 : Nat → Option Addr) (C1 C2 : Nat → Nat) (M : List (List Int)) (w : World) (h1 : MemAt w m1 Q1 C1 M) (h2 : MemAt w m2 Q2 C2 M) :
    Calls Tryd.prog 17 #[.slice m1 M.length c1, .slice m2 M.length c2] w fun e w' => e = .returned (.bool true) ∧ Below w.heap.size w w' := by
  have H1 := Lib.hid h1
  have H2 := Lib.hid h2
  have hs := h1.small
  obtain ⟨K, hK⟩ : ∃ K, M.length = K := ⟨_, rfl⟩
  rw [hK] at hs ⊢
  have HK := Lib.hid hK
  have t0 : ((K : Int) != K) = false := by simp
  clear h1 h2 hK
  go_enter Tryd.func17, Tryd.ntmps17
  go_wp2
  go_loopw [5] (fun i wr => ∃ k : Nat, k ≤ K ∧ i = .int .i64 k ∧ Hid (Below w.heap.size w wr)) (fun i _ => K - (intOf i).toNat)
  case atStart => exact ⟨0, Nat.zero_le _, rfl, Below.refl _ _⟩
  case round =>
    obtain ⟨k, hk, rfl, HB⟩ := hrel
    by_cases hlt : k < K
    · obtain ⟨b1, o1, rfl, _, g1, _, _⟩ := (H1.out.below HB.out).cells k (by rw [HK.out]; exact hlt)
      obtain ⟨b2, o2, rfl, _, g2, _, _⟩ := (H2.out.below HB.out).cells k (by rw [HK.out]; exact hlt)
      have r1 := Lib.hid ((H1.out.below HB.out).row (i := k) (by rw [HK.out]; exact hlt))
      have r2 := Lib.hid ((H2.out.below HB.out).row (i := k) (by rw [HK.out]; exact hlt))
      generalize Q1 k = q1 at g1 r1
      generalize Q2 k = q2 at g2 r2
      generalize C1 k = d1 at g1
      generalize C2 k = d2 at g2
      obtain ⟨R, hR⟩ : ∃ R, M.getD k [] = R := ⟨_, rfl⟩
      rw [hR] at g1 g2 r1 r2
      have HSM := Lib.hid (rsame_rows q1 q2 d1 d2 R)
      obtain ⟨L, hL⟩ : ∃ L, R.length = L := ⟨_, rfl⟩
      rw [hL] at g1 g2 HSM
      clear hR hL
      go_wp2_with fail
      go_region_held3 (fun W => W.cell? ⟨b1, o1 + k, none⟩ = some (.slice q1 L d1) ∧ W.cell? ⟨b2, o2 + k, none⟩ = some (.slice q2 L d2)) (go_keep)
        (first | (go_at_call 29; refine (HSM.out _ (r1.out.below (Below.refl _ _).drew) (r2.out.below (Below.refl _ _).drew)).mono ?_; rintro e w5 ⟨rfl, rfl⟩))
      go_wp2
      go_roundw
      case rel => exact ⟨k + 1, by omega, by go_num, HB.out.drew⟩
      case measure => simp [intOf]; omega
    · go_wp2
      go_ret
      exact ⟨rfl, HB.out⟩
end Go.Proofs.YtgchdiocbllppaaDoor
