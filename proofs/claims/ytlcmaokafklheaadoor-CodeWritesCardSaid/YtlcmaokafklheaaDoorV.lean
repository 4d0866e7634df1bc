/- What bytes decode to, whatever they are, on both sides; CodeReads. -/
import Derived.Test.YtlcmaokafklheaaDoorLH
import Derived.Test.YtlcmaokafklheaaDoorRD
namespace Go.Proofs.YtlcmaokafklheaaDoor
open Go.RowKit M

/-- the instructions and the error's number -/
def decS (xs : List Int) : List In × Int :=
  if xs.length = 0 ∨ xs.length % 8 ≠ 0 then ([], 30) else if 32768 < xs.length then ([], 31) else if okS (slotOf xs) (xs.length / 8) = true then (decL (slotOf xs) (xs.length / 8), 0) else ([], 30)
theorem InsAt.nil (w : World) (q : Option Addr) : InsAt w q [] := ⟨Nat.zero_le _, fun _ h => absurd h (Nat.not_lt_zero _), fun _ h => absurd h (Nat.not_lt_zero _)⟩
def DecR (xs : List Int) (w : World) (e : Ending) (w' : World) : Prop :=
  ∃ p cap, e = .returned (.tuple #[.slice p (decS xs).1.length cap, .int .i64 (decS xs).2]) ∧ InsAt w' p (decS xs).1 ∧ Below w.heap.size w w'
theorem decR_of {xs : List Int} {n : Nat} (hl : xs.length = n * 8) (h1 : 1 ≤ n) (h2 : n ≤ 4096) {w : World} {e : Ending} {w' : World} (h : DecPost (slotOf xs) n w e w') : DecR xs w e w' := by
  have hn : xs.length / 8 = n := by omega
  have hd : decS xs = if okS (slotOf xs) n = true then (decL (slotOf xs) n, 0) else ([], 30) := by
    unfold decS
    rw [if_neg (by omega), if_neg (by omega), hn]
  unfold DecR
  rcases h with ⟨hk, g, cap, he, hb, hI⟩ | ⟨hk, he, hb⟩
  · rw [hd, if_pos hk]
    exact ⟨_, cap, by rw [decL_length]; exact he, hI, hb⟩
  · rw [hd, if_neg (by rw [hk]; simp)]
    exact ⟨none, 0, he, InsAt.nil _ _, hb⟩
theorem decode_any (q : Option Addr) (qc : Nat) (xs : List Int) (w : World) (h : RowAt w q xs) (hc : xs.length ≤ qc) (hE : Env w) :
    Calls Tryd.prog 9 #[.slice q xs.length qc] w (DecR xs w) := by
  by_cases h0 : xs.length = 0 ∨ xs.length % 8 ≠ 0
  · refine (dec_none q qc xs.length w h.small h0 hE.err).mono fun e w' ⟨he, hb⟩ => ?_
    have hd : decS xs = ([], 30) := by unfold decS; rw [if_pos h0]
    unfold DecR
    rw [hd]
    exact ⟨none, 0, he, InsAt.nil _ _, hb⟩
  · by_cases h1 : 32768 < xs.length
    · refine (dec_long q qc xs.length w h.small (by omega) h1 hE.err).mono fun e w' ⟨he, hb⟩ => ?_
      have hd : decS xs = ([], 31) := by unfold decS; rw [if_neg h0, if_pos h1]
      unfold DecR
      rw [hd]
      exact ⟨none, 0, he, InsAt.nil _ _, hb⟩
    · obtain ⟨n, hn⟩ : ∃ n, xs.length = n * 8 := ⟨xs.length / 8, by omega⟩
      obtain ⟨b, off, rfl, _⟩ := h.cells 0 (by omega)
      rw [hn]
      exact (dec_any b off qc n xs w hn (by omega) (by omega) (by omega) hE.rows hE.err h).mono fun e w' hp => decR_of hn (by omega) (by omega) hp
theorem rdecode_any (q : Option Addr) (qc : Nat) (xs : List Int) (w : World) (h : RowAt w q xs) (hc : xs.length ≤ qc) :
    Calls Tryd.prog 10 #[.slice q xs.length qc] w (DecR xs w) := by
  by_cases h0 : xs.length = 0 ∨ xs.length % 8 ≠ 0
  · refine (rdec_none q qc xs.length w h.small h0).mono fun e w' ⟨he, hb⟩ => ?_
    have hd : decS xs = ([], 30) := by unfold decS; rw [if_pos h0]
    unfold DecR
    rw [hd]
    exact ⟨none, 0, he, InsAt.nil _ _, hb ▸ Below.refl _ _⟩
  · by_cases h1 : 32768 < xs.length
    · refine (rdec_long q qc xs.length w h.small (by omega) h1).mono fun e w' ⟨he, hb⟩ => ?_
      have hd : decS xs = ([], 31) := by unfold decS; rw [if_neg h0, if_pos h1]
      unfold DecR
      rw [hd]
      exact ⟨none, 0, he, InsAt.nil _ _, hb ▸ Below.refl _ _⟩
    · obtain ⟨n, hn⟩ : ∃ n, xs.length = n * 8 := ⟨xs.length / 8, by omega⟩
      obtain ⟨b, off, rfl, _⟩ := h.cells 0 (by omega)
      exact (rdec_any b off qc n xs w hn (by omega) (by omega) (by omega) h).mono fun e w' hp => decR_of hn (by omega) (by omega) hp
set_option maxHeartbeats 2000000 in
theorem reads_any (q : Option Addr) (qc : Nat) (xs : List Int) (w : World) (h : RowAt w q xs) (hc : xs.length ≤ qc) (hE : Env w) :
    Calls Tryd.prog 3 #[.slice q xs.length qc] w fun e w' => e = .returned (.bool true) ∧ Below w.heap.size w w' := by
  have H1 := Lib.hid (fun W hW hE => decode_any q qc xs W hW hc hE)
  have H2 := Lib.hid (fun W hW => rdecode_any q qc xs W hW hc)
  have H := Lib.hid h
  have E0 := Lib.hid hE
  unfold DecR at H1 H2
  generalize decS xs = D at *
  obtain ⟨l, c⟩ := D
  have HS := Lib.hid (fun p q c d W h1 h2 => same_eq p q c d l W h1 h2)
  generalize l.length = L at *
  generalize xs.length = N at *
  clear h hE hc
  go_enter Tryd.func3, Tryd.ntmps3
  go_wp2_with (first
    | (go_at_call 9; refine (H1.out _ H.out E0.out).mono ?_; rintro e w1 ⟨p1, c1, rfl, hI1, hb1⟩; have B1 := Lib.hid hb1; have I1 := Lib.hid hI1; clear hb1 hI1)
    | (go_at_call 10; refine (H2.out _ (H.out.below B1.out)).mono ?_; rintro e w2 ⟨p2, c2, rfl, hI2, hb2⟩; have B2 := Lib.hid (below_next B1.out hb2); have J1 := Lib.hid (I1.out.below hb2); have J2 := Lib.hid hI2; clear hb2 hI2)
    | (go_at_call 11; refine (HS.out _ _ _ _ _ J1.out J2.out).mono ?_; rintro e w3 ⟨rfl, hb3⟩; have B3 := Lib.hid (below_next B2.out hb3); clear hb3)
    | (go_at_call 12; refine (heads_any _ (E0.out.below B3.out)).mono ?_; rintro e w4 ⟨rfl, hb4⟩; have B4 := Lib.hid (below_next B3.out hb4); clear hb4))
  go_ret
  exact ⟨rfl, B4.out⟩
end Go.Proofs.YtlcmaokafklheaaDoor
