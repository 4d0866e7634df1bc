/- CodeHoles: a hole is never one behind another hole, nor the first, and always a zero; no condition. -/
import Derived.Test.YtlcmaokafklheaaDoorV
namespace Go.Proofs.YtlcmaokafklheaaDoor
open Go.RowKit M

/-- holes stand where they should -/
structure GoodL (l : List In) : Prop where
  yes : ∀ i : Nat, i < l.length → holeB l i = true → ∃ j, i = j + 1 ∧ l.getD i z = z ∧ (l.getD j z).op = 24 ∧ holeB l j = false
  no : ∀ i : Nat, i < l.length → holeB l i = false → (l.getD i z).op = 24 → i + 1 < l.length ∧ holeB l ((i : Int) + 1) = true
theorem holeB_dec {S : Nat → In} {n i : Nat} (hi : i < n) : holeB (decL S n) i = hR (opsOf S) i := by
  unfold holeB
  rw [decL_length, decide_eq_true ⟨by omega, by omega⟩, Bool.true_and, Int.toNat_natCast, ← dec_holes]
  refine hR_congr fun j hj => ?_
  unfold opL opsOf
  rw [decL_getD S (by omega)]
theorem good_nil : GoodL [] := ⟨fun _ hi => absurd hi (Nat.not_lt_zero _), fun _ hi => absurd hi (Nat.not_lt_zero _)⟩
theorem good_dec {S : Nat → In} {n : Nat} (h : okS S n = true) : GoodL (decL S n) := by
  have hk := okS_true.1 h
  refine ⟨fun i hi hh => ?_, fun i hi hh hop => ?_⟩
  · rw [decL_length] at hi
    rw [holeB_dec hi] at hh
    match i, hi, hh with
    | j + 1, hi, hh =>
      obtain ⟨h1, h2⟩ := hR_of hh
      refine ⟨j, rfl, ?_, ?_, ?_⟩
      · rw [decL_getD S hi]; unfold dec; rw [if_pos hh]
      · rw [decL_getD S (by omega), dec_op, h2, if_neg (by simp)]; exact h1
      · rw [holeB_dec (by omega)]; exact h2
  · rw [decL_length] at hi ⊢
    rw [holeB_dec hi] at hh
    rw [decL_getD S hi, dec_op, hh, if_neg (by simp)] at hop
    have hb := hk i hi
    unfold badB at hb
    have hop' : (S i).op = 24 := hop
    rw [hh, decide_eq_true hop'] at hb
    simp at hb
    refine ⟨hb.1, ?_⟩
    have := holeB_dec (S := S) (n := n) (i := i + 1) hb.1
    rw [Int.natCast_add] at this
    rw [show ((i : Int) + 1) = (i : Int) + ((1 : Nat) : Int) from rfl, this, hR_succ, hh]
    simp [hop]
theorem good_decS (xs : List Int) : GoodL (decS xs).1 := by
  unfold decS
  split
  · exact good_nil
  · split
    · exact good_nil
    · split
      · rename_i h; exact good_dec h
      · exact good_nil
set_option maxRecDepth 100000 in
set_option maxHeartbeats 8000000 in
theorem holes_any (q : Option Addr) (qc : Nat) (xs : List Int) (w : World) (h : RowAt w q xs) (hc : xs.length ≤ qc) (hE : Env w) :
    Calls Tryd.prog 8 #[.slice q xs.length qc] w fun e w' => e = .returned (.bool true) ∧ Below w.heap.size w w' := by
  have H1 := Lib.hid (fun W hW hE => decode_any q qc xs W hW hc hE)
  have H := Lib.hid h
  have E0 := Lib.hid hE
  have hG := good_decS xs
  unfold DecR at H1
  generalize decS xs = D at *
  obtain ⟨l, c⟩ := D
  have HG := Lib.hid (show GoodL l from hG)
  generalize xs.length = N at *
  clear h hE hc hG
  by_cases hc0 : c = 0
  · subst hc0
    go_enter Tryd.func8, Tryd.ntmps8
    go_wp2_with (go_at_call 9; refine (H1.out _ H.out E0.out).mono ?_; rintro e w1 ⟨p1, c1, rfl, hI1, hb1⟩; have B1 := Lib.hid hb1; have I1 := Lib.hid hI1; clear hb1 hI1)
    have HA := Lib.hid (fun i => hole_any p1 c1 l i w1 I1.out)
    have hs := I1.out.small
    obtain ⟨L, hL⟩ : ∃ L, l.length = L := ⟨_, rfl⟩
    rw [hL] at HA hs ⊢
    have HL := Lib.hid hL
    clear hL
    go_loop [5] (fun i => ∃ k : Nat, k ≤ L ∧ i = .int .i64 k) (fun i => L - (intOf i).toNat)
    case atStart => exact ⟨0, Nat.zero_le _, rfl⟩
    case round =>
      obtain ⟨k, hk, rfl⟩ := hrel
      by_cases hlt : k < L
      · have HAk := HA.out k
        obtain ⟨b, o, rfl, hbl, d0, d1, d2, d3, d4, d5⟩ := I1.out.cells k (by rw [HL.out]; exact hlt)
        cases hh : holeB l k
        · rw [hh] at HAk
          have HK := Lib.hid HAk
          by_cases hop : (l.getD k z).op = 24
          · obtain ⟨hk1, hh1⟩ := HG.out.no k (by rw [HL.out]; exact hlt) hh hop
            rw [HL.out] at hk1
            have HAn := HA.out ((k : Int) + 1)
            rw [hh1] at HAn
            have HN := Lib.hid HAn
            rw [hop] at d0
            clear hh hh1 hop HAk HAn d1 d2 d3 d4 d5
            have tok1 : True := trivial
            go_wp2_with (first
              | (go_at_call 16; have _t := tok1; refine HK.out.mono ?_; rintro e w3 ⟨rfl, rfl⟩; clear tok1)
              | (go_at_call 16; refine HN.out.mono ?_; rintro e w3 ⟨rfl, rfl⟩))
            go_round
            case rel => exact ⟨k + 1, by omega, by go_num⟩
            case measure => simp [intOf]; omega
          · have hne : ((l.getD k z).op == 24) = false := by simpa using hop
            generalize (l.getD k z).op = y at *
            clear hh HAk hop d1 d2 d3 d4 d5
            go_wp2_with (first
              | (go_at_call 16; refine HK.out.mono ?_; rintro e w3 ⟨rfl, rfl⟩))
            go_round
            case rel => exact ⟨k + 1, by omega, by go_num⟩
            case measure => simp [intOf]; omega
        · rw [hh] at HAk
          have HK := Lib.hid HAk
          obtain ⟨j, rfl, hz, hop, hhj⟩ := HG.out.yes k (by rw [HL.out]; exact hlt) hh
          obtain ⟨b', o', hq, _, e0, _⟩ := I1.out.cells j (by rw [HL.out]; omega)
          obtain ⟨rfl, rfl⟩ : b = b' ∧ o = o' := by injection hq with hq; injection hq with h1 h2; exact ⟨h1, h2⟩
          rw [hz] at d0 d1 d2 d3 d4 d5
          rw [hop] at e0
          have HAj := HA.out (j : Int)
          rw [hhj] at HAj
          have HJ := Lib.hid HAj
          have NEQ := fun W => neq_r z z W
          rw [show eqB z z = true from rfl] at NEQ
          unfold z at d0 d1 d2 d3 d4 d5 NEQ
          clear hh HAk hz hop hhj HAj hq
          have tok1 : True := trivial
          go_wp2_with (first
            | (go_at_call 16; have _t := tok1; refine HK.out.mono ?_; rintro e w3 ⟨rfl, rfl⟩; clear tok1)
            | (go_at_call 16; refine HJ.out.mono ?_; rintro e w3 ⟨rfl, rfl⟩))
          go_round
          case rel => exact ⟨j + 1 + 1, by omega, by go_num⟩
          case measure => simp [intOf]; omega
      · have hkL : L ≤ k := by omega
        go_wp2_with (go_at_call 12; refine (heads_any _ (E0.out.below B1.out)).mono ?_; rintro e w4 ⟨rfl, hb4⟩; have B4 := Lib.hid (below_next B1.out hb4); clear hb4)
        go_ret
        exact ⟨rfl, B4.out⟩
  · have hne : (c != 0) = true := by simpa using hc0
    clear hc0
    go_enter Tryd.func8, Tryd.ntmps8
    go_wp2_with (first
      | (go_at_call 9; refine (H1.out _ H.out E0.out).mono ?_; rintro e w1 ⟨p1, c1, rfl, hI1, hb1⟩; have B1 := Lib.hid hb1; clear hb1 hI1)
      | (go_at_call 12; refine (heads_any _ (E0.out.below B1.out)).mono ?_; rintro e w4 ⟨rfl, hb4⟩; have B4 := Lib.hid (below_next B1.out hb4); clear hb4))
    go_ret
    exact ⟨rfl, B4.out⟩
end Go.Proofs.YtlcmaokafklheaaDoor
