/- What is written is read as it was, and the other way round; CodeBack, CodeAgain. -/
import Derived.Test.YtlcmaokafklheaaDoorW
import Derived.Test.YtlcmaokafklheaaDoorV
namespace Go.Proofs.YtlcmaokafklheaaDoor
open Go.RowKit M

theorem encS_bad {l : List In} (h : ¬ (encS l).2 = 0) : (encS l).1 = [] := by
  unfold encS at *
  split
  · rfl
  · rename_i h1
    rw [if_neg h1] at h
    split
    · rename_i h2
      rw [if_pos h2] at h
      exact absurd rfl h
    · rfl
theorem encS_le {l : List In} (h : (encS l).2 = 0) : l.length ≤ 4096 := by
  unfold encS at h
  split at h
  · simp at h
  · omega
theorem decS_bad {xs : List Int} (h : ¬ (decS xs).2 = 0) : (decS xs).1 = [] := by
  unfold decS at *
  split
  · rfl
  · rename_i h1
    rw [if_neg h1] at h
    split
    · rfl
    · rename_i h2
      rw [if_neg h2] at h
      split
      · rename_i h3
        rw [if_pos h3] at h
        exact absurd rfl h
      · rfl
set_option maxHeartbeats 2000000 in
theorem back_any (p : Option Addr) (pc : Nat) (l : List In) (w : World) (h : InsAt w p l) (hE : Env w) :
    Calls Tryd.prog 5 #[.slice p l.length pc] w fun e w' => e = .returned (.bool true) ∧ Below w.heap.size w w' := by
  have H1 := Lib.hid (fun W hW hE => encode_any p pc l W hW hE)
  have H := Lib.hid h
  have E0 := Lib.hid hE
  unfold EncR at H1
  by_cases hc : (encS l).2 = 0
  · obtain ⟨bs, hbs⟩ : ∃ bs, encS l = (bs, 0) := ⟨_, Prod.ext rfl hc⟩
    obtain ⟨hd, hlen⟩ := back h.bd hbs
    have hle := encS_le hc
    have H2 := Lib.hid (fun q qc W hW hc hE => decode_any q qc bs W hW hc hE)
    unfold DecR at H2
    rw [hbs] at H1
    rw [hd] at H2
    dsimp only at H1 H2
    have HS := Lib.hid (fun p q c d W h1 h2 => same_eq p q c d l W h1 h2)
    rw [hlen] at H1 H2
    obtain ⟨N, hN⟩ : ∃ N, N = l.length := ⟨_, rfl⟩
    rw [← hN] at H1 H2 HS hle ⊢
    clear h hE hc hbs hd hlen hN
    obtain ⟨M, hM⟩ : ∃ M, M = 8 * N := ⟨_, rfl⟩
    rw [← hM] at H1 H2
    have hw : IntKind.i64.wrap (8 * (N : Int)) = (M : Int) := by rw [IntKind.wrap_i64]; omega
    clear hM
    go_enter Tryd.func5, Tryd.ntmps5
    go_wp2_with (first
      | (go_at_call 13; refine (H1.out _ H.out E0.out).mono ?_; rintro e w1 ⟨p1, c1, rfl, hr1, hc1, hb1⟩; have B1 := Lib.hid hb1; have R1 := Lib.hid hr1; have C1 := Lib.hid hc1; clear hb1 hr1 hc1)
      | (go_at_call 9; refine (H2.out _ _ _ R1.out C1.out (E0.out.below B1.out)).mono ?_; rintro e w2 ⟨p2, c2, rfl, hI2, hb2⟩; have B2 := Lib.hid (below_next B1.out hb2); have J2 := Lib.hid hI2; clear hb2 hI2)
      | (go_at_call 11; refine (HS.out _ _ _ _ _ (H.out.below B2.out) J2.out).mono ?_; rintro e w3 ⟨rfl, hb3⟩; have B3 := Lib.hid (below_next B2.out hb3); clear hb3)
      | (go_at_call 12; refine (heads_any _ (E0.out.below B3.out)).mono ?_; rintro e w4 ⟨rfl, hb4⟩; have B4 := Lib.hid (below_next B3.out hb4); clear hb4))
    go_ret
    exact ⟨rfl, B4.out⟩
  · have he := encS_bad hc
    rw [he] at H1
    generalize (encS l).2 = c at *
    have hne : (c != 0) = true := by simpa using hc
    generalize l.length = N at *
    dsimp only [List.length_nil] at H1
    clear h hE hc he
    go_enter Tryd.func5, Tryd.ntmps5
    go_wp2_with (first
      | (go_at_call 13; refine (H1.out _ H.out E0.out).mono ?_; rintro e w1 ⟨p1, c1, rfl, hr1, hc1, hb1⟩; have B1 := Lib.hid hb1; clear hb1 hr1 hc1)
      | (go_at_call 12; refine (heads_any _ (E0.out.below B1.out)).mono ?_; rintro e w4 ⟨rfl, hb4⟩; have B4 := Lib.hid (below_next B1.out hb4); clear hb4))
    go_ret
    exact ⟨rfl, B4.out⟩
set_option maxHeartbeats 2000000 in
theorem again_any (q : Option Addr) (qc : Nat) (xs : List Int) (w : World) (h : RowAt w q xs) (hq : xs.length ≤ qc) (hE : Env w) :
    Calls Tryd.prog 6 #[.slice q xs.length qc] w fun e w' => e = .returned (.bool true) ∧ Below w.heap.size w w' := by
  have H1 := Lib.hid (fun W hW hE => decode_any q qc xs W hW hq hE)
  have H := Lib.hid h
  have E0 := Lib.hid hE
  unfold DecR at H1
  by_cases hc : (decS xs).2 = 0
  · obtain ⟨l, hl⟩ : ∃ l, decS xs = (l, 0) := ⟨_, Prod.ext rfl hc⟩
    obtain ⟨he, hlen⟩ := again (fun j hj => ⟨(h.byte j hj).1, (h.byte j hj).2⟩) hl
    have hle : l.length ≤ 4096 := encS_le (by rw [he])
    have H2 := Lib.hid (fun p c W hW hE => encode_any p c l W hW hE)
    unfold EncR at H2
    rw [hl] at H1
    rw [he] at H2
    dsimp only at H1 H2
    have HS := Lib.hid (fun p q c d W h1 h2 => rsame_rows p q c d xs W h1 h2)
    rw [← hlen] at H2 HS ⊢
    obtain ⟨N, hN⟩ : ∃ N, N = l.length := ⟨_, rfl⟩
    rw [← hN] at H1 H2 HS hle hlen ⊢
    clear h hE hc hl he hN
    obtain ⟨M, hM⟩ : ∃ M, M = N * 8 := ⟨_, rfl⟩
    rw [← hM] at H2 HS hlen ⊢
    rw [← hlen] at H1
    clear hlen hq
    have hw : IntKind.i64.wrap ((N : Int) * 8) = (M : Int) := by rw [IntKind.wrap_i64]; omega
    clear hM
    go_enter Tryd.func6, Tryd.ntmps6
    go_wp2_with (first
      | (go_at_call 9; refine (H1.out _ H.out E0.out).mono ?_; rintro e w1 ⟨p1, c1, rfl, hI1, hb1⟩; have B1 := Lib.hid hb1; have I1 := Lib.hid hI1; clear hb1 hI1)
      | (go_at_call 13; refine (H2.out _ _ _ I1.out (E0.out.below B1.out)).mono ?_; rintro e w2 ⟨p2, c2, rfl, hr2, hc2, hb2⟩; have B2 := Lib.hid (below_next B1.out hb2); have R2 := Lib.hid hr2; clear hb2 hr2 hc2)
      | (go_at_call 15; refine (HS.out _ _ _ _ _ (H.out.below B2.out) R2.out).mono ?_; rintro e w3 ⟨rfl, rfl⟩)
      | (go_at_call 12; refine (heads_any _ (E0.out.below B2.out)).mono ?_; rintro e w4 ⟨rfl, hb4⟩; have B4 := Lib.hid (below_next B2.out hb4); clear hb4))
    go_ret
    exact ⟨rfl, B4.out⟩
  · have he := decS_bad hc
    rw [he] at H1
    generalize (decS xs).2 = c at *
    have hne : (c != 0) = true := by simpa using hc
    generalize xs.length = N at *
    dsimp only [List.length_nil] at H1
    clear h hE hc he hq
    go_enter Tryd.func6, Tryd.ntmps6
    go_wp2_with (first
      | (go_at_call 9; refine (H1.out _ H.out E0.out).mono ?_; rintro e w1 ⟨p1, c1, rfl, hI1, hb1⟩; have B1 := Lib.hid hb1; clear hb1 hI1)
      | (go_at_call 12; refine (heads_any _ (E0.out.below B1.out)).mono ?_; rintro e w4 ⟨rfl, hb4⟩; have B4 := Lib.hid (below_next B1.out hb4); clear hb4))
    go_ret
    exact ⟨rfl, B4.out⟩
end Go.Proofs.YtlcmaokafklheaaDoor
