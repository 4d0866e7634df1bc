/- Contracts of may and Check. -/
import Derived.Test.YtlpijnnlmgoihaaMS
namespace Go.Proofs.Ytlpijnnlmgoihaa
open Go.RowKit M

theorem all_no {f : Int → Bool} {xs : List Int} {i : Nat} (hi : i < xs.length) (h : f (xs.getD i 0) = false) : xs.all f = false := by
  cases hz : xs.all f
  · rfl
  · rw [List.all_eq_true] at hz
    have := hz (xs.getD i 0) (by simp [hi])
    rw [h] at this
    cases this
theorem all_yes {f : Int → Bool} {xs : List Int} (h : ∀ i, i < xs.length → f (xs.getD i 0) = true) : xs.all f = true := by
  rw [List.all_eq_true]
  intro x hx
  obtain ⟨i, hi, rfl⟩ := List.getElem_of_mem hx
  have := h i hi
  simpa [hi] using this
theorem ins_v (x : In) (hx : Bd x) (w : World) : Calls Try.prog 42 #[.agg #[.int .i64 x.op, .int .i64 x.dst, .int .i64 x.src, .int .i64 x.off, .int .i64 x.imm, .int .u64 x.wide]] w fun e w' => e = .returned (.bool (insB x)) ∧ Below w.heap.size w w' := ins_any x hx w
set_option maxRecDepth 100000 in
set_option maxHeartbeats 4000000 in
theorem may_any (q : Option Addr) (qc : Nat) (l : List In) (k : Nat) (w : World) (h : InsAt w q l) (hk : k < l.length) :
    Calls Try.prog 33 #[.slice q l.length qc, .int .i64 k] w fun e w' => e = .returned (.bool (mayB l k)) ∧ Below w.heap.size w w' := by
  have hs := h.small
  obtain ⟨b, o, rfl, hbl, d0, d1, d2, d3, d4, d5⟩ := h.cells k hk
  have HI := Lib.hid (fun W => ins_v (l.getD k z) (h.bd k hk) W)
  have H := Lib.hid h
  unfold mayB
  cases hi : insB (l.getD k z)
  · rw [Bool.false_and, Bool.false_and]
    rw [hi] at HI
    generalize l.getD k z = X at *
    generalize l.length = N at *
    clear h hi
    go_enter Try.func33, Try.ntmps33
    go_wp2_with (go_at_call 42; refine (HI.out _).mono ?_; rintro e w1 ⟨rfl, hb⟩; have B := Lib.hid hb; clear hb)
    go_ret
    exact ⟨rfl, B.out⟩
  rw [Bool.true_and]
  rw [hi] at HI
  cases hw : wideOk l k
  · rw [Bool.false_and]
    have hop : ((l.getD k z).op == 24) = true ∧ blankB l ((k : Int) + 1) = false := by
      unfold wideOk at hw
      simpa using hw
    obtain ⟨g24, hbk⟩ := hop
    have HB := Lib.hid (fun W hW => blank_any (some ⟨b, o, none⟩) qc l (k + 1) W hW)
    rw [show ((k + 1 : Nat) : Int) = (k : Int) + 1 by omega, hbk] at HB
    generalize l.getD k z = X at *
    generalize l.length = N at *
    clear h hi hw hbk
    go_enter Try.func33, Try.ntmps33
    go_wp2_with (first
      | (go_at_call 42; refine (HI.out _).mono ?_; rintro e w1 ⟨rfl, hb⟩; have B := Lib.hid hb; obtain ⟨hc, hf⟩ := bcell hb; clear hb)
      | (go_at_call 43; refine (HB.out _ (H.out.below B.out)).mono ?_; rintro e w2 ⟨rfl, rfl⟩))
    go_ret
    exact ⟨rfl, B.out⟩
  rw [Bool.true_and]
  have HS := Lib.hid (fun W hW => succ_any (some ⟨b, o, none⟩) qc l (k : Int) W hW)
  have HP := Lib.hid (fun i W hW => place_any (some ⟨b, o, none⟩) qc l i W hW)
  have HY := Lib.hid (fun h => all_yes (f := placeB l) (xs := succL l (k : Int)) h)
  have HN := Lib.hid (fun i hi h => all_no (f := placeB l) (xs := succL l (k : Int)) (i := i) hi h)
  have h2 := succL_le l (k : Int)
  unfold SuccP at HS
  generalize hxs : succL l (k : Int) = xs at *
  clear hxs
  generalize xs.all (placeB l) = v at *
  have HB := Lib.hid (fun W hW => blank_any (some ⟨b, o, none⟩) qc l (k + 1) W hW)
  rw [show ((k + 1 : Nat) : Int) = (k : Int) + 1 by omega] at HB
  have hcase : ((l.getD k z).op == 24) = false ∨ (((l.getD k z).op == 24) = true ∧ blankB l ((k : Int) + 1) = true) := by
    unfold wideOk at hw
    cases hq : (l.getD k z).op == 24
    · exact .inl rfl
    · rw [hq] at hw
      exact .inr ⟨rfl, by simpa using hw⟩
  generalize l.getD k z = X at *
  generalize blankB l ((k : Int) + 1) = bb at *
  obtain ⟨M, hM⟩ : ∃ M, xs.length = M := ⟨_, rfl⟩
  rw [hM] at HS HY HN h2
  have HM := Lib.hid hM
  generalize hN : l.length = N at *
  clear h hi hw hN hM
  rcases hcase with g24 | ⟨g24, rfl⟩
  all_goals
    go_enter Try.func33, Try.ntmps33
    go_wp2_with (first
      | (go_at_call 42; refine (HI.out _).mono ?_; rintro e w1 ⟨rfl, hb⟩; have B := Lib.hid hb; obtain ⟨hc, hf⟩ := bcell hb; clear hb)
      | (go_at_call 43; refine (HB.out _ (H.out.below B.out)).mono ?_; rintro e w2 ⟨rfl, rfl⟩)
      | (go_at_call 36; refine (HS.out _ (H.out.below B.out)).mono ?_; rintro e w3 ⟨p, cap, rfl, hn, hb⟩; have B3 := Lib.hid (below_next B.out hb); have N3 := Lib.hid hn; clear hb hn hc hf))
    go_loop [32] (fun i => ∃ m : Nat, m ≤ M ∧ i = .int .i64 m ∧ Hid (∀ j, j < m → placeB l (xs.getD j 0) = true)) (fun i => M - (intOf i).toNat)
    case atStart => exact ⟨0, Nat.zero_le _, rfl, Lib.hid (fun j hj => absurd hj (Nat.not_lt_zero _))⟩
    case round =>
      obtain ⟨m, hm, rfl, hx⟩ := hrel
      by_cases hlt : m < M
      · obtain ⟨bk, off, rfl, hbl2, c0⟩ := N3.out.cells m (by rw [HM.out]; exact hlt)
        have HP2 := Lib.hid (fun W hW => HP.out (xs.getD m 0) W hW)
        have HV := Lib.hid (fun h => HN.out m hlt h)
        have HX2 := Lib.hid (fun (hv : placeB l (xs.getD m 0) = true) j (hj : j < m + 1) => (show placeB l (xs.getD j 0) = true by
          by_cases e : j = m
          · rw [e]; exact hv
          · exact hx.out j (by omega)))
        generalize xs.getD m 0 = Y at c0 HP2 HV HX2
        cases hv : placeB l Y
        · have HVV := Lib.hid (HV.out hv)
          rw [hv] at HP2
          clear hv
          go_wp2_with (go_at_call 44; refine (HP2.out _ (H.out.below B3.out)).mono ?_; rintro e w4 ⟨rfl, rfl⟩)
          go_ret
          exact ⟨by rw [HVV.out]; rfl, B3.out⟩
        · have HVV := Lib.hid (HX2.out hv)
          rw [hv] at HP2
          clear hv
          go_wp2_with (go_at_call 44; refine (HP2.out _ (H.out.below B3.out)).mono ?_; rintro e w4 ⟨rfl, rfl⟩)
          go_round
          case rel => exact ⟨m + 1, by omega, by go_num, HVV⟩
          case measure => simp [intOf]; omega
      · have hmM : m = M := by omega
        subst hmM
        have HV := Lib.hid (HY.out hx.out)
        go_wp2
        go_ret
        exact ⟨by rw [HV.out]; rfl, B3.out⟩
end Go.Proofs.Ytlpijnnlmgoihaa
