/- Dominance: the law on the row of dominators. -/
import Derived.Test.YtgaacdnljkildaaDP
namespace Go.Proofs.Ytgaacdnljkildaa
open Go.RowKit
open Dm

/-- what the law holds -/
structure Dw (w W : World) (q : Option Addr) (g : List (List Int)) (p : Option Addr) (O : List Int) : Prop where
  low : Below w.heap.size w W
  gs : GsAt W q g
  up : NumsAt .i64 W p O
theorem Dw.next {w W W' : World} {q : Option Addr} {g : List (List Int)} {p : Option Addr} {O : List Int} (h : Dw w W q g p O) (hb : Below W.heap.size W W') : Dw w W' q g p O :=
  ⟨h.low.trans (hb.mono h.low.size), h.gs.below hb, h.up.below hb⟩
/-- what the climb says at its end -/
theorem climb_val {g : List (List Int)} {i j n : Nat} {inn : Bool} (h : (gL g).Climb j i inn (-1) n) (hj : j < g.length) : domB g (i : Int) (j : Int) = (inn && (reachB g).getD j false) := by
  rw [Bool.eq_iff_iff, domB_iff, Bool.and_eq_true, reachB_at hj]
  constructor
  · intro hd
    exact ⟨(h.done hd.2.1).1 hd, hd.2.1⟩
  · rintro ⟨h1, h2⟩
    exact (h.done h2).2 h1
set_option maxRecDepth 100000 in
set_option maxHeartbeats 4000000 in
theorem row_in (q : Option Addr) (qc : Nat) (g : List (List Int)) (i j : Nat) (w : World) (h : GsAt w q g) (hT : tot g ≤ 1048576) (hWd : Wd g) (hN : g.length ≤ 60) (hi : i < g.length) (hj : j < g.length) : Calls Try.prog 6 #[.slice q g.length qc, .int .i64 (i : Int), .int .i64 (j : Int)] w fun e w' => e = .returned (.bool true) ∧ Below w.heap.size w w' := by
  have HSM := Lib.hid (fun W => small_any q qc g.length W)
  have H1 := Lib.hid (fun W hW => sidom_any q qc g W hW hN hT hWd)
  have H2 := Lib.hid (fun W hW => sreach_any q qc g W hW hN hT)
  have H3 := Lib.hid (fun W hW => sdom_any q qc g (i : Int) (j : Int) W hW hN hT (lit_wf (by omega) (by omega)))
  clear hWd
  unfold NumsQ at H1
  unfold BlsQ at H2
  have HC0 : Hid ((gL g).Climb j i false (j : Int) 0) := Lib.hid (Dg.Climb.start hj)
  have HCS : Hid (∀ inn y n, (gL g).Climb j i inn ((y : Nat) : Int) n → y < g.length → (n = 0 → y = j) → (gL g).Climb j i (inn || decide (y = i)) ((idomL g).getD y 0) (n + 1)) := Lib.hid (fun inn y n hc hy h0 => by
    rw [idomL_at hy]
    exact hc.step (upv_up _ _) (fun c => upv_no c) h0)
  have HCT : Hid (∀ inn x n, (gL g).Climb j i inn x n → x = -1 ∨ ∃ y : Nat, x = (y : Int) ∧ y < g.length) := Lib.hid (fun inn x n hc => by
    rcases hc.to with e | ⟨y, e, hy, _⟩
    · exact .inl e
    · exact .inr ⟨y, e, hy⟩)
  have HCE : Hid (∀ inn x n, (gL g).Climb j i inn x n → g.length < n → x = -1) := Lib.hid (fun inn x n hc hn => hc.ends hn)
  have HCV : Hid (∀ inn n, (gL g).Climb j i inn (-1) n → domB g (i : Int) (j : Int) = (inn && (reachB g).getD j false)) := Lib.hid (fun inn n hc => climb_val hc hj)
  have HLN := Lib.hid (idomL_len g)
  have HRL := Lib.hid (reachB_len g)
  have HG := Lib.hid h
  rw [decide_eq_true hN] at HSM
  rw [HLN.out] at H1
  rw [HRL.out] at H2
  generalize domB g (i : Int) (j : Int) = v at *
  generalize hCL : (gL g).Climb j i = CL at *
  generalize idomL g = O at *
  generalize reachB g = RB at *
  obtain ⟨N, hNl⟩ : ∃ N, g.length = N := ⟨_, rfl⟩
  rw [hNl] at hN hi hj HSM H1 H2 H3 HCS HCT HCE HLN HRL ⊢
  have g0 : decide ((i : Int) < 0) = false := by simp
  have g1 : decide ((j : Int) < 0) = false := by simp
  have g2 : decide (N ≤ i) = false := by simp; omega
  have g3 : decide (N ≤ j) = false := by simp; omega
  clear h hNl hCL
  go_enter Try.func6, Try.ntmps6
  go_wp2_with (first
    | (go_at_call 8; (with_reducible refine (HSM.out _).mono ?_); rintro e w1 ⟨rfl, rfl⟩)
    | (go_at_call 16; (with_reducible refine (H1.out _ HG.out).mono ?_); rintro e w2 ⟨p, c, rfl, h1, hb⟩; have HN := Lib.hid (Dw.mk hb (HG.out.below hb) h1); clear hb h1))
  go_loop [8, 9, 10] (fun s t u => ∃ (n : Nat) (x : Int) (inn : Bool), n ≤ N + 1 ∧ u = .int .i64 (n : Int) ∧ t = .int .i64 x ∧ s = .bool inn ∧ Hid (CL inn x n) ∧ Hid (n = 0 → x = (j : Int))) (fun _ _ u => N + 1 - (intOf u).toNat)
  case atStart => exact ⟨0, (j : Int), false, Nat.zero_le _, rfl, rfl, rfl, HC0, Lib.hid (fun _ => rfl)⟩
  case round =>
    obtain ⟨n, x, inn, hn, rfl, rfl, rfl, HC, H0⟩ := hrel
    by_cases hx : 0 ≤ x
    · obtain ⟨y, rfl, hy⟩ : ∃ y : Nat, x = (y : Int) ∧ y < N := by
        rcases HCT.out _ _ _ HC.out with e | e
        · omega
        · exact e
      have hnN : n ≤ N := by
        by_cases c : N < n
        · have := HCE.out _ _ _ HC.out c; omega
        · omega
      obtain ⟨b5, o5, rfl, hl5, e5⟩ := HN.out.up.cells y (by rw [HLN.out]; exact hy)
      have HS := Lib.hid (HCS.out inn y n HC.out hy (fun c => by have := H0.out c; omega))
      generalize O.getD y 0 = z at *
      cases inn with
      | true =>
        go_wp2_with fail
        go_round
        case rel => exact ⟨n + 1, z, true, by omega, rfl, rfl, rfl, by simpa using HS, Lib.hid (fun c => by omega)⟩
        case measure => simp [intOf]; omega
      | false =>
        by_cases hyi : y = i
        · have hb : ((y : Int) == (i : Int)) = true := by simp [hyi]
          have HS2 : Hid (CL true z (n + 1)) := Lib.hid (by have := HS.out; rwa [show (false || decide (y = i)) = true by simp [hyi]] at this)
          clear hyi HS
          go_wp2_with fail
          go_round
          case rel => exact ⟨n + 1, z, true, by omega, rfl, rfl, rfl, HS2, Lib.hid (fun c => by omega)⟩
          case measure => simp [intOf]; omega
        · have hb : ((y : Int) == (i : Int)) = false := by simp; omega
          have HS2 : Hid (CL false z (n + 1)) := Lib.hid (by have := HS.out; rwa [show (false || decide (y = i)) = false by simp [hyi]] at this)
          clear hyi HS
          go_wp2_with fail
          go_round
          case rel => exact ⟨n + 1, z, false, by omega, rfl, rfl, rfl, HS2, Lib.hid (fun c => by omega)⟩
          case measure => simp [intOf]; omega
    · obtain rfl : x = -1 := by
        rcases HCT.out _ _ _ HC.out with e | ⟨y, e, _⟩
        · exact e
        · omega
      have HV := Lib.hid (HCV.out inn n HC.out)
      clear HC H0 HCS HCT HCE HCV HC0
      obtain ⟨rj, hrj⟩ : ∃ r, RB.getD j false = r := ⟨_, rfl⟩
      rw [HV.out, hrj] at H3
      have HRJ := Lib.hid hrj
      clear HV hrj v
      by_cases hnN : n ≤ N
      all_goals cases inn <;> cases rj
      all_goals
        simp only [Bool.and_true, Bool.and_false, Bool.and_self] at H3
        go_wp2_with (first
          | (go_at_call 10; (with_reducible refine (H2.out _ HN.out.gs).mono ?_); rintro e w3 ⟨pr, cr, rfl, h2, hb⟩; have HB3 := Lib.hid h2; have H' := Lib.hid (HN.out.next hb); clear hb h2 HN; have HN := H'; clear H')
          | (go_at_call 11; (with_reducible refine (H3.out _ HN.out.gs).mono ?_); rintro e w4 ⟨rfl, hb⟩; obtain ⟨b6, o6, rfl, hl6, e6⟩ := (HB3.out.below hb).cells j (by rw [HRL.out]; exact hj); rw [HRJ.out] at e6; have H' := Lib.hid (HN.out.next hb); clear hb HN; have HN := H'; clear H')
          | (go_at_call 9; (with_reducible refine (heads15_any _).mono ?_); rintro e w7 ⟨rfl, hb⟩; have H' := Lib.hid (HN.out.next hb); clear hb HN; have HN := H'; clear H'))
        go_ret
        exact ⟨rfl, HN.out.low⟩
set_option maxRecDepth 100000 in
set_option maxHeartbeats 2000000 in
theorem row_law (q : Option Addr) (qc : Nat) (g : List (List Int)) (a b : Int) (w : World) (h : GsAt w q g) (hT : tot g ≤ 1048576) (hWd : Wd g) : Calls Try.prog 6 #[.slice q g.length qc, .int .i64 a, .int .i64 b] w fun e w' => e = .returned (.bool true) ∧ Below w.heap.size w w' := by
  have HSM := Lib.hid (fun W => small_any q qc g.length W)
  by_cases hN : g.length ≤ 60
  · rw [decide_eq_true hN] at HSM
    by_cases a0 : 0 ≤ a
    · by_cases b0 : 0 ≤ b
      · by_cases aN : a < (g.length : Int)
        · by_cases bN : b < (g.length : Int)
          · obtain ⟨i, rfl⟩ : ∃ i : Nat, a = (i : Int) := ⟨a.toNat, by omega⟩
            obtain ⟨j, rfl⟩ : ∃ j : Nat, b = (j : Int) := ⟨b.toNat, by omega⟩
            exact row_in q qc g i j w h hT hWd hN (by omega) (by omega)
          · clear hT hWd
            generalize g.length = N at *
            clear h
            go_enter Try.func6, Try.ntmps6
            go_wp2_with (first
              | (go_at_call 8; (with_reducible refine (HSM.out _).mono ?_); rintro e w1 ⟨rfl, rfl⟩)
              | (go_at_call 9; (with_reducible refine (heads15_any _).mono ?_); rintro e w7 ⟨rfl, hb⟩; have B1 := Lib.hid hb; clear hb))
            go_ret
            exact ⟨rfl, B1.out⟩
        · clear hT hWd
          generalize g.length = N at *
          clear h
          go_enter Try.func6, Try.ntmps6
          go_wp2_with (first
            | (go_at_call 8; (with_reducible refine (HSM.out _).mono ?_); rintro e w1 ⟨rfl, rfl⟩)
            | (go_at_call 9; (with_reducible refine (heads15_any _).mono ?_); rintro e w7 ⟨rfl, hb⟩; have B1 := Lib.hid hb; clear hb))
          go_ret
          exact ⟨rfl, B1.out⟩
      · clear hT hWd
        generalize g.length = N at *
        clear h
        go_enter Try.func6, Try.ntmps6
        go_wp2_with (first
          | (go_at_call 8; (with_reducible refine (HSM.out _).mono ?_); rintro e w1 ⟨rfl, rfl⟩)
          | (go_at_call 9; (with_reducible refine (heads15_any _).mono ?_); rintro e w7 ⟨rfl, hb⟩; have B1 := Lib.hid hb; clear hb))
        go_ret
        exact ⟨rfl, B1.out⟩
    · clear hT hWd
      generalize g.length = N at *
      clear h
      go_enter Try.func6, Try.ntmps6
      go_wp2_with (first
        | (go_at_call 8; (with_reducible refine (HSM.out _).mono ?_); rintro e w1 ⟨rfl, rfl⟩)
        | (go_at_call 9; (with_reducible refine (heads15_any _).mono ?_); rintro e w7 ⟨rfl, hb⟩; have B1 := Lib.hid hb; clear hb))
      go_ret
      exact ⟨rfl, B1.out⟩
  · rw [decide_eq_false hN] at HSM
    clear hT hWd
    generalize g.length = N at *
    clear h
    go_enter Try.func6, Try.ntmps6
    go_wp2_with (first
      | (go_at_call 8; (with_reducible refine (HSM.out _).mono ?_); rintro e w1 ⟨rfl, rfl⟩)
      | (go_at_call 9; (with_reducible refine (heads15_any _).mono ?_); rintro e w7 ⟨rfl, hb⟩; have B1 := Lib.hid hb; clear hb))
    go_ret
    exact ⟨rfl, B1.out⟩
end Go.Proofs.Ytgaacdnljkildaa
