/- Dominance: the law on who stands first, walked. -/
import Derived.Test.YtgaacdnljkildaaDU
namespace Go.Proofs.Ytgaacdnljkildaa
open Go.RowKit
open Dm

set_option maxRecDepth 100000 in
set_option maxHeartbeats 4000000 in
theorem first_in (q : Option Addr) (qc : Nat) (g : List (List Int)) (w : World) (h : GsAt w q g) (hT : tot g ≤ 1048576) (hWd : Wd g) (hN : g.length ≤ 60) (hp : 0 < g.length) : Calls Try.prog 7 #[.slice q g.length qc] w fun e w' => e = .returned (.bool true) ∧ Below w.heap.size w w' := by
  have HSM := Lib.hid (fun W => small_any q qc g.length W)
  have H1 := Lib.hid (fun W hW => sorder_any q qc g W hW hN hT)
  have H2 := Lib.hid (fun W hW => sidom_any q qc g W hW hN hT hWd)
  have H3 := Lib.hid (fun W hW => sreach_any q qc g W hW hN hT)
  clear hWd
  unfold NumsQ at H1 H2
  unfold BlsQ at H3
  have HUL := Lib.hid (idomL_len g)
  have HRL := Lib.hid (reachB_len g)
  have hord := ord_ok g.length (fun i => g.getD i [])
  have HFV := Lib.hid (fun y hy => first_val (g := g) (y := y) hy)
  have hOL : ordL g = (ordN g.length (fun i => g.getD i [])).map Int.ofNat := rfl
  rw [hOL] at H1
  clear hOL
  obtain ⟨O, hO⟩ : ∃ O, ordN g.length (fun i => g.getD i []) = O := ⟨_, rfl⟩
  rw [hO] at H1 hord HFV
  have HOA : Hid (∀ k, k < O.length → (O.map Int.ofNat).getD k 0 = ((O.getD k 0 : Nat) : Int)) := Lib.hid (fun k hk => by
    rw [List.getD_eq_getElem?_getD, List.getElem?_map, List.getD_eq_getElem?_getD, List.getElem?_eq_getElem hk]; rfl)
  have HOL : Hid (∀ k, k < O.length → O.getD k 0 < g.length) := Lib.hid (fun k hk => by
    have hm : O.getD k 0 ∈ O := by rw [List.getD_eq_getElem?_getD, List.getElem?_eq_getElem hk]; exact List.getElem_mem hk
    exact ((hord.is _).1 hm).lt)
  obtain ⟨l0, hl0⟩ := hord.head hp
  have hn0 : 0 < O.length := by rw [hl0]; simp
  have HO0 : Hid ((O.map Int.ofNat).getD 0 0 = 0) := Lib.hid (by rw [hl0]; rfl)
  have HAZ := Lib.hid (atV_zero O)
  have HAN := Lib.hid (fun k (hk : k < O.length) => atV_new hord.nd hk)
  have HAS := Lib.hid (fun k (hk : k < O.length) => atV_succ hord.nd hk)
  have HML : Hid ((O.map Int.ofNat).length = O.length) := Lib.hid (by simp)
  have HG := Lib.hid h
  rw [decide_eq_true hN] at HSM
  rw [HML.out] at H1
  rw [HUL.out] at H2
  rw [HRL.out] at H3
  generalize idomL g = U at *
  generalize reachB g = RB at *
  generalize hA : atV O = A at *
  obtain ⟨n, hn⟩ : ∃ n, O.length = n := ⟨_, rfl⟩
  rw [hn] at HOA HOL hn0 HAN HAS HML HFV H1
  obtain ⟨N, hNl⟩ : ∃ N, g.length = N := ⟨_, rfl⟩
  rw [hNl] at hN hp HSM H1 H2 H3 HUL HRL HOL HFV ⊢
  have hne : ((N : Int) == 0) = false := by simp; omega
  have hnn : ((n : Int) == 0) = false := by simp; omega
  have hmk := fun W => run_make_row' (P := Try.prog) 27 3 (.int .i64 0) 8 Try.underlying27 infoInt rfl .i64 .i64 N (by omega) (by omega) W
  clear h hNl hA hn hl0 hord hO
  go_enter Try.func7, Try.ntmps7
  go_wp2_with (first
    | (go_at_call 8; (with_reducible refine (HSM.out _).mono ?_); rintro e w1 ⟨rfl, rfl⟩)
    | (go_at_call 19; (with_reducible refine (H1.out _ HG.out).mono ?_); rintro e w2 ⟨po, co, rfl, h1, hb⟩; have HN := Lib.hid (Df.mk hb (HG.out.below hb) h1 (nums_nil w2 none) (bl_nil w2)); clear hb h1)
    | (go_at_call 16; (with_reducible refine (H2.out _ HN.out.gs).mono ?_); rintro e w3 ⟨pu, cu, rfl, h2, hb⟩; have H' := HN.out.next hb; have HN' := Lib.hid (Df.mk H'.low H'.gs H'.o h2 H'.r); clear hb h2 H' HN; have HN := HN'; clear HN')
    | (go_at_call 10; (with_reducible refine (H3.out _ HN.out.gs).mono ?_); rintro e w5 ⟨pr, cr, rfl, h3, hb⟩; have H' := HN.out.next hb; have HN' := Lib.hid (Df.mk H'.low H'.gs H'.o H'.u h3); obtain ⟨bo, oo, rfl, hlo, eo⟩ := HN'.out.o.cells 0 (by rw [HML.out]; exact hn0); rw [HO0.out] at eo; have eo' : w5.cell? ⟨bo, oo, none⟩ = some (.int .i64 0) := eo; have hsm := HN'.out.o.small; rw [HML.out] at hsm; clear hb h3 H' HN eo; have HN := HN'; clear HN'))
  clear eo' hmk
  go_loopw [7] (fun v wr => ∃ k : Nat, k ≤ n ∧ v = .int .i64 (k : Int) ∧ Below w5.heap.size w5 wr ∧ Rn wr w5.heap.size N (A k)) (fun v _ => n - (intOf v).toNat)
  case atStart => exact ⟨0, Nat.zero_le _, rfl, (Below.refl _ _).alloc (Nat.le_refl _) _, by rw [HAZ.out]; exact Rn.new w5 N⟩
  case round =>
    obtain ⟨k, hk, rfl, hb, hr⟩ := hrel
    have HB := Lib.hid hb
    have HR := Lib.hid hr
    by_cases hlt : k < n
    · obtain ⟨b1, o1, hbo, hl1, e1⟩ := (HN.out.next hb).o.cells k (by rw [HML.out]; exact hlt)
      obtain ⟨rfl, rfl⟩ : bo = b1 ∧ oo = o1 := by injection hbo with e; injection e with e1 e2; exact ⟨e1, e2⟩
      rw [HOA.out k hlt] at e1
      have hs := HOL.out k hlt
      have HE := Lib.hid (HAS.out k hlt)
      have hz := HAN.out k hlt
      generalize O.getD k 0 = s at *
      have e2 := hr.cell s hs
      rw [hz] at e2
      have l2 := hr.lt
      have f2 := hr.fr s
      have HX := Lib.hid (hr.set (v := (k : Int) + 1) hs)
      have HY := Lib.hid (hb.setCell (p := ⟨w5.heap.size, s, none⟩) (Nat.le_refl _) (.int .i64 ((k : Int) + 1)))
      clear hb hr hz hbo
      go_wp2_with fail
      go_roundw
      case rel => exact ⟨k + 1, by omega, rfl, HY.out, by rw [HE.out]; exact HX.out⟩
      case measure => simp [intOf]; omega
    · obtain rfl : k = n := by omega
      clear hb hr
      go_wp2_with fail
      go_loopw [8] (fun v wr2 => ∃ m : Nat, m ≤ N ∧ v = .int .i64 (m : Int) ∧ Below w5.heap.size w5 wr2 ∧ Rn wr2 w5.heap.size N (A k)) (fun v _ => N - (intOf v).toNat)
      case atStart => exact ⟨0, Nat.zero_le _, rfl, HB.out, HR.out⟩
      case round =>
        clear HB HR
        obtain ⟨m, hm, rfl, hb, hr⟩ := hrel
        have HB := Lib.hid hb
        have HR := Lib.hid hr
        have HN5 := Lib.hid (HN.out.next hb)
        by_cases hmN : m < N
        · obtain ⟨b3, o3, rfl, hl3, e3⟩ := HN5.out.r.cells m (by rw [HRL.out]; exact hmN)
          obtain ⟨b4, o4, rfl, hl4, e4⟩ := HN5.out.u.cells m (by rw [HUL.out]; exact hmN)
          have e5 := hr.cell m hmN
          have l5 := hr.lt
          rcases HFV.out m hmN with ⟨v1, v2, v3⟩ | ⟨v1, v2, v3⟩
          · rw [v1] at e3
            rcases v3 with v3 | ⟨u, v3, hu, v4⟩
            · rw [v3] at e4
              generalize A k m = a at *
              have hd : decide (0 < a) = true := by simpa using v2
              clear hb hr v1 v3
              go_wp2_with fail
              go_quiet (fail)
              go_wp2_with fail
              go_roundw
              case rel => exact ⟨m + 1, by omega, rfl, below_drewN HB.out _, HR.out.next (below_drewN (Below.refl _ _) _)⟩
              case measure => simp [intOf]; omega
            · rw [v3] at e4
              have e6 := hr.cell u hu
              generalize A k m = a at *
              generalize A k u = b at *
              have hd : decide (0 < a) = true := by simpa using v2
              have hd2 : decide (a ≤ b) = false := by simp; omega
              clear hb hr v1 v3
              go_wp2_with fail
              go_quiet (fail)
              go_wp2_with fail
              go_roundw
              case rel => exact ⟨m + 1, by omega, rfl, below_drewN HB.out _, HR.out.next (below_drewN (Below.refl _ _) _)⟩
              case measure => simp [intOf]; omega
          · rw [v1] at e3
            rw [v2] at e5
            rw [v3] at e4
            clear hb hr v1 v2 v3
            go_wp2_with fail
            go_quiet (fail)
            go_wp2_with fail
            go_roundw
            case rel => exact ⟨m + 1, by omega, rfl, below_drewN HB.out _, HR.out.next (below_drewN (Below.refl _ _) _)⟩
            case measure => simp [intOf]; omega
        · obtain rfl : m = N := by omega
          have HL := Lib.hid (HN.out.low.trans (hb.mono HN.out.low.size))
          clear hb hr
          go_wp2_with (go_at_call 9; (with_reducible refine (heads15_any _).mono ?_); rintro e w10 ⟨rfl, hb⟩; have HF := Lib.hid (HL.out.trans (hb.mono HL.out.size)); clear hb)
          go_ret
          exact ⟨rfl, HF.out⟩
set_option maxRecDepth 100000 in
set_option maxHeartbeats 2000000 in
theorem first_law (q : Option Addr) (qc : Nat) (g : List (List Int)) (w : World) (h : GsAt w q g) (hT : tot g ≤ 1048576) (hWd : Wd g) : Calls Try.prog 7 #[.slice q g.length qc] w fun e w' => e = .returned (.bool true) ∧ Below w.heap.size w w' := by
  have HSM := Lib.hid (fun W => small_any q qc g.length W)
  by_cases hN : g.length ≤ 60
  · by_cases hp : 0 < g.length
    · exact first_in q qc g w h hT hWd hN hp
    · rw [decide_eq_true hN] at HSM
      obtain hz : g.length = 0 := by omega
      rw [hz] at HSM ⊢
      clear h hT hWd
      go_enter Try.func7, Try.ntmps7
      go_wp2_with (first
        | (go_at_call 8; (with_reducible refine (HSM.out _).mono ?_); rintro e w1 ⟨rfl, rfl⟩)
        | (go_at_call 9; (with_reducible refine (heads15_any _).mono ?_); rintro e w7 ⟨rfl, hb⟩; have B1 := Lib.hid hb; clear hb))
      go_ret
      exact ⟨rfl, B1.out⟩
  · rw [decide_eq_false hN] at HSM
    generalize g.length = N at *
    clear h hT hWd
    go_enter Try.func7, Try.ntmps7
    go_wp2_with (first
      | (go_at_call 8; (with_reducible refine (HSM.out _).mono ?_); rintro e w1 ⟨rfl, rfl⟩)
      | (go_at_call 9; (with_reducible refine (heads15_any _).mono ?_); rintro e w7 ⟨rfl, hb⟩; have B1 := Lib.hid hb; clear hb))
    go_ret
    exact ⟨rfl, B1.out⟩
end Go.Proofs.Ytgaacdnljkildaa
