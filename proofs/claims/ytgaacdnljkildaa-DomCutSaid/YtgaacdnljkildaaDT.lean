/- Dominance: the law on a node whose ways are left out, walked. -/
import Derived.Test.YtgaacdnljkildaaDS
namespace Go.Proofs.Ytgaacdnljkildaa
open Go.RowKit
open Dm

/-- what the law holds, at its end -/
structure Dk (w W : World) (q : Option Addr) (g : List (List Int)) (b6 o6 j : Nat) (v : Bool) : Prop where
  low : Below w.heap.size w W
  gs : GsAt W q g
  l6 : b6 < W.heap.size
  c6 : W.cell? ⟨b6, o6 + j, none⟩ = some (.bool v)
theorem Dk.next {w W W' : World} {q : Option Addr} {g : List (List Int)} {b6 o6 j : Nat} {v : Bool} (h : Dk w W q g b6 o6 j v) (hb : Below W.heap.size W W') : Dk w W' q g b6 o6 j v :=
  ⟨h.low.trans (hb.mono h.low.size), h.gs.below hb, Nat.lt_of_lt_of_le h.l6 hb.size, (hb.cell (p := ⟨b6, _, none⟩) h.l6).trans h.c6⟩
set_option maxRecDepth 100000 in
set_option maxHeartbeats 4000000 in
theorem cut_in (q : Option Addr) (qc : Nat) (g : List (List Int)) (i j : Nat) (w : World) (h : GsAt w q g) (hN : g.length ≤ 60) (hi : i < g.length) (hj : j < g.length) (hi0 : i ≠ 0) (hj0 : j ≠ 0) (hij : i ≠ j) : Calls Try.prog 3 #[.slice q g.length qc, .int .i64 (i : Int), .int .i64 (j : Int)] w fun e w' => e = .returned (.bool true) ∧ Below w.heap.size w w' := by
  have HSM := Lib.hid (fun W => small_any q qc g.length W)
  have H1 := Lib.hid (fun W hW => sreach_all q qc g W hW hN)
  have H2 := Lib.hid (fun p c W hW => sreach_all p c (g.set i []) W hW (by simpa using hN))
  have H3 := Lib.hid (fun W hW => sdom_all q qc g (i : Int) (j : Int) W hW hN (lit_wf (by omega) (by omega)))
  unfold BlsQ at H1 H2
  have HR1 := Lib.hid (reachB_len g)
  have HR2 : Hid ((reachB (g.set i [])).length = g.length) := Lib.hid (by rw [reachB_len]; simp)
  have HS2 : Hid ((g.set i []).length = g.length) := Lib.hid (by simp)
  have HV := Lib.hid (fun h1 h2 => cut_val (g := g) (a := i) (b := j) hi0 hij hj h1 h2 hi)
  have HW := Lib.hid (fun h1 => cut_none (g := g) (a := i) (b := j) hj hi h1)
  have HCG := Lib.hid (fun (w W W' : World) P C c (q : Option Addr) hP hlow ho hg => cut_gs (w := w) (W := W) (W' := W') (g := g) (P := P) (C := C) (a := i) (c := c) (q := q) hP hi hlow ho hg)
  have HFN := Lib.hid (fun W hW => GsAt.fn (w := W) (q := q) (g := g) hW (by omega))
  have HG := Lib.hid h
  rw [decide_eq_true hN] at HSM
  rw [HR1.out] at H1
  rw [HR2.out, HS2.out] at H2
  generalize domB g (i : Int) (j : Int) = v at *
  generalize reachB (g.set i []) = RC at *
  generalize reachB g = RB at *
  obtain ⟨N, hNl⟩ : ∃ N, g.length = N := ⟨_, rfl⟩
  rw [hNl] at hN hi hj HSM H1 H2 H3 HR1 HR2 HCG HFN ⊢
  have g0 : decide ((i : Int) < 1) = false := by simp; omega
  have g1 : decide ((j : Int) < 1) = false := by simp; omega
  have g2 : decide (N ≤ i) = false := by simp; omega
  have g3 : decide (N ≤ j) = false := by simp; omega
  have g4 : ((i : Int) == (j : Int)) = false := by simp; omega
  obtain ⟨ri, hri⟩ : ∃ r, RB.getD i false = r := ⟨_, rfl⟩
  obtain ⟨rj, hrj⟩ : ∃ r, RB.getD j false = r := ⟨_, rfl⟩
  obtain ⟨sb, hsb⟩ : ∃ r, RC.getD j false = r := ⟨_, rfl⟩
  rw [hri, hrj] at HV HW
  rw [hsb] at HV
  have HRI := Lib.hid hri
  have HRJ := Lib.hid hrj
  have HSB := Lib.hid hsb
  clear h hNl HS2 hri hrj hsb
  by_cases hc : ri = true ∧ rj = true
  · obtain ⟨rfl, rfl⟩ := hc
    have HV2 := Lib.hid (HV.out rfl rfl)
    rw [HV2.out] at H3
    clear HV HW HV2
    cases sb with
    | false =>
      simp only [Bool.not_false] at H3
      go_enter Try.func3, Try.ntmps3
      go_wp2_with (first
        | (go_at_call 8; (with_reducible refine (HSM.out _).mono ?_); rintro e w1 ⟨rfl, rfl⟩)
        | (go_at_call 10; (with_reducible refine (H2.out _ _ _ HH.out).mono ?_); rintro e w5 ⟨ps, cs, rfl, h5, hb⟩; obtain ⟨b6, o6, rfl, hl6, hc6⟩ := h5.fn (by rw [HR2.out]; omega); have e6 := hc6 j (by rw [HR2.out]; exact hj); rw [HSB.out] at e6; have HK := Lib.hid (Dk.mk (B3.out.trans ((BH.out.mono B3.out.size).trans (hb.mono (Nat.le_trans B3.out.size BH.out.size)))) ((HG3.out.below BH.out).below hb) hl6 e6); have HB5 := Lib.hid ((HB3.out.below BH.out).below hb); obtain ⟨b5, o5, rfl, hl5, hc5⟩ := HB5.out.fn (by rw [HR1.out]; omega); have ei := hc5 i (by rw [HR1.out]; exact hi); have ej := hc5 j (by rw [HR1.out]; exact hj); rw [HRI.out] at ei; rw [HRJ.out] at ej; clear hb h5 hc6 hc5)
        | (go_at_call 10; (with_reducible refine (H1.out _ HG.out).mono ?_); rintro e w3 ⟨pr, cr, rfl, h1, hb⟩; have HB3 := Lib.hid h1; have B3 := Lib.hid hb; have HG3 := Lib.hid (HG.out.below hb); obtain ⟨bq, oq, P, C, rfl, hlq, hPC⟩ := HFN.out _ HG3.out; have HPC := Lib.hid hPC; clear hb h1 hPC)
        | (at_builtin; refine wpList_copy_gs rfl (.tmp 41) (.tmp 42) rfl rfl w3.heap.size w3.heap.size bq oq N 0 qc ((List.range N).map fun i => .slice (P i) (g.getD i []).length (C i)) rfl rfl (own_empty w3 (Nat.le_refl _)) (by simp) (fun j u hu => by
            have hj : j < N := by simpa using (List.getElem?_eq_some_iff.1 hu).1
            have e : u = .slice (P j) (g.getD j []).length (C j) := by simpa [hj] using hu.symm
            rw [e]
            exact (((Below.refl _ _).alloc (Nat.le_refl _) _).cell (p := ⟨bq, oq + j, none⟩) hlq).trans (HPC.out j hj).1) (fun u hu => by
            obtain ⟨k, _, rfl⟩ := List.mem_map.1 hu
            rfl) (by simp) (by omega) ?_; intro v8 w8 ho8 hg8; obtain ⟨q8, c8, rfl⟩ := own_form ho8; obtain ⟨gh, rfl, hlh, hch, hfh, hgs, hlow⟩ := HCG.out w3 _ w8 P C c8 q8 (fun i hi => (HPC.out i hi).2) ((Below.refl _ _).alloc (Nat.le_refl _) _) ho8 hg8; have HH := Lib.hid hgs; have BH := Lib.hid hlow; clear ho8 hg8 hgs hlow))
      have H' := Lib.hid (HK.out.next ((Below.refl _ _).drew))
      clear HK
      have HK := H'
      clear H'
      have F := HK.out.c6
      clear e6 hl6 hl5 ei ej
      go_region_held3 (fun W => W.cell? ⟨b6, o6 + j, none⟩ = some (.bool false))
        (with_reducible exact HK.out.c6)
        (first
        | (go_at_call 11; (with_reducible refine (H3.out _ HK.out.gs).mono ?_); rintro e w9 ⟨rfl, hb⟩; have H' := Lib.hid (HK.out.next hb); clear hb HK F; have HK := H'; clear H'; have F := HK.out.c6)
        | (go_at_call 9; (with_reducible refine (heads15_any _).mono ?_); rintro e w10 ⟨rfl, hb⟩; have H' := Lib.hid (HK.out.next hb); clear hb HK F; have HK := H'; clear H'; have F := HK.out.c6))
      all_goals
        go_wp2_with fail
        go_ret
        exact ⟨rfl, HK.out.low⟩
    | true =>
      simp only [Bool.not_true] at H3
      go_enter Try.func3, Try.ntmps3
      go_wp2_with (first
        | (go_at_call 8; (with_reducible refine (HSM.out _).mono ?_); rintro e w1 ⟨rfl, rfl⟩)
        | (go_at_call 10; (with_reducible refine (H2.out _ _ _ HH.out).mono ?_); rintro e w5 ⟨ps, cs, rfl, h5, hb⟩; obtain ⟨b6, o6, rfl, hl6, hc6⟩ := h5.fn (by rw [HR2.out]; omega); have e6 := hc6 j (by rw [HR2.out]; exact hj); rw [HSB.out] at e6; have HK := Lib.hid (Dk.mk (B3.out.trans ((BH.out.mono B3.out.size).trans (hb.mono (Nat.le_trans B3.out.size BH.out.size)))) ((HG3.out.below BH.out).below hb) hl6 e6); have HB5 := Lib.hid ((HB3.out.below BH.out).below hb); obtain ⟨b5, o5, rfl, hl5, hc5⟩ := HB5.out.fn (by rw [HR1.out]; omega); have ei := hc5 i (by rw [HR1.out]; exact hi); have ej := hc5 j (by rw [HR1.out]; exact hj); rw [HRI.out] at ei; rw [HRJ.out] at ej; clear hb h5 hc6 hc5)
        | (go_at_call 10; (with_reducible refine (H1.out _ HG.out).mono ?_); rintro e w3 ⟨pr, cr, rfl, h1, hb⟩; have HB3 := Lib.hid h1; have B3 := Lib.hid hb; have HG3 := Lib.hid (HG.out.below hb); obtain ⟨bq, oq, P, C, rfl, hlq, hPC⟩ := HFN.out _ HG3.out; have HPC := Lib.hid hPC; clear hb h1 hPC)
        | (at_builtin; refine wpList_copy_gs rfl (.tmp 41) (.tmp 42) rfl rfl w3.heap.size w3.heap.size bq oq N 0 qc ((List.range N).map fun i => .slice (P i) (g.getD i []).length (C i)) rfl rfl (own_empty w3 (Nat.le_refl _)) (by simp) (fun j u hu => by
            have hj : j < N := by simpa using (List.getElem?_eq_some_iff.1 hu).1
            have e : u = .slice (P j) (g.getD j []).length (C j) := by simpa [hj] using hu.symm
            rw [e]
            exact (((Below.refl _ _).alloc (Nat.le_refl _) _).cell (p := ⟨bq, oq + j, none⟩) hlq).trans (HPC.out j hj).1) (fun u hu => by
            obtain ⟨k, _, rfl⟩ := List.mem_map.1 hu
            rfl) (by simp) (by omega) ?_; intro v8 w8 ho8 hg8; obtain ⟨q8, c8, rfl⟩ := own_form ho8; obtain ⟨gh, rfl, hlh, hch, hfh, hgs, hlow⟩ := HCG.out w3 _ w8 P C c8 q8 (fun i hi => (HPC.out i hi).2) ((Below.refl _ _).alloc (Nat.le_refl _) _) ho8 hg8; have HH := Lib.hid hgs; have BH := Lib.hid hlow; clear ho8 hg8 hgs hlow))
      have H' := Lib.hid (HK.out.next ((Below.refl _ _).drew))
      clear HK
      have HK := H'
      clear H'
      have F := HK.out.c6
      clear e6 hl6 hl5 ei ej
      go_region_held3 (fun W => W.cell? ⟨b6, o6 + j, none⟩ = some (.bool true))
        (with_reducible exact HK.out.c6)
        (first
        | (go_at_call 11; (with_reducible refine (H3.out _ HK.out.gs).mono ?_); rintro e w9 ⟨rfl, hb⟩; have H' := Lib.hid (HK.out.next hb); clear hb HK F; have HK := H'; clear H'; have F := HK.out.c6)
        | (go_at_call 9; (with_reducible refine (heads15_any _).mono ?_); rintro e w10 ⟨rfl, hb⟩; have H' := Lib.hid (HK.out.next hb); clear hb HK F; have HK := H'; clear H'; have F := HK.out.c6))
      all_goals
        go_wp2_with fail
        go_ret
        exact ⟨rfl, HK.out.low⟩
  · have HV2 := Lib.hid (HW.out (by cases ri <;> cases rj <;> simp_all))
    rw [HV2.out] at H3
    clear HV HW HV2
    cases ri <;> cases rj
    case true.true => exact absurd ⟨rfl, rfl⟩ hc
    all_goals
      clear hc
      go_enter Try.func3, Try.ntmps3
      go_wp2_with (first
        | (go_at_call 11; (with_reducible refine (H3.out _ HK.out.gs).mono ?_); rintro e w9 ⟨rfl, hb⟩; have H' := Lib.hid (HK.out.next hb); clear hb HK; have HK := H'; clear H')
        | (go_at_call 9; (with_reducible refine (heads15_any _).mono ?_); rintro e w10 ⟨rfl, hb⟩; have H' := Lib.hid (HK.out.next hb); clear hb HK; have HK := H'; clear H')
        | (go_at_call 8; (with_reducible refine (HSM.out _).mono ?_); rintro e w1 ⟨rfl, rfl⟩)
        | (go_at_call 10; (with_reducible refine (H2.out _ _ _ HH.out).mono ?_); rintro e w5 ⟨ps, cs, rfl, h5, hb⟩; obtain ⟨b6, o6, rfl, hl6, hc6⟩ := h5.fn (by rw [HR2.out]; omega); have e6 := hc6 j (by rw [HR2.out]; exact hj); rw [HSB.out] at e6; have HK := Lib.hid (Dk.mk (B3.out.trans ((BH.out.mono B3.out.size).trans (hb.mono (Nat.le_trans B3.out.size BH.out.size)))) ((HG3.out.below BH.out).below hb) hl6 e6); have HB5 := Lib.hid ((HB3.out.below BH.out).below hb); obtain ⟨b5, o5, rfl, hl5, hc5⟩ := HB5.out.fn (by rw [HR1.out]; omega); have ei := hc5 i (by rw [HR1.out]; exact hi); have ej := hc5 j (by rw [HR1.out]; exact hj); rw [HRI.out] at ei; rw [HRJ.out] at ej; clear hb h5 hc6 hc5)
        | (go_at_call 10; (with_reducible refine (H1.out _ HG.out).mono ?_); rintro e w3 ⟨pr, cr, rfl, h1, hb⟩; have HB3 := Lib.hid h1; have B3 := Lib.hid hb; have HG3 := Lib.hid (HG.out.below hb); obtain ⟨bq, oq, P, C, rfl, hlq, hPC⟩ := HFN.out _ HG3.out; have HPC := Lib.hid hPC; clear hb h1 hPC)
        | (at_builtin; refine wpList_copy_gs rfl (.tmp 41) (.tmp 42) rfl rfl w3.heap.size w3.heap.size bq oq N 0 qc ((List.range N).map fun i => .slice (P i) (g.getD i []).length (C i)) rfl rfl (own_empty w3 (Nat.le_refl _)) (by simp) (fun j u hu => by
            have hj : j < N := by simpa using (List.getElem?_eq_some_iff.1 hu).1
            have e : u = .slice (P j) (g.getD j []).length (C j) := by simpa [hj] using hu.symm
            rw [e]
            exact (((Below.refl _ _).alloc (Nat.le_refl _) _).cell (p := ⟨bq, oq + j, none⟩) hlq).trans (HPC.out j hj).1) (fun u hu => by
            obtain ⟨k, _, rfl⟩ := List.mem_map.1 hu
            rfl) (by simp) (by omega) ?_; intro v8 w8 ho8 hg8; obtain ⟨q8, c8, rfl⟩ := own_form ho8; obtain ⟨gh, rfl, hlh, hch, hfh, hgs, hlow⟩ := HCG.out w3 _ w8 P C c8 q8 (fun i hi => (HPC.out i hi).2) ((Below.refl _ _).alloc (Nat.le_refl _) _) ho8 hg8; have HH := Lib.hid hgs; have BH := Lib.hid hlow; clear ho8 hg8 hgs hlow))
      go_ret
      exact ⟨rfl, HK.out.low⟩
set_option maxRecDepth 100000 in
set_option maxHeartbeats 2000000 in
theorem cut_law (q : Option Addr) (qc : Nat) (g : List (List Int)) (a b : Int) (w : World) (h : GsAt w q g) : Calls Try.prog 3 #[.slice q g.length qc, .int .i64 a, .int .i64 b] w fun e w' => e = .returned (.bool true) ∧ Below w.heap.size w w' := by
  have HSM := Lib.hid (fun W => small_any q qc g.length W)
  by_cases hN : g.length ≤ 60
  · rw [decide_eq_true hN] at HSM
    by_cases a0 : 1 ≤ a
    · by_cases b0 : 1 ≤ b
      · by_cases aN : a < (g.length : Int)
        · by_cases bN : b < (g.length : Int)
          · by_cases hab : a = b
            · subst hab
              generalize g.length = N at *
              clear h
              go_enter Try.func3, Try.ntmps3
              go_wp2_with (first
                | (go_at_call 8; (with_reducible refine (HSM.out _).mono ?_); rintro e w1 ⟨rfl, rfl⟩)
                | (go_at_call 9; (with_reducible refine (heads15_any _).mono ?_); rintro e w7 ⟨rfl, hb⟩; have B1 := Lib.hid hb; clear hb))
              go_ret
              exact ⟨rfl, B1.out⟩
            · obtain ⟨i, rfl⟩ : ∃ i : Nat, a = (i : Int) := ⟨a.toNat, by omega⟩
              obtain ⟨j, rfl⟩ : ∃ j : Nat, b = (j : Int) := ⟨b.toNat, by omega⟩
              exact cut_in q qc g i j w h hN (by omega) (by omega) (by omega) (by omega) (by omega)
          · generalize g.length = N at *
            clear h
            go_enter Try.func3, Try.ntmps3
            go_wp2_with (first
              | (go_at_call 8; (with_reducible refine (HSM.out _).mono ?_); rintro e w1 ⟨rfl, rfl⟩)
              | (go_at_call 9; (with_reducible refine (heads15_any _).mono ?_); rintro e w7 ⟨rfl, hb⟩; have B1 := Lib.hid hb; clear hb))
            go_ret
            exact ⟨rfl, B1.out⟩
        · generalize g.length = N at *
          clear h
          go_enter Try.func3, Try.ntmps3
          go_wp2_with (first
            | (go_at_call 8; (with_reducible refine (HSM.out _).mono ?_); rintro e w1 ⟨rfl, rfl⟩)
            | (go_at_call 9; (with_reducible refine (heads15_any _).mono ?_); rintro e w7 ⟨rfl, hb⟩; have B1 := Lib.hid hb; clear hb))
          go_ret
          exact ⟨rfl, B1.out⟩
      · generalize g.length = N at *
        clear h
        go_enter Try.func3, Try.ntmps3
        go_wp2_with (first
          | (go_at_call 8; (with_reducible refine (HSM.out _).mono ?_); rintro e w1 ⟨rfl, rfl⟩)
          | (go_at_call 9; (with_reducible refine (heads15_any _).mono ?_); rintro e w7 ⟨rfl, hb⟩; have B1 := Lib.hid hb; clear hb))
        go_ret
        exact ⟨rfl, B1.out⟩
    · generalize g.length = N at *
      clear h
      go_enter Try.func3, Try.ntmps3
      go_wp2_with (first
        | (go_at_call 8; (with_reducible refine (HSM.out _).mono ?_); rintro e w1 ⟨rfl, rfl⟩)
        | (go_at_call 9; (with_reducible refine (heads15_any _).mono ?_); rintro e w7 ⟨rfl, hb⟩; have B1 := Lib.hid hb; clear hb))
      go_ret
      exact ⟨rfl, B1.out⟩
  · rw [decide_eq_false hN] at HSM
    generalize g.length = N at *
    clear h
    go_enter Try.func3, Try.ntmps3
    go_wp2_with (first
      | (go_at_call 8; (with_reducible refine (HSM.out _).mono ?_); rintro e w1 ⟨rfl, rfl⟩)
      | (go_at_call 9; (with_reducible refine (heads15_any _).mono ?_); rintro e w7 ⟨rfl, hb⟩; have B1 := Lib.hid hb; clear hb))
    go_ret
    exact ⟨rfl, B1.out⟩
end Go.Proofs.Ytgaacdnljkildaa
