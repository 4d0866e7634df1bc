/- Dominance: the law on who dominates whom. -/
import Derived.Test.YtgaacdnljkildaaDO
namespace Go.Proofs.Ytgaacdnljkildaa
open Go.RowKit
open Dm

/-- what the law holds -/
structure Dt (w W : World) (q : Option Addr) (g : List (List Int)) (p1 p2 : Option Addr) (F1 F2 : List (List Int)) : Prop where
  low : Below w.heap.size w W
  gs : GsAt W q g
  f1 : GsAt W p1 F1
  f2 : GsAt W p2 F2
theorem Dt.next {w W W' : World} {q : Option Addr} {g : List (List Int)} {p1 p2 : Option Addr} {F1 F2 : List (List Int)} (h : Dt w W q g p1 p2 F1 F2) (hb : Below W.heap.size W W') : Dt w W' q g p1 p2 F1 F2 :=
  ⟨h.low.trans (hb.mono h.low.size), h.gs.below hb, h.f1.below hb, h.f2.below hb⟩
/-- two rows, in a round -/
structure Dr (w W : World) (b1 o1 b2 o2 k : Nat) (l : List Int) (s1 s2 : Option Addr) (c1 c2 : Nat) : Prop where
  low : Below w.heap.size w W
  l1 : b1 < W.heap.size
  l2 : b2 < W.heap.size
  cs : W.cell? ⟨b1, o1 + k, none⟩ = some (.slice s1 l.length c1) ∧ W.cell? ⟨b2, o2 + k, none⟩ = some (.slice s2 l.length c2)
  n1 : NumsAt .i64 W s1 l
  n2 : NumsAt .i64 W s2 l
theorem Dr.next {w W W' : World} {b1 o1 b2 o2 k : Nat} {l : List Int} {s1 s2 : Option Addr} {c1 c2 : Nat} (h : Dr w W b1 o1 b2 o2 k l s1 s2 c1 c2) (hb : Below W.heap.size W W') : Dr w W' b1 o1 b2 o2 k l s1 s2 c1 c2 :=
  ⟨h.low.trans (hb.mono h.low.size), Nat.lt_of_lt_of_le h.l1 hb.size, Nat.lt_of_lt_of_le h.l2 hb.size, ⟨(hb.cell (p := ⟨b1, _, none⟩) h.l1).trans h.cs.1, (hb.cell (p := ⟨b2, _, none⟩) h.l2).trans h.cs.2⟩, h.n1.below hb, h.n2.below hb⟩
theorem gs_nil (w : World) : GsAt w none [] := ⟨fun _ hi => absurd hi (Nat.not_lt_zero _)⟩
set_option maxRecDepth 100000 in
set_option maxHeartbeats 4000000 in
theorem tells_law (q : Option Addr) (qc : Nat) (g : List (List Int)) (a b : Int) (w : World) (h : GsAt w q g) (hT : tot g ≤ 1048576) (hWd : Wd g) (hl : (lit b).wf = true) : Calls Try.prog 4 #[.slice q g.length qc, .int .i64 a, .int .i64 b] w fun e w' => e = .returned (.bool true) ∧ Below w.heap.size w w' := by
  have HSM := Lib.hid (fun W => small_any q qc g.length W)
  by_cases hN : g.length ≤ 60
  · have H1 := Lib.hid (fun W hW => sfront_any q qc g W hW hN hT hWd)
    have H2 := Lib.hid (fun W hW => rfront_any q qc g W hW (by omega) hT)
    have H3 := Lib.hid (fun W hW => sidom_any q qc g W hW hN hT hWd)
    have H4 := Lib.hid (fun W hW => ridom_any q qc g W hW (by omega) hT)
    have H5 := Lib.hid (fun p c d q W h1 h2 => ints_eq p q c d (idomL g) W h1 h2)
    have H6 := Lib.hid (fun W hW => sdom_any q qc g a b W hW hN hT hl)
    have H7 := Lib.hid (fun W hW => rdom_any q qc g a b W hW (by omega) hT)
    clear hWd hl
    have HI := Lib.hid (fun p c d q l W h1 h2 => ints_eq p q c d l W h1 h2)
    unfold RowsQ at H1 H2
    unfold NumsQ at H3 H4
    have HN := Lib.hid (Dt.mk (Below.refl w.heap.size w) h (gs_nil w) (gs_nil w))
    have hFL : (frontL g).length ≤ 60 := by rw [← front_all]; simpa using hN
    rw [decide_eq_true hN] at HSM
    generalize domB g a b = v at *
    generalize idomL g = O at *
    generalize O.length = n at *
    generalize frontL g = FL at *
    obtain ⟨m, hm⟩ : ∃ m, FL.length = m := ⟨_, rfl⟩
    rw [hm] at H1 H2 hFL
    have HM := Lib.hid hm
    generalize g.length = N at *
    have hvv : (v != v) = false := by cases v <;> rfl
    clear h hm
    go_enter Try.func4, Try.ntmps4
    go_wp2_with (first
      | (go_at_call 8; (with_reducible refine (HSM.out _).mono ?_); rintro e w1 ⟨rfl, rfl⟩)
      | (go_at_call 12; (with_reducible refine (H1.out _ HN.out.gs).mono ?_); rintro e w2 ⟨p1, c1, rfl, h1, hb⟩; have H' := HN.out.next hb; have HN' := Lib.hid (Dt.mk H'.low H'.gs h1 H'.f2); clear hb h1 H' HN; have HN := HN'; clear HN')
      | (go_at_call 13; (with_reducible refine (H2.out _ HN.out.gs).mono ?_); rintro e w3 ⟨p2, c2, rfl, h2, hb⟩; have H' := HN.out.next hb; have HN' := Lib.hid (Dt.mk H'.low H'.gs H'.f1 h2); clear hb h2 H' HN; have HN := HN'; clear HN')
      | (go_at_call 11; (with_reducible refine (H6.out _ HN.out.gs).mono ?_); rintro e w4 ⟨rfl, hb⟩; have H' := Lib.hid (HN.out.next hb); clear hb HN; have HN := H'; clear H')
      | (go_at_call 14; (with_reducible refine (H7.out _ HN.out.gs).mono ?_); rintro e w5 ⟨rfl, hb⟩; have H' := Lib.hid (HN.out.next hb); clear hb HN; have HN := H'; clear H')
      | (go_at_call 16; (with_reducible refine (H3.out _ HN.out.gs).mono ?_); rintro e w6 ⟨p6, c6, rfl, h6, hb⟩; have HA := Lib.hid h6; have H' := Lib.hid (HN.out.next hb); clear hb h6 HN; have HN := H'; clear H')
      | (go_at_call 17; (with_reducible refine (H4.out _ HN.out.gs).mono ?_); rintro e w7 ⟨p7, c7, rfl, h7, hb⟩; have HB := Lib.hid h7; have HA' := Lib.hid (HA.out.below hb); have H' := Lib.hid (HN.out.next hb); clear hb h7 HN HA; have HN := H'; have HA := HA'; clear H' HA')
      | (go_at_call 15; (with_reducible refine (H5.out _ _ _ _ _ HA.out HB.out).mono ?_); rintro e w8 ⟨rfl, hb⟩; have H' := Lib.hid (HN.out.next hb); clear hb HN; have HN := H'; clear H'))
    clear HA HB
    go_loopw [9] (fun v wr => ∃ k : Nat, k ≤ m ∧ v = .int .i64 (k : Int) ∧ Dt w wr q g p1 p2 FL FL) (fun v _ => m - (intOf v).toNat)
    case atStart => exact ⟨0, Nat.zero_le _, rfl, HN.out⟩
    case round =>
      clear HN
      obtain ⟨k, hk, rfl, hn⟩ := hrel
      have HN := Lib.hid hn
      by_cases hlt : k < m
      · obtain ⟨b1, o1, s1, d1, rfl, hl1, e1, n1⟩ := (hn.next ((Below.refl _ _).drew)).f1.cells k (by rw [HM.out]; exact hlt)
        obtain ⟨b2, o2, s2, d2, rfl, hl2, e2, n2⟩ := (hn.next ((Below.refl _ _).drew)).f2.cells k (by rw [HM.out]; exact hlt)
        have HR := Lib.hid (Dr.mk (w := wr) ((Below.refl _ _).drew) hl1 hl2 ⟨e1, e2⟩ n1 n2)
        clear hn e1 e2 n1 n2 hl1 hl2
        generalize FL.getD k [] = l at *
        have F := HR.out.cs
        go_wp2_with fail
        go_region_held3 (fun W => W.cell? ⟨b1, o1 + k, none⟩ = some (.slice s1 l.length d1) ∧ W.cell? ⟨b2, o2 + k, none⟩ = some (.slice s2 l.length d2))
          (with_reducible exact HR.out.cs)
          (first
          | (go_at_call 15; (with_reducible refine (HI.out _ _ _ _ _ _ HR.out.n1 HR.out.n2).mono ?_); rintro e w9 ⟨rfl, hb⟩; have H' := Lib.hid (HR.out.next hb); clear hb HR F; have HR := H'; clear H'; have F := HR.out.cs))
        all_goals
          go_wp2_with fail
          go_roundw
          case rel => exact ⟨k + 1, by omega, by go_num, HN.out.next HR.out.low⟩
          case measure => simp [intOf]; omega
      · obtain rfl : k = m := by omega
        clear hn
        go_wp2_with (go_at_call 9; (with_reducible refine (heads15_any _).mono ?_); rintro e w10 ⟨rfl, hb⟩; have H' := Lib.hid (HN.out.next hb); clear hb HN; have HN := H'; clear H')
        go_ret
        exact ⟨rfl, HN.out.low⟩
  · rw [decide_eq_false hN] at HSM
    generalize g.length = N at *
    clear h
    go_enter Try.func4, Try.ntmps4
    go_wp2_with (first
      | (go_at_call 8; (with_reducible refine (HSM.out _).mono ?_); rintro e w1 ⟨rfl, rfl⟩)
      | (go_at_call 9; (with_reducible refine (heads15_any _).mono ?_); rintro e w7 ⟨rfl, hb⟩; have B1 := Lib.hid hb; clear hb))
    go_ret
    exact ⟨rfl, B1.out⟩
end Go.Proofs.Ytgaacdnljkildaa
