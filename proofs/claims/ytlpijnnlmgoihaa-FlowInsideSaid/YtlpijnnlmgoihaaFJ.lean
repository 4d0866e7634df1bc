/- Flow: the document's own Same. -/
import Derived.Test.YtlpijnnlmgoihaaFG
namespace Go.Proofs.Ytlpijnnlmgoihaa
open Go.RowKit M

/-- two blocks alike, in memory -/
structure Sm (w W : World) (b1 o1 b2 o2 k : Nat) (x y z : Int) (s p : List Int) (sp1 pp1 sp2 pp2 : Option Addr) (sc1 pc1 sc2 pc2 : Nat) : Prop where
  low : Below w.heap.size w W
  l1 : b1 < W.heap.size
  l2 : b2 < W.heap.size
  cs : (W.cell? ⟨b1, o1 + k * 5, none⟩ = some (.int .i64 x) ∧ W.cell? ⟨b1, o1 + k * 5 + 1, none⟩ = some (.int .i64 y) ∧ W.cell? ⟨b1, o1 + k * 5 + 2, none⟩ = some (.int .i64 z) ∧ W.cell? ⟨b1, o1 + k * 5 + 3, none⟩ = some (.slice sp1 s.length sc1) ∧ W.cell? ⟨b1, o1 + k * 5 + 4, none⟩ = some (.slice pp1 p.length pc1)) ∧
    W.cell? ⟨b2, o2 + k * 5, none⟩ = some (.int .i64 x) ∧ W.cell? ⟨b2, o2 + k * 5 + 1, none⟩ = some (.int .i64 y) ∧ W.cell? ⟨b2, o2 + k * 5 + 2, none⟩ = some (.int .i64 z) ∧ W.cell? ⟨b2, o2 + k * 5 + 3, none⟩ = some (.slice sp2 s.length sc2) ∧ W.cell? ⟨b2, o2 + k * 5 + 4, none⟩ = some (.slice pp2 p.length pc2)
  n1 : NumsAt .i64 W sp1 s
  n2 : NumsAt .i64 W pp1 p
  m1 : NumsAt .i64 W sp2 s
  m2 : NumsAt .i64 W pp2 p
theorem Sm.next {w W W' : World} {b1 o1 b2 o2 k : Nat} {x y z : Int} {s p : List Int} {sp1 pp1 sp2 pp2 : Option Addr} {sc1 pc1 sc2 pc2 : Nat} (h : Sm w W b1 o1 b2 o2 k x y z s p sp1 pp1 sp2 pp2 sc1 pc1 sc2 pc2) (hb : Below W.heap.size W W') : Sm w W' b1 o1 b2 o2 k x y z s p sp1 pp1 sp2 pp2 sc1 pc1 sc2 pc2 := by
  obtain ⟨hl, l1, l2, ⟨⟨c0, c1, c2, c3, c4⟩, d0, d1, d2, d3, d4⟩, n1, n2, m1, m2⟩ := h
  exact ⟨hl.trans (hb.mono hl.size), Nat.lt_of_lt_of_le l1 hb.size, Nat.lt_of_lt_of_le l2 hb.size,
    ⟨⟨(hb.cell (p := ⟨b1, _, none⟩) l1).trans c0, (hb.cell (p := ⟨b1, _, none⟩) l1).trans c1, (hb.cell (p := ⟨b1, _, none⟩) l1).trans c2, (hb.cell (p := ⟨b1, _, none⟩) l1).trans c3, (hb.cell (p := ⟨b1, _, none⟩) l1).trans c4⟩,
      (hb.cell (p := ⟨b2, _, none⟩) l2).trans d0, (hb.cell (p := ⟨b2, _, none⟩) l2).trans d1, (hb.cell (p := ⟨b2, _, none⟩) l2).trans d2, (hb.cell (p := ⟨b2, _, none⟩) l2).trans d3, (hb.cell (p := ⟨b2, _, none⟩) l2).trans d4⟩, n1.below hb, n2.below hb, m1.below hb, m2.below hb⟩
set_option maxRecDepth 100000 in
set_option maxHeartbeats 4000000 in
theorem rsame_eq (p q : Option Addr) (c d : Nat) (B : List Bk) (w : World) (h1 : BksAt w p B) (h2 : BksAt w q B) : Calls Try.prog 9 #[.slice p B.length c, .slice q B.length d] w fun e w' => e = .returned (.bool true) ∧ Below w.heap.size w w' := by
  have hs := h1.small
  have H1 := Lib.hid h1
  have H2 := Lib.hid h2
  obtain ⟨N, hN⟩ : ∃ N, B.length = N := ⟨_, rfl⟩
  rw [hN] at hs ⊢
  have HN0 := Lib.hid hN
  clear hN h1 h2
  go_enter Try.func9, Try.ntmps9
  go_wp2
  go_loopw [5] (fun i wr => ∃ k : Nat, k ≤ N ∧ i = .int .i64 k ∧ Below w.heap.size w wr) (fun i _ => N - (intOf i).toNat)
  case atStart => exact ⟨0, Nat.zero_le _, rfl, Below.refl _ _⟩
  case round =>
    obtain ⟨k, hk, rfl, hb⟩ := hrel
    have HB := Lib.hid hb
    by_cases hlt : k < N
    · obtain ⟨b1, o1, sp1, sc1, pp1, pc1, rfl, hl1, c0, c1, c2, c3, c4, n1, n2⟩ := (H1.out.below hb.drew).cells k (by rw [HN0.out]; exact hlt)
      obtain ⟨b2, o2, sp2, sc2, pp2, pc2, rfl, hl2, d0, d1, d2, d3, d4, m1, m2⟩ := (H2.out.below hb.drew).cells k (by rw [HN0.out]; exact hlt)
      have HN := Lib.hid (Sm.mk hb.drew hl1 hl2 ⟨⟨c0, c1, c2, c3, c4⟩, d0, d1, d2, d3, d4⟩ n1 n2 m1 m2)
      clear hb n1 n2 m1 m2 c0 c1 c2 c3 c4 d0 d1 d2 d3 d4 hl1 hl2 H1 H2 HN0 HB
      generalize (bk B k).fr = x at *
      generalize (bk B k).to = y at *
      generalize (bk B k).la = z at *
      generalize (bk B k).su = s at *
      generalize (bk B k).pr = t at *
      have HI := Lib.hid (fun W h1 h2 => ints_eq sp1 sp2 sc1 sc2 s W h1 h2)
      have HP := Lib.hid (fun W h1 h2 => ints_eq pp1 pp2 pc1 pc2 t W h1 h2)
      have F := HN.out.cs
      go_wp2_with fail
      simp only [List.append_eq, List.cons_append, List.nil_append]
      go_region_held3 (fun W => (W.cell? ⟨b1, o1 + k * 5, none⟩ = some (.int .i64 x) ∧ W.cell? ⟨b1, o1 + k * 5 + 1, none⟩ = some (.int .i64 y) ∧ W.cell? ⟨b1, o1 + k * 5 + 2, none⟩ = some (.int .i64 z) ∧ W.cell? ⟨b1, o1 + k * 5 + 3, none⟩ = some (.slice sp1 s.length sc1) ∧ W.cell? ⟨b1, o1 + k * 5 + 4, none⟩ = some (.slice pp1 t.length pc1)) ∧
          W.cell? ⟨b2, o2 + k * 5, none⟩ = some (.int .i64 x) ∧ W.cell? ⟨b2, o2 + k * 5 + 1, none⟩ = some (.int .i64 y) ∧ W.cell? ⟨b2, o2 + k * 5 + 2, none⟩ = some (.int .i64 z) ∧ W.cell? ⟨b2, o2 + k * 5 + 3, none⟩ = some (.slice sp2 s.length sc2) ∧ W.cell? ⟨b2, o2 + k * 5 + 4, none⟩ = some (.slice pp2 t.length pc2))
        (with_reducible exact HN.out.cs)
        (first
        | (go_at_call 10; (with_reducible refine (HI.out _ HN.out.n1 HN.out.m1).mono ?_); rintro e w1 ⟨rfl, hb⟩; have H' := Lib.hid (HN.out.next hb); clear hb HN F; have HN := H'; clear H'; have F := HN.out.cs)
        | (go_at_call 10; (with_reducible refine (HP.out _ HN.out.n2 HN.out.m2).mono ?_); rintro e w1 ⟨rfl, hb⟩; have H' := Lib.hid (HN.out.next hb); clear hb HN F; have HN := H'; clear H'; have F := HN.out.cs))
      all_goals
        go_wp2_with fail
        go_roundw
        case rel => exact ⟨k + 1, by omega, by go_num, HN.out.low⟩
        case measure => simp [intOf]; omega
    · clear hb
      go_wp2
      go_ret
      exact ⟨rfl, HB.out⟩
end Go.Proofs.Ytlpijnnlmgoihaa
