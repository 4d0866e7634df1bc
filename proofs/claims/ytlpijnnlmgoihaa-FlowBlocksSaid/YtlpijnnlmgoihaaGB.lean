/- Flow: the law on which blocks a program has. -/
import Derived.Test.YtlpijnnlmgoihaaGH
import Derived.Test.YtlpijnnlmgoihaaGY
namespace Go.Proofs.Ytlpijnnlmgoihaa
open Go.RowKit M

/-- what the law holds -/
structure Fb (w W : World) (q : Option Addr) (l : List In) (p1 p2 p3 : Option Addr) (B1 B2 : List Bk) (R : List Int) : Prop where
  low : Below w.heap.size w W
  ins : InsAt W q l
  b1 : BksAt W p1 B1
  b2 : BksAt W p2 B2
  n3 : NumsAt .i64 W p3 R
theorem Fb.next {w W W' : World} {q : Option Addr} {l : List In} {p1 p2 p3 : Option Addr} {B1 B2 : List Bk} {R : List Int} (h : Fb w W q l p1 p2 p3 B1 B2 R) (hb : Below W.heap.size W W') : Fb w W' q l p1 p2 p3 B1 B2 R :=
  ⟨h.low.trans (hb.mono h.low.size), h.ins.below hb, h.b1.below hb, h.b2.below hb, h.n3.below hb⟩
theorem bks_nil (w : World) : BksAt w none [] := ⟨by simp, fun i hi => absurd hi (Nat.not_lt_zero _)⟩
set_option maxRecDepth 100000 in
set_option maxHeartbeats 4000000 in
theorem blocks_law (q : Option Addr) (qc : Nat) (l : List In) (i : Int) (w : World) (h : InsAt w q l) : Calls Try.prog 3 #[.slice q l.length qc, .int .i64 i] w fun e w' => e = .returned (.bool true) ∧ Below w.heap.size w w' := by
  have H1 := Lib.hid (fun W hW => sblocks_any q qc l W hW)
  have H2 := Lib.hid (fun W hW => rblocks_any q qc l W hW)
  have H3 := Lib.hid (fun W hW => sreach_any q qc l W hW)
  have H4 := Lib.hid (fun W hW => rreach_any q qc l W hW)
  have H5 := Lib.hid (fun p c d q W h1 h2 => rsame_eq p q c d (blocksL l) W h1 h2)
  have H6 := Lib.hid (fun p c W hW => sfind_any p c (blocksL l) i W hW)
  have H7 := Lib.hid (fun p c W hW => rfindB_any p c (blocksL l) i W hW)
  have H8 := Lib.hid (fun p c d q W h1 h2 => ints_eq p q c d (reachI l) W h1 h2)
  have HN := Lib.hid (Fb.mk (Below.refl w.heap.size w) h (bks_nil w) (bks_nil w) (nums_nil w none))
  clear h
  generalize findB (blocksL l) i = F at *
  generalize blocksL l = B at *
  generalize reachI l = R at *
  generalize (checkS l).2 = E at *
  generalize B.length = n at *
  generalize R.length = r at *
  generalize l.length = N at *
  go_enter Try.func3, Try.ntmps3
  go_wp2_with (first
    | (go_at_call 7; (with_reducible refine (H1.out _ HN.out.ins).mono ?_); rintro e w1 ⟨p1, c1, rfl, h1, hb⟩; have H' := HN.out.next hb; have HN' := Lib.hid (Fb.mk H'.low H'.ins h1 H'.b2 H'.n3); clear hb h1 H' HN; have HN := HN'; clear HN')
    | (go_at_call 8; (with_reducible refine (H2.out _ HN.out.ins).mono ?_); rintro e w2 ⟨p2, c2, rfl, h2, hb⟩; have H' := HN.out.next hb; have HN' := Lib.hid (Fb.mk H'.low H'.ins H'.b1 h2 H'.n3); clear hb h2 H' HN; have HN := HN'; clear HN')
    | (go_at_call 9; (with_reducible refine (H5.out _ _ _ _ _ HN.out.b1 HN.out.b2).mono ?_); rintro e w3 ⟨rfl, hb⟩; have H' := Lib.hid (HN.out.next hb); clear hb HN; have HN := H'; clear H')
    | (go_at_call 11; (with_reducible refine (H3.out _ HN.out.ins).mono ?_); rintro e w4 ⟨p4, c4, rfl, h4, hb⟩; have H' := HN.out.next hb; have HN' := Lib.hid (Fb.mk H'.low H'.ins H'.b1 H'.b2 h4); clear hb h4 H' HN; have HN := HN'; clear HN')
    | (go_at_call 12; (with_reducible refine (H4.out _ HN.out.ins).mono ?_); rintro e w5 ⟨p5, c5, rfl, h5, hb⟩; have HR5 := Lib.hid h5; have H' := Lib.hid (HN.out.next hb); clear hb h5 HN; have HN := H'; clear H')
    | (go_at_call 10; (with_reducible refine (H8.out _ _ _ _ _ HN.out.n3 HR5.out).mono ?_); rintro e w6 ⟨rfl, hb⟩; have H' := Lib.hid (HN.out.next hb); clear hb HN; have HN := H'; clear H')
    | (go_at_call 13; (with_reducible refine (H6.out _ _ _ HN.out.b2).mono ?_); rintro e w7 ⟨rfl, hb⟩; have H' := Lib.hid (HN.out.next hb); clear hb HN; have HN := H'; clear H')
    | (go_at_call 14; (with_reducible refine (H7.out _ _ _ HN.out.b2).mono ?_); rintro e w8 ⟨rfl, rfl⟩)
    | (go_at_call 15; (with_reducible refine (heads14_any _).mono ?_); rintro e w9 ⟨rfl, hb⟩; have H' := Lib.hid (HN.out.next hb); clear hb HN; have HN := H'; clear H'))
  go_ret
  exact ⟨rfl, HN.out.low⟩
end Go.Proofs.Ytlpijnnlmgoihaa
