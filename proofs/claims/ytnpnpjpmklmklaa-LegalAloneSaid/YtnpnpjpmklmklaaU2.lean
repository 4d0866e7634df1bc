/- What the laws ask at any rate comes true. -/
import Derived.Test.YtnpnpjpmklmklaaU
namespace Go.Proofs.Ytnpnpjpmklmklaa
open Go.RowKit M

set_option maxRecDepth 100000 in
set_option maxHeartbeats 4000000 in
theorem heads_any (w : World) :
    Calls Try.prog 14 #[] w fun e w' => e = .returned (.bool true) ∧ Below w.heap.size w w' := by
  go_enter Try.func14, Try.ntmps14
  go_wp2_with (first
    | (go_at_call 15; (with_reducible refine (head1 _ _ _).mono ?_); rintro e w1 ⟨rfl, hb⟩; have B1 := Lib.hid (below3 hb); obtain ⟨hc1, hf1⟩ := bcell hb; have hz0 : w.heap.size < w1.heap.size := (by have := hb.size; simp at this; omega); have hz1 : w.heap.size + 1 < w1.heap.size := (by have := hb.size; simp at this; omega); clear hb)
    | (go_at_call 15; (with_reducible refine (head2 _).mono ?_); rintro e w2 ⟨rfl, hb⟩; have B2 := Lib.hid (below_next B1.out (below1 hb)); obtain ⟨hc2, hf2⟩ := bcell (below1 hb); have hy0 : w.heap.size < w2.heap.size := (by have := hb.size; simp at this; omega); clear hb)
    | (go_at_call 15; (with_reducible refine (head3 _).mono ?_); rintro e w3 ⟨rfl, hb⟩; have B3 := Lib.hid (below_next B2.out hb); obtain ⟨hc3, hf3⟩ := bcell hb; clear hb)
    | (go_at_call 8; refine (headA _).mono ?_; rintro e w4 ⟨rfl, rfl⟩)
    | (go_at_call 10; refine (headJ _).mono ?_; rintro e w4 ⟨rfl, rfl⟩)
    | (go_at_call 12; refine (headS _).mono ?_; rintro e w4 ⟨rfl, rfl⟩)
    | (go_at_call 20; refine (head4 _).mono ?_; rintro e w5 ⟨p, cap, rfl, hn, hb⟩; have B5 := Lib.hid (below_next B3.out (below1 hb)); have N5 := Lib.hid hn; clear hb hn)
    | (go_at_call 19; refine (head5 _ _ _ N5.out).mono ?_; rintro e w6 ⟨rfl, hb⟩; have B6 := Lib.hid (below_next B5.out (below1 hb)); clear hb))
  go_ret
  exact ⟨rfl, B6.out⟩
end Go.Proofs.Ytnpnpjpmklmklaa
