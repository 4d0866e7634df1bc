/- States: the law that being within goes on. -/
import Derived.Test.YtdipmlamjjpcoaaTB
namespace Go.Proofs.Ytdipmlamjjpcoaa
open Go.RowKit
attribute [local go_sem] b_and b_or b_xor b_andNot b_low b_top b_most b_signed b_unsigned b_zero b_eq s_eq b_nzero b_neq s_neq b_max b_min s_max s_min
attribute [local go_sem ↓] Go.wp_at_zero Go.wp_at_succ

theorem within_no1 {a b : Ab} (h : checkS a = false) : withinS a b = false := by
  cases e : withinS a b with
  | false => rfl
  | true => rw [(within_iff.1 e).1] at h; cases h
theorem Hs.abc {w : World} {A B C : AbA} {a b c : Ab} (hA : AbAt w A a) (hB : AbAt w B b) (hC : AbAt w C c) (t : TypeId) :
    Hs w (((w.alloc (.cells #[.slice A.p1 a.regs.length A.c1, .slice A.p2 a.set.length A.c2, .slice A.p3 a.saved.length A.c3] t)).alloc (.cells #[.slice B.p1 b.regs.length B.c1, .slice B.p2 b.set.length B.c2, .slice B.p3 b.saved.length B.c3] t)).alloc (.cells #[.slice C.p1 c.regs.length C.c1, .slice C.p2 c.set.length C.c2, .slice C.p3 c.saved.length C.c3] t))
      [(w.heap.size + 1 + 1, [.slice C.p1 c.regs.length C.c1, .slice C.p2 c.set.length C.c2, .slice C.p3 c.saved.length C.c3]), (w.heap.size + 1, [.slice B.p1 b.regs.length B.c1, .slice B.p2 b.set.length B.c2, .slice B.p3 b.saved.length B.c3]), (w.heap.size, [.slice A.p1 a.regs.length A.c1, .slice A.p2 a.set.length A.c2, .slice A.p3 a.saved.length A.c3])]
      [(C, c), (B, b), (A, a)] := by
  have h := (((((((Hs.start w).add hA).add hB).add hC).new3 (.slice A.p1 a.regs.length A.c1) (.slice A.p2 a.set.length A.c2) (.slice A.p3 a.saved.length A.c3) t).new3 (.slice B.p1 b.regs.length B.c1) (.slice B.p2 b.set.length B.c2) (.slice B.p3 b.saved.length B.c3) t).new3 (.slice C.p1 c.regs.length C.c1) (.slice C.p2 c.set.length C.c2) (.slice C.p3 c.saved.length C.c3) t)
  rw [World.size_alloc, World.size_alloc] at h
  exact h
set_option maxRecDepth 100000 in
set_option maxHeartbeats 2000000 in
theorem order_law (A B C : AbA) (a b c : Ab) (w : World) (hA : AbAt w A a) (hB : AbAt w B b) (hC : AbAt w C c) : Calls Try.prog 6 #[.agg #[.slice A.p1 a.regs.length A.c1, .slice A.p2 a.set.length A.c2, .slice A.p3 a.saved.length A.c3], .agg #[.slice B.p1 b.regs.length B.c1, .slice B.p2 b.set.length B.c2, .slice B.p3 b.saved.length B.c3], .agg #[.slice C.p1 c.regs.length C.c1, .slice C.p2 c.set.length C.c2, .slice C.p3 c.saved.length C.c3]] w fun e w' => e = .returned (.bool true) ∧ Below w.heap.size w w' := by
  have HN := Lib.hid (Hs.abc hA hB hC 25)
  have f1 := HN.out.b0.three
  have f2 := HN.out.weak.b0.three
  have f3 := HN.out.weak.weak.b0.three
  have HK := Lib.hid (fun W h => scheck_any A a W h)
  have H0 := Lib.hid (fun W h1 h2 => swithin_any A A a a W h1 h2)
  have H1 := Lib.hid (fun W h1 h2 => swithin_any A B a b W h1 h2)
  have H2 := Lib.hid (fun W h1 h2 => swithin_any B C b c W h1 h2)
  have H3 := Lib.hid (fun W h1 h2 => swithin_any A C a c W h1 h2)
  clear hA hB hC
  cases hc : checkS a with
  | false =>
    rw [hc] at HK
    rw [within_no1 hc] at H1
    clear hc
    go_enter Try.func6, Try.ntmps6
    go_wp2_with (first
      | (go_at_call 23; (with_reducible refine (H1.out _ HN.out.weakA.weakA.a0 HN.out.a1).mono ?_); rintro e w3 ⟨rfl, hb⟩; have H' := Lib.hid (HN.out.next hb); clear hb HN f1 f2 f3; have HN := H'; clear H'; have f1 := HN.out.b0.three; have f2 := HN.out.weak.b0.three; have f3 := HN.out.weak.weak.b0.three)
      | (go_at_call 8; (with_reducible refine (HK.out _ HN.out.weakA.weakA.a0).mono ?_); rintro e w1 ⟨rfl, hb⟩; have H' := Lib.hid (HN.out.next hb); clear hb HN f1 f2 f3; have HN := H'; clear H'; have f1 := HN.out.b0.three; have f2 := HN.out.weak.b0.three; have f3 := HN.out.weak.weak.b0.three)
      | (go_at_call 10; (with_reducible refine (heads_any _).mono ?_); rintro e w9 ⟨rfl, hb⟩; have H' := Lib.hid (HN.out.next hb); clear hb HN f1 f2 f3; have HN := H'; clear H'; have f1 := HN.out.b0.three; have f2 := HN.out.weak.b0.three; have f3 := HN.out.weak.weak.b0.three))
    go_ret
    exact ⟨rfl, HN.out.low⟩
  | true =>
    rw [hc] at HK
    rw [within_refl hc] at H0
    clear hc
    cases h1 : withinS a b with
    | false =>
      rw [h1] at H1
      clear h1
      go_enter Try.func6, Try.ntmps6
      go_wp2_with (first
        | (go_at_call 23; (with_reducible refine (H1.out _ HN.out.weakA.weakA.a0 HN.out.a1).mono ?_); rintro e w3 ⟨rfl, hb⟩; have H' := Lib.hid (HN.out.next hb); clear hb HN f1 f2 f3; have HN := H'; clear H'; have f1 := HN.out.b0.three; have f2 := HN.out.weak.b0.three; have f3 := HN.out.weak.weak.b0.three)
        | (go_at_call 23; (with_reducible refine (H0.out _ HN.out.weakA.weakA.a0 HN.out.weakA.weakA.a0).mono ?_); rintro e w2 ⟨rfl, hb⟩; have H' := Lib.hid (HN.out.next hb); clear hb HN f1 f2 f3; have HN := H'; clear H'; have f1 := HN.out.b0.three; have f2 := HN.out.weak.b0.three; have f3 := HN.out.weak.weak.b0.three)
        | (go_at_call 8; (with_reducible refine (HK.out _ HN.out.weakA.weakA.a0).mono ?_); rintro e w1 ⟨rfl, hb⟩; have H' := Lib.hid (HN.out.next hb); clear hb HN f1 f2 f3; have HN := H'; clear H'; have f1 := HN.out.b0.three; have f2 := HN.out.weak.b0.three; have f3 := HN.out.weak.weak.b0.three)
        | (go_at_call 10; (with_reducible refine (heads_any _).mono ?_); rintro e w9 ⟨rfl, hb⟩; have H' := Lib.hid (HN.out.next hb); clear hb HN f1 f2 f3; have HN := H'; clear H'; have f1 := HN.out.b0.three; have f2 := HN.out.weak.b0.three; have f3 := HN.out.weak.weak.b0.three))
      go_ret
      exact ⟨rfl, HN.out.low⟩
    | true =>
      rw [h1] at H1
      cases h2 : withinS b c with
      | false =>
        rw [h2] at H2
        clear h1 h2
        go_enter Try.func6, Try.ntmps6
        go_wp2_with (first
          | (go_at_call 23; (with_reducible refine (H2.out _ HN.out.a1 HN.out.a0).mono ?_); rintro e w4 ⟨rfl, hb⟩; have H' := Lib.hid (HN.out.next hb); clear hb HN f1 f2 f3; have HN := H'; clear H'; have f1 := HN.out.b0.three; have f2 := HN.out.weak.b0.three; have f3 := HN.out.weak.weak.b0.three)
          | (go_at_call 23; (with_reducible refine (H1.out _ HN.out.weakA.weakA.a0 HN.out.a1).mono ?_); rintro e w3 ⟨rfl, hb⟩; have H' := Lib.hid (HN.out.next hb); clear hb HN f1 f2 f3; have HN := H'; clear H'; have f1 := HN.out.b0.three; have f2 := HN.out.weak.b0.three; have f3 := HN.out.weak.weak.b0.three)
          | (go_at_call 23; (with_reducible refine (H0.out _ HN.out.weakA.weakA.a0 HN.out.weakA.weakA.a0).mono ?_); rintro e w2 ⟨rfl, hb⟩; have H' := Lib.hid (HN.out.next hb); clear hb HN f1 f2 f3; have HN := H'; clear H'; have f1 := HN.out.b0.three; have f2 := HN.out.weak.b0.three; have f3 := HN.out.weak.weak.b0.three)
          | (go_at_call 8; (with_reducible refine (HK.out _ HN.out.weakA.weakA.a0).mono ?_); rintro e w1 ⟨rfl, hb⟩; have H' := Lib.hid (HN.out.next hb); clear hb HN f1 f2 f3; have HN := H'; clear H'; have f1 := HN.out.b0.three; have f2 := HN.out.weak.b0.three; have f3 := HN.out.weak.weak.b0.three)
          | (go_at_call 10; (with_reducible refine (heads_any _).mono ?_); rintro e w9 ⟨rfl, hb⟩; have H' := Lib.hid (HN.out.next hb); clear hb HN f1 f2 f3; have HN := H'; clear H'; have f1 := HN.out.b0.three; have f2 := HN.out.weak.b0.three; have f3 := HN.out.weak.weak.b0.three))
        go_ret
        exact ⟨rfl, HN.out.low⟩
      | true =>
        rw [h2] at H2
        rw [within_trans h1 h2] at H3
        clear h1 h2
        go_enter Try.func6, Try.ntmps6
        go_wp2_with (first
          | (go_at_call 23; (with_reducible refine (H3.out _ HN.out.weakA.weakA.a0 HN.out.a0).mono ?_); rintro e w5 ⟨rfl, hb⟩; have H' := Lib.hid (HN.out.next hb); clear hb HN f1 f2 f3; have HN := H'; clear H'; have f1 := HN.out.b0.three; have f2 := HN.out.weak.b0.three; have f3 := HN.out.weak.weak.b0.three)
          | (go_at_call 23; (with_reducible refine (H2.out _ HN.out.a1 HN.out.a0).mono ?_); rintro e w4 ⟨rfl, hb⟩; have H' := Lib.hid (HN.out.next hb); clear hb HN f1 f2 f3; have HN := H'; clear H'; have f1 := HN.out.b0.three; have f2 := HN.out.weak.b0.three; have f3 := HN.out.weak.weak.b0.three)
          | (go_at_call 23; (with_reducible refine (H1.out _ HN.out.weakA.weakA.a0 HN.out.a1).mono ?_); rintro e w3 ⟨rfl, hb⟩; have H' := Lib.hid (HN.out.next hb); clear hb HN f1 f2 f3; have HN := H'; clear H'; have f1 := HN.out.b0.three; have f2 := HN.out.weak.b0.three; have f3 := HN.out.weak.weak.b0.three)
          | (go_at_call 23; (with_reducible refine (H0.out _ HN.out.weakA.weakA.a0 HN.out.weakA.weakA.a0).mono ?_); rintro e w2 ⟨rfl, hb⟩; have H' := Lib.hid (HN.out.next hb); clear hb HN f1 f2 f3; have HN := H'; clear H'; have f1 := HN.out.b0.three; have f2 := HN.out.weak.b0.three; have f3 := HN.out.weak.weak.b0.three)
          | (go_at_call 8; (with_reducible refine (HK.out _ HN.out.weakA.weakA.a0).mono ?_); rintro e w1 ⟨rfl, hb⟩; have H' := Lib.hid (HN.out.next hb); clear hb HN f1 f2 f3; have HN := H'; clear H'; have f1 := HN.out.b0.three; have f2 := HN.out.weak.b0.three; have f3 := HN.out.weak.weak.b0.three)
          | (go_at_call 10; (with_reducible refine (heads_any _).mono ?_); rintro e w9 ⟨rfl, hb⟩; have H' := Lib.hid (HN.out.next hb); clear hb HN f1 f2 f3; have HN := H'; clear H'; have f1 := HN.out.b0.three; have f2 := HN.out.weak.b0.three; have f3 := HN.out.weak.weak.b0.three))
        go_ret
        exact ⟨rfl, HN.out.low⟩
end Go.Proofs.Ytdipmlamjjpcoaa
