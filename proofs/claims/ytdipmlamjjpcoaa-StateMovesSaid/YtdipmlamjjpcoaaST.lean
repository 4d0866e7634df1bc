/- States: the document's own Store, whole. -/
import Derived.Test.YtdipmlamjjpcoaaSS
namespace Go.Proofs.Ytdipmlamjjpcoaa
open Go.RowKit
attribute [local go_sem] b_and b_or b_xor b_andNot b_low b_top b_most b_signed b_unsigned b_zero b_eq s_eq b_nzero b_neq s_neq b_max b_min s_max s_min
attribute [local go_sem ↓] Go.wp_at_zero Go.wp_at_succ

theorem vAt_end (v : List Kn) {a e : Nat} (h : a < e) : vAt v a e = clearK v a e := if_neg (by omega)
theorem rstore_any (A : AbA) (s : Ab) (low high n : Int) (k : Kn) (w : World) (h : AbAt w A s) : Calls Try.prog 20 #[.agg #[.slice A.p1 s.regs.length A.c1, .slice A.p2 s.set.length A.c2, .slice A.p3 s.saved.length A.c3], .int .i64 low, .int .i64 high, .int .i64 n, .agg #[.int .i64 k.kind, .int .u64 (U k.num.ul), .int .u64 (U k.num.uh), .int .i64 (S k.num.sl), .int .i64 (S k.num.sh), .int .u64 (U k.num.t.v), .int .u64 (U k.num.t.m), .int .i64 k.reg]] w fun e w' => ∃ B : AbA, e = .returned (.agg #[.slice B.p1 ((storeS s low high n k)).regs.length B.c1, .slice B.p2 ((storeS s low high n k)).set.length B.c2, .slice B.p3 ((storeS s low high n k)).saved.length B.c3]) ∧ AbAt w' B (storeS s low high n k) ∧ Below w.heap.size w w' := by
  cases hp : placesS s low high n with
  | false =>
    rw [show storeS s low high n k = s by unfold storeS; rw [if_neg (by rw [hp]; simp)]]
    exact rstore_p A s low high n k w h hp
  | true =>
    cases hk : right k with
    | false =>
      rw [show storeS s low high n k = s by unfold storeS; rw [if_neg (by rw [hk]; simp)]]
      exact rstore_k A s low high n k w h hp hk
    | true =>
      have hp' := hp
      obtain ⟨hc, p1, p2, p3, p4, p5⟩ := places_iff.1 hp'
      obtain ⟨a, rfl⟩ : ∃ a : Nat, low = (a : Int) := ⟨low.toNat, by omega⟩
      obtain ⟨b, rfl⟩ : ∃ b : Nat, high = (b : Int) := ⟨high.toNat, by omega⟩
      obtain ⟨c, rfl⟩ : ∃ c : Nat, n = (c : Int) := ⟨n.toNat, by omega⟩
      obtain ⟨n1, n2, n3⟩ := (check_iff.1 hc).1
      have e : storeS s a b c k = stN s a b c k := by unfold storeS; rw [if_pos (by rw [hp, hk]; rfl)]; rfl
      rw [e]
      have key : ∀ T : Ab, stN s a b c k = T → T.regs.length = 11 → T.set.length = 512 → T.saved.length = 64 → Calls Try.prog 20 #[.agg #[.slice A.p1 11 A.c1, .slice A.p2 512 A.c2, .slice A.p3 64 A.c3], .int .i64 (a : Int), .int .i64 (b : Int), .int .i64 (c : Int), .agg #[.int .i64 k.kind, .int .u64 (U k.num.ul), .int .u64 (U k.num.uh), .int .i64 (S k.num.sl), .int .i64 (S k.num.sh), .int .u64 (U k.num.t.v), .int .u64 (U k.num.t.m), .int .i64 k.reg]] w (PutPost w T 11 512 64) → Calls Try.prog 20 #[.agg #[.slice A.p1 s.regs.length A.c1, .slice A.p2 s.set.length A.c2, .slice A.p3 s.saved.length A.c3], .int .i64 (a : Int), .int .i64 (b : Int), .int .i64 (c : Int), .agg #[.int .i64 k.kind, .int .u64 (U k.num.ul), .int .u64 (U k.num.uh), .int .i64 (S k.num.sl), .int .i64 (S k.num.sh), .int .u64 (U k.num.t.v), .int .u64 (U k.num.t.m), .int .i64 k.reg]] w fun e w' => ∃ B : AbA, e = .returned (.agg #[.slice B.p1 ((stN s a b c k)).regs.length B.c1, .slice B.p2 ((stN s a b c k)).set.length B.c2, .slice B.p3 ((stN s a b c k)).saved.length B.c3]) ∧ AbAt w' B (stN s a b c k) ∧ Below w.heap.size w w' := by
        rintro T rfl m1 m2 m3 H
        rw [m1, m2, m3, n1, n2, n3]
        exact H
      by_cases hab : a = b
      · subst hab
        by_cases h8 : c = 8
        · subst h8
          by_cases h9 : a % 8 = 0
          · refine key ⟨s.regs, fillT s.set a 8, (vAt s.saved a (a + 8)).set (a / 8) k⟩ ?_ n1 (by rw [fillT_len]; exact n2) (by rw [List.length_set, vAt_len]; exact n3) (rstore_w A s a k w h hp hk (by omega) (by rw [Int.tmod_eq_emod_of_nonneg (by omega)]; omega))
            unfold stN
            rw [if_pos rfl, if_pos ⟨rfl, rfl, h9⟩, vAt_end _ (by omega)]
          · refine key ⟨s.regs, fillT s.set a 8, vAt s.saved a (a + 8)⟩ ?_ n1 (by rw [fillT_len]; exact n2) (by rw [vAt_len]; exact n3) (rstore_r A s a k w h hp hk (by omega) (by rw [Int.tmod_eq_emod_of_nonneg (by omega)]; omega))
            unfold stN
            rw [if_pos rfl, if_neg (fun c => h9 c.2.2), vAt_end _ (by omega)]
        · refine key ⟨s.regs, fillT s.set a c, vAt s.saved a (a + c)⟩ ?_ n1 (by rw [fillT_len]; exact n2) (by rw [vAt_len]; exact n3) (rstore_n A s a c k w h hp hk h8)
          unfold stN
          rw [if_pos rfl, if_neg (fun c => h8 c.2.1), vAt_end _ (by omega)]
      · refine key ⟨s.regs, s.set, vAt s.saved a (b + c)⟩ ?_ n1 n2 (by rw [vAt_len]; exact n3) (rstore_far A s a b c k w h hp hk (by omega))
        unfold stN
        rw [if_neg hab, if_neg (fun c => hab c.1), vAt_end _ (by omega)]
end Go.Proofs.Ytdipmlamjjpcoaa
