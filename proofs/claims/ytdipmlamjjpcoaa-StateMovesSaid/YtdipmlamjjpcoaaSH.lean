/- States: the document's own answer on what is loaded, whole. -/
import Derived.Test.YtdipmlamjjpcoaaSG
namespace Go.Proofs.Ytdipmlamjjpcoaa
open Go.RowKit
attribute [local go_sem] b_and b_or b_xor b_andNot b_low b_top b_most b_signed b_unsigned b_zero b_eq s_eq b_nzero b_neq s_neq b_max b_min s_max s_min
attribute [local go_sem ↓] Go.wp_at_zero Go.wp_at_succ

set_option maxRecDepth 100000 in
set_option maxHeartbeats 1000000 in
theorem rload_w0 (A : AbA) (s : Ab) (k : Nat) (w : World) (h : AbAt w A s) (hp : placesS s (8 * (k : Int)) (8 * (k : Int)) 8 = true) (hr : readyS s (8 * (k : Int)) (8 * (k : Int) + 8) = true) (h0 : (rg s.saved k).kind = 0) : Calls Try.prog 16 #[.agg #[.slice A.p1 s.regs.length A.c1, .slice A.p2 s.set.length A.c2, .slice A.p3 s.saved.length A.c3], .int .i64 (8 * (k : Int)), .int .i64 (8 * (k : Int)), .int .i64 8] w fun e w' => e = .returned (.tuple #[.agg #[.int .i64 1, .int .u64 (U bany.ul), .int .u64 (U bany.uh), .int .i64 (S bany.sl), .int .i64 (S bany.sh), .int .u64 (U bany.t.v), .int .u64 (U bany.t.m), .int .i64 0], .bool true]) ∧ Below w.heap.size w w' := by
  have HP := Lib.hid (fun (W : World) (hb : Below w.heap.size w W) => rplaces_any A s (8 * (k : Int)) (8 * (k : Int)) 8 W (h.below hb))
  have HR := Lib.hid (fun (W : World) (hb : Below w.heap.size w W) => rready_any A s (8 * (k : Int)) ((8 * (k : Int)) + 8) W (h.below hb))
  obtain ⟨hc, q1, q2, q3, q4, q5⟩ := places_iff.1 hp
  have hk : k < 64 := by omega
  have n3 := (check_iff.1 hc).1.2.2
  have HV := Lib.hid (fun (W : World) (hb : Below w.heap.size w W) => (h.below hb).v.cells k (by omega))
  obtain ⟨b3, o3, hp3, _⟩ := h.v.cells k (by omega)
  have HZ := Lib.hid (fun W => rbsize_any 8 W)
  rw [show bsize 8 = bany from rfl] at HZ
  rw [h0] at HV
  rw [hp] at HP
  rw [hr] at HR
  have HP3 := Lib.hid hp3
  clear hp hr hc h hp3
  rw [HP3.out] at HP HR ⊢
  clear h0
  generalize bany = m at *
  generalize rg s.saved k = x at *
  generalize s.regs.length = N1 at *
  generalize s.set.length = N2 at *
  rw [n3] at HP HR ⊢
  go_enter Try.func16, Try.ntmps16
  go_wp2_with (first
    | (go_at_call 13; (with_reducible refine (HZ.out _).mono ?_); rintro e w3 ⟨rfl, hb⟩; have H' := Lib.hid (HN.out.next hb); clear hb HN F; have HN := H'; clear H'; have F := HN.out.f)
    | (go_at_call 22; (with_reducible refine (HR.out _ HN.out.low).mono ?_); rintro e w2 ⟨rfl, hb⟩; have H' := Lib.hid (HN.out.next hb); clear hb HN F; have HN := H'; clear H'; have F := HN.out.f; obtain ⟨b', off', hq, hbl, e0, e1, e2, e3, e4, e5, e6, e7⟩ := HV.out _ HN.out.low; obtain ⟨rfl, rfl⟩ : b3 = b' ∧ o3 = off' := (by rw [HP3.out] at hq; injection hq with hq; injection hq with h1 h2; exact ⟨h1, h2⟩))
    | (go_at_call 41; (with_reducible refine (HP.out _ b2).mono ?_); rintro e w1 ⟨rfl, hb⟩; have HN := Lib.hid ((Lo.new w _ _ _ _ _).next hb); clear hb; have F := HN.out.f))
  exact bodyPost_ret (v := .tuple #[.agg #[.int .i64 1, .int .u64 (U m.ul), .int .u64 (U m.uh), .int .i64 (S m.sl), .int .i64 (S m.sh), .int .u64 (U m.t.v), .int .u64 (U m.t.m), .int .i64 0], .bool true]) (by simp [results, Try.results16, go_sem, F]) rfl ⟨rfl, by repeat (first | with_reducible exact HN.out.low | with_reducible refine Below.setCell ?_ (by first | (simp; omega) | simp) _)⟩
set_option maxRecDepth 100000 in
set_option maxHeartbeats 1000000 in
theorem rload_w1 (A : AbA) (s : Ab) (k : Nat) (w : World) (h : AbAt w A s) (hp : placesS s (8 * (k : Int)) (8 * (k : Int)) 8 = true) (hr : readyS s (8 * (k : Int)) (8 * (k : Int) + 8) = true) (h0 : ¬ (rg s.saved k).kind = 0) : Calls Try.prog 16 #[.agg #[.slice A.p1 s.regs.length A.c1, .slice A.p2 s.set.length A.c2, .slice A.p3 s.saved.length A.c3], .int .i64 (8 * (k : Int)), .int .i64 (8 * (k : Int)), .int .i64 8] w fun e w' => e = .returned (.tuple #[.agg #[.int .i64 ((rg s.saved k)).kind, .int .u64 (U ((rg s.saved k)).num.ul), .int .u64 (U ((rg s.saved k)).num.uh), .int .i64 (S ((rg s.saved k)).num.sl), .int .i64 (S ((rg s.saved k)).num.sh), .int .u64 (U ((rg s.saved k)).num.t.v), .int .u64 (U ((rg s.saved k)).num.t.m), .int .i64 ((rg s.saved k)).reg], .bool true]) ∧ Below w.heap.size w w' := by
  have HP := Lib.hid (fun (W : World) (hb : Below w.heap.size w W) => rplaces_any A s (8 * (k : Int)) (8 * (k : Int)) 8 W (h.below hb))
  have HR := Lib.hid (fun (W : World) (hb : Below w.heap.size w W) => rready_any A s (8 * (k : Int)) ((8 * (k : Int)) + 8) W (h.below hb))
  obtain ⟨hc, q1, q2, q3, q4, q5⟩ := places_iff.1 hp
  have hk : k < 64 := by omega
  have n3 := (check_iff.1 hc).1.2.2
  have HV := Lib.hid (fun (W : World) (hb : Below w.heap.size w W) => (h.below hb).v.cells k (by omega))
  obtain ⟨b3, o3, hp3, _⟩ := h.v.cells k (by omega)
  rw [hp] at HP
  rw [hr] at HR
  have HP3 := Lib.hid hp3
  clear hp hr hc h hp3
  rw [HP3.out] at HP HR ⊢
  generalize rg s.saved k = x at *
  generalize s.regs.length = N1 at *
  generalize s.set.length = N2 at *
  rw [n3] at HP HR ⊢
  go_enter Try.func16, Try.ntmps16
  go_wp2_with (first
    | (go_at_call 22; (with_reducible refine (HR.out _ HN.out.low).mono ?_); rintro e w2 ⟨rfl, hb⟩; have H' := Lib.hid (HN.out.next hb); clear hb HN F; have HN := H'; clear H'; have F := HN.out.f; obtain ⟨b', off', hq, hbl, e0, e1, e2, e3, e4, e5, e6, e7⟩ := HV.out _ HN.out.low; obtain ⟨rfl, rfl⟩ : b3 = b' ∧ o3 = off' := (by rw [HP3.out] at hq; injection hq with hq; injection hq with h1 h2; exact ⟨h1, h2⟩))
    | (go_at_call 41; (with_reducible refine (HP.out _ b2).mono ?_); rintro e w1 ⟨rfl, hb⟩; have HN := Lib.hid ((Lo.new w _ _ _ _ _).next hb); clear hb; have F := HN.out.f))
  exact bodyPost_ret (v := .tuple #[.agg #[.int .i64 x.kind, .int .u64 (U x.num.ul), .int .u64 (U x.num.uh), .int .i64 (S x.num.sl), .int .i64 (S x.num.sh), .int .u64 (U x.num.t.v), .int .u64 (U x.num.t.m), .int .i64 x.reg], .bool true]) (by simp [results, Try.results16, go_sem, F]) rfl ⟨rfl, by repeat (first | with_reducible exact HN.out.low | with_reducible refine Below.setCell ?_ (by first | (simp; omega) | simp) _)⟩
theorem tmod_of {low : Int} (h : 0 ≤ low) (h8 : ¬ low % 8 = 0) : ¬ low.tmod 8 = 0 := by
  rw [Int.tmod_eq_emod_of_nonneg h]; exact h8
theorem rload_any (A : AbA) (s : Ab) (low high n : Int) (w : World) (h : AbAt w A s) : Calls Try.prog 16 #[.agg #[.slice A.p1 s.regs.length A.c1, .slice A.p2 s.set.length A.c2, .slice A.p3 s.saved.length A.c3], .int .i64 low, .int .i64 high, .int .i64 n] w fun e w' => e = .returned (.tuple #[.agg #[.int .i64 ((loadS s low high n).1).kind, .int .u64 (U ((loadS s low high n).1).num.ul), .int .u64 (U ((loadS s low high n).1).num.uh), .int .i64 (S ((loadS s low high n).1).num.sl), .int .i64 (S ((loadS s low high n).1).num.sh), .int .u64 (U ((loadS s low high n).1).num.t.v), .int .u64 (U ((loadS s low high n).1).num.t.m), .int .i64 ((loadS s low high n).1).reg], .bool (loadS s low high n).2]) ∧ Below w.heap.size w w' := by
  cases hp : placesS s low high n with
  | false => rw [load_none (.inl hp)]; exact rload_no1 A s low high n w h hp
  | true =>
    cases hr : readyS s low (high + n) with
    | false => rw [load_none (.inr hr)]; exact rload_no2 A s low high n w h hp hr
    | true =>
      rw [load_yes hp hr]
      obtain ⟨hc, q1, q2, q3, q4, q5⟩ := places_iff.1 hp
      by_cases e1 : low = high
      · subst e1
        by_cases e2 : n = 8
        · subst e2
          by_cases e3 : low % 8 = 0
          · obtain ⟨k, rfl⟩ : ∃ k : Nat, low = 8 * (k : Int) := ⟨(low / 8).toNat, by omega⟩
            have ek : (8 * (k : Int)).toNat / 8 = k := by omega
            by_cases h0 : (rg s.saved k).kind = 0
            · have ew : wholeB s (8 * (k : Int)) (8 * (k : Int)) 8 = false := by
                unfold wholeB; rw [ek, decide_eq_false (show ¬ ((rg s.saved k).kind ≠ 0) from fun c => c h0), Bool.and_false]
              rw [ew, if_neg (by simp)]
              exact rload_w0 A s k w h hp hr h0
            · have ew : wholeB s (8 * (k : Int)) (8 * (k : Int)) 8 = true := by
                unfold wholeB; rw [ek, decide_eq_true (show (rg s.saved k).kind ≠ 0 from h0), decide_eq_true (show 8 * (k : Int) = 8 * (k : Int) ∧ (8 : Int) = 8 ∧ 8 * (k : Int) % 8 = 0 from ⟨rfl, rfl, by omega⟩)]; rfl
              rw [ew, if_pos rfl, ek]
              exact rload_w1 A s k w h hp hr h0
          · rw [whole_no (fun c => e3 c.2.2), if_neg (by simp)]
            exact rload_n3 A s low w h hp hr (tmod_of q1 e3) e3 _ rfl
        · rw [whole_no (fun c => e2 c.2.1), if_neg (by simp)]
          exact rload_n2 A s low n w h hp hr e2 _ rfl
      · rw [whole_no (fun c => e1 c.1), if_neg (by simp)]
        exact rload_n1 A s low high n w h hp hr e1 _ rfl
end Go.Proofs.Ytdipmlamjjpcoaa
