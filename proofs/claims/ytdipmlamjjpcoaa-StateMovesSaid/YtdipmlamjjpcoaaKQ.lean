/- States: package state's store. -/
import Derived.Test.YtdipmlamjjpcoaaKP
import Derived.Test.YtdipmlamjjpcoaaGK
namespace Go.Proofs.Ytdipmlamjjpcoaa
open Go.RowKit
attribute [local go_sem] b_and b_or b_xor b_andNot b_low b_top b_most b_signed b_unsigned b_zero b_eq s_eq b_nzero b_neq s_neq b_max b_min s_max s_min
attribute [local go_sem ↓] Go.wp_at_zero Go.wp_at_succ

/-- in store: its three boxes, the rows -/
structure Si (w W : World) (base c1 c2 c3 : Nat) (lo hi n : Int) (k : Kn) (g1 g2 g3 : Nat) (l : List Kn) (bs : List Bool) (v : List Kn) : Prop where
  low : Below base w W
  b0 : Box W w.heap.size [.slice (some ⟨g1, 0, none⟩) 11 c1, .slice (some ⟨g2, 0, none⟩) 512 c2, .slice (some ⟨g3, 0, none⟩) 64 c3]
  b1 : Box W (w.heap.size + 1) [.int .i64 lo, .int .i64 hi, .int .i64 n]
  b2 : Box W (w.heap.size + 2) (knC k)
  rw : Rw W base l bs v g1 g2 g3
  l1 : l.length = 11
  l2 : bs.length = 512
  l3 : v.length = 64
  t1 : g1 < w.heap.size
  t2 : g2 < w.heap.size
  t3 : g3 < w.heap.size
theorem Si.next {w W W' : World} {base c1 c2 c3 : Nat} {lo hi n : Int} {k : Kn} {g1 g2 g3 : Nat} {l : List Kn} {bs : List Bool} {v : List Kn} (h : Si w W base c1 c2 c3 lo hi n k g1 g2 g3 l bs v) (hb : Below W.heap.size W W') : Si w W' base c1 c2 c3 lo hi n k g1 g2 g3 l bs v :=
  ⟨h.low.trans (hb.mono (by have := h.rw.b1; have := h.rw.r1.lt; omega)), h.b0.next hb, h.b1.next hb, h.b2.next hb, h.rw.next hb, h.l1, h.l2, h.l3, h.t1, h.t2, h.t3⟩
theorem Si.zap {w W : World} {base c1 c2 c3 : Nat} {lo hi n : Int} {k : Kn} {g1 g2 g3 : Nat} {l : List Kn} {bs : List Bool} {v : List Kn} (h : Si w W base c1 c2 c3 lo hi n k g1 g2 g3 l bs v) {a m : Nat} (hm : a + m ≤ 64) : Si w (W.setCells g3 (a * 8) (zeros m)) base c1 c2 c3 lo hi n k g1 g2 g3 l bs (zap v a m) :=
  ⟨below_zap h.rw.b3 h.low, Box.zap (by have := h.t3; omega) h.b0, Box.zap (by have := h.t3; omega) h.b1, Box.zap (by have := h.t3; omega) h.b2, h.rw.zap (by rw [h.l3]; exact hm), h.l1, h.l2, by rw [zap_len]; exact h.l3, h.t1, h.t2, h.t3⟩
theorem Si.set2 {w W : World} {base c1 c2 c3 : Nat} {lo hi n : Int} {k : Kn} {g1 g2 g3 : Nat} {l : List Kn} {bs : List Bool} {v : List Kn} (h : Si w W base c1 c2 c3 lo hi n k g1 g2 g3 l bs v) {j : Nat} (hj : j < 512) (x : Bool) : Si w (W.setCell ⟨g2, j, none⟩ (.bool x)) base c1 c2 c3 lo hi n k g1 g2 g3 l (bs.set j x) v :=
  ⟨h.low.setCell (p := ⟨g2, j, none⟩) h.rw.b2 _, h.b0.setOther (a := ⟨g2, j, none⟩) (by show g2 ≠ _; have := h.t2; omega) _, h.b1.setOther (a := ⟨g2, j, none⟩) (by show g2 ≠ _; have := h.t2; omega) _, h.b2.setOther (a := ⟨g2, j, none⟩) (by show g2 ≠ _; have := h.t2; omega) _, h.rw.set2 (by rw [h.l2]; exact hj) x, h.l1, by rw [List.length_set]; exact h.l2, h.l3, h.t1, h.t2, h.t3⟩
theorem Si.set3 {w W : World} {base c1 c2 c3 : Nat} {lo hi n : Int} {k : Kn} {g1 g2 g3 : Nat} {l : List Kn} {bs : List Bool} {v : List Kn} (h : Si w W base c1 c2 c3 lo hi n k g1 g2 g3 l bs v) {j : Nat} (hj : j < 64) (x : Kn) : Si w (put8 W g3 (j * 8) x) base c1 c2 c3 lo hi n k g1 g2 g3 l bs (v.set j x) :=
  ⟨below_put8 h.low h.rw.b3, h.b0.far8 (by have := h.t3; omega) x, h.b1.far8 (by have := h.t3; omega) x, h.b2.far8 (by have := h.t3; omega) x, h.rw.set3 (by rw [h.l3]; exact hj) x, h.l1, h.l2, by rw [List.length_set]; exact h.l3, h.t1, h.t2, h.t3⟩
/-- what the walk reads -/
theorem Si.f {w W : World} {base c1 c2 c3 : Nat} {lo hi n : Int} {k : Kn} {g1 g2 g3 : Nat} {l : List Kn} {bs : List Bool} {v : List Kn} (h : Si w W base c1 c2 c3 lo hi n k g1 g2 g3 l bs v) :
    (W.cell? ⟨w.heap.size, 0, none⟩ = some (.slice (some ⟨g1, 0, none⟩) 11 c1) ∧ W.cell? ⟨w.heap.size, 1, none⟩ = some (.slice (some ⟨g2, 0, none⟩) 512 c2) ∧ W.cell? ⟨w.heap.size, 2, none⟩ = some (.slice (some ⟨g3, 0, none⟩) 64 c3)) ∧
    (W.cell? ⟨w.heap.size + 1, 0, none⟩ = some (.int .i64 lo) ∧ W.cell? ⟨w.heap.size + 1, 1, none⟩ = some (.int .i64 hi) ∧ W.cell? ⟨w.heap.size + 1, 2, none⟩ = some (.int .i64 n)) ∧
    (W.cell? ⟨w.heap.size + 2, 0, none⟩ = some (.int .i64 k.kind) ∧ W.cell? ⟨w.heap.size + 2, 1, none⟩ = some (.int .u64 (U k.num.ul)) ∧ W.cell? ⟨w.heap.size + 2, 2, none⟩ = some (.int .u64 (U k.num.uh)) ∧ W.cell? ⟨w.heap.size + 2, 3, none⟩ = some (.int .i64 (S k.num.sl)) ∧ W.cell? ⟨w.heap.size + 2, 4, none⟩ = some (.int .i64 (S k.num.sh)) ∧ W.cell? ⟨w.heap.size + 2, 5, none⟩ = some (.int .u64 (U k.num.t.v)) ∧ W.cell? ⟨w.heap.size + 2, 6, none⟩ = some (.int .u64 (U k.num.t.m)) ∧ W.cell? ⟨w.heap.size + 2, 7, none⟩ = some (.int .i64 k.reg)) ∧
    (∀ i, W.frozen? ⟨g2, i, none⟩ = false) ∧ (∀ i, W.frozen? ⟨g3, i, none⟩ = false) :=
  ⟨h.b0.three.1, h.b1.three.1, ⟨h.b2.cell 0 _ rfl, h.b2.cell 1 _ rfl, h.b2.cell 2 _ rfl, h.b2.cell 3 _ rfl, h.b2.cell 4 _ rfl, h.b2.cell 5 _ rfl, h.b2.cell 6 _ rfl, h.b2.cell 7 _ rfl⟩, h.rw.r2.fr, h.rw.r3.fr⟩
theorem Si.new {w : World} {base c1 c2 c3 : Nat} {lo hi n : Int} {k : Kn} {g1 g2 g3 : Nat} {l : List Kn} {bs : List Bool} {v : List Kn} (hr : Rw w base l bs v g1 g2 g3) (l1 : l.length = 11) (l2 : bs.length = 512) (l3 : v.length = 64) (t t' t'' : TypeId) :
    Si w (((w.alloc (.cells #[.slice (some ⟨g1, 0, none⟩) 11 c1, .slice (some ⟨g2, 0, none⟩) 512 c2, .slice (some ⟨g3, 0, none⟩) 64 c3] t)).alloc (.cells #[.int .i64 lo, .int .i64 hi, .int .i64 n] t')).alloc (.cells #[.int .i64 k.kind, .int .u64 (U k.num.ul), .int .u64 (U k.num.uh), .int .i64 (S k.num.sl), .int .i64 (S k.num.sh), .int .u64 (U k.num.t.v), .int .u64 (U k.num.t.m), .int .i64 k.reg] t'')) base c1 c2 c3 lo hi n k g1 g2 g3 l bs v :=
  ⟨b3.mono (by have := hr.b1; have := hr.r1.lt; omega), ((Box.new w [.slice (some ⟨g1, 0, none⟩) 11 c1, .slice (some ⟨g2, 0, none⟩) 512 c2, .slice (some ⟨g3, 0, none⟩) 64 c3] t rfl).alloc _).alloc _, (Box.new (w.alloc _) [.int .i64 lo, .int .i64 hi, .int .i64 n] t' (World.size_alloc _ _)).alloc _, Box.new ((w.alloc _).alloc _) (knC k) t'' (by rw [World.size_alloc, World.size_alloc]), ((hr.alloc _).alloc _).alloc _, l1, l2, l3, hr.r1.lt, hr.r2.lt, hr.r3.lt⟩
def StPost (base : Nat) (w : World) (l : List Kn) (bs : List Bool) (v : List Kn) (g1 g2 g3 : Nat) (e : Ending) (w' : World) : Prop := e = .returned (.tuple #[]) ∧ Below base w w' ∧ Rw w' base l bs v g1 g2 g3
set_option maxRecDepth 100000 in
set_option maxHeartbeats 2000000 in
theorem sst_far (a b c : Nat) (hab : ((a : Int) == (b : Int)) = false) (h1 : a ≤ b) (h2 : 1 ≤ c) (h3 : b + c ≤ 512) (k : Kn) (base c1 c2 c3 : Nat) (hc : 64 ≤ c3) (w : World) {l : List Kn} {bs : List Bool} {v : List Kn} {g1 g2 g3 : Nat} (hr : Rw w base l bs v g1 g2 g3) (l1 : l.length = 11) (l2 : bs.length = 512) (l3 : v.length = 64) :
    Calls Try.prog 35 #[.agg #[.slice (some ⟨g1, 0, none⟩) 11 c1, .slice (some ⟨g2, 0, none⟩) 512 c2, .slice (some ⟨g3, 0, none⟩) 64 c3], .agg #[.int .i64 (a : Int), .int .i64 (b : Int), .int .i64 (c : Int)], .agg #[.int .i64 k.kind, .int .u64 (U k.num.ul), .int .u64 (U k.num.uh), .int .i64 (S k.num.sl), .int .i64 (S k.num.sh), .int .u64 (U k.num.t.v), .int .u64 (U k.num.t.m), .int .i64 k.reg]] w (StPost base w l bs (clearK v a (b + c)) g1 g2 g3) := by
  have HEN := Lib.hid (fun W => send_any (a : Int) b c (by omega) (by omega) W)
  have HSU := Lib.hid (fun W => ssure_no (a : Int) (b : Int) hab (c : Int) W)
  have HZ := Lib.hid (zap_clear (v := v) (a := a) (e := b + c) (by omega))
  have HN := Lib.hid (Si.new (c1 := c1) (c2 := c2) (c3 := c3) (lo := (a : Int)) (hi := (b : Int)) (n := (c : Int)) (k := k) hr l1 l2 l3 25 56 33)
  have F := HN.out.f
  clear hr l1 l2 l3 hab
  go_enter Try.func35, Try.ntmps35
  go_wp2_with (first
    | (with_reducible refine wpList_clear_kn rfl (.tmp 21) rfl g3 (a / 8) ((b + c - 1) / 8 + 1 - a / 8) (c3 - a / 8) v rfl HN.out.rw.r3 (by omega) (by rw [HN.out.l3]; omega) ?_; have H' := Lib.hid (HN.out.zap (a := a / 8) (m := (b + c - 1) / 8 + 1 - a / 8) (by omega)); rw [HZ.out] at H'; clear HN F; have HN := H'; clear H'; have F := HN.out.f)
    | (go_at_call 58; (with_reducible refine (HSU.out _).mono ?_); rintro e w2 ⟨rfl, hb⟩; have H' := Lib.hid (HN.out.next hb); clear hb HN F; have HN := H'; clear H'; have F := HN.out.f)
    | (go_at_call 36; (with_reducible refine (HEN.out _).mono ?_); rintro e w1 ⟨rfl, hb⟩; have H' := Lib.hid (HN.out.next hb); clear hb HN F; have HN := H'; clear H'; have F := HN.out.f))
  exact bodyPost_ret (v := .tuple #[]) (by simp [results, Try.results35, go_sem]) rfl ⟨rfl, HN.out.low, HN.out.rw⟩
set_option maxRecDepth 100000 in
set_option maxHeartbeats 2000000 in
theorem sst_n (a c : Nat) (h2 : 1 ≤ c) (h3 : a + c ≤ 512) (hE : eightB a (a : Int) (c : Int) = false) (k : Kn) (base c1 c2 c3 : Nat) (hc : 64 ≤ c3) (w : World) {l : List Kn} {bs : List Bool} {v : List Kn} {g1 g2 g3 : Nat} (hr : Rw w base l bs v g1 g2 g3) (l1 : l.length = 11) (l2 : bs.length = 512) (l3 : v.length = 64) :
    Calls Try.prog 35 #[.agg #[.slice (some ⟨g1, 0, none⟩) 11 c1, .slice (some ⟨g2, 0, none⟩) 512 c2, .slice (some ⟨g3, 0, none⟩) 64 c3], .agg #[.int .i64 (a : Int), .int .i64 (a : Int), .int .i64 (c : Int)], .agg #[.int .i64 k.kind, .int .u64 (U k.num.ul), .int .u64 (U k.num.uh), .int .i64 (S k.num.sl), .int .i64 (S k.num.sh), .int .u64 (U k.num.t.v), .int .u64 (U k.num.t.m), .int .i64 k.reg]] w (StPost base w l (fillT bs a c) (clearK v a (a + c)) g1 g2 g3) := by
  have HEN := Lib.hid (fun W => send_any (a : Int) a c (by omega) (by omega) W)
  have HSU := Lib.hid (fun W => ssure_yes (a : Int) (c : Int) W)
  have h8 := fun W => seight_any a (a : Int) (c : Int) (by omega) W
  rw [hE] at h8
  have HE8 := Lib.hid h8
  have HZ := Lib.hid (zap_clear (v := v) (a := a) (e := a + c) (by omega))
  have HN := Lib.hid (Si.new (c1 := c1) (c2 := c2) (c3 := c3) (lo := (a : Int)) (hi := (a : Int)) (n := (c : Int)) (k := k) hr l1 l2 l3 25 56 33)
  have F := HN.out.f
  clear hr l1 l2 l3 hE h8
  generalize clearK v a (a + c) = V at *
  go_enter Try.func35, Try.ntmps35
  go_wp2_with (first
    | (with_reducible refine wpList_clear_kn rfl (.tmp 21) rfl g3 (a / 8) ((a + c - 1) / 8 + 1 - a / 8) (c3 - a / 8) v rfl HN.out.rw.r3 (by omega) (by rw [HN.out.l3]; omega) ?_; have H' := Lib.hid (HN.out.zap (a := a / 8) (m := (a + c - 1) / 8 + 1 - a / 8) (by omega)); rw [HZ.out] at H'; clear HN F; have HN := H'; clear H'; have F := HN.out.f)
    | (go_at_call 58; (with_reducible refine (HSU.out _).mono ?_); rintro e w2 ⟨rfl, hb⟩; have H' := Lib.hid (HN.out.next hb); clear hb HN F; have HN := H'; clear H'; have F := HN.out.f)
    | (go_at_call 36; (with_reducible refine (HEN.out _).mono ?_); rintro e w1 ⟨rfl, hb⟩; have H' := Lib.hid (HN.out.next hb); clear hb HN F; have HN := H'; clear H'; have F := HN.out.f))
  clear HSU HZ
  go_loopw [7] (fun i wr => ∃ q : Nat, a ≤ q ∧ q ≤ a + c ∧ i = .int .i64 (q : Int) ∧ Si w wr base c1 c2 c3 (a : Int) (a : Int) (c : Int) k g1 g2 g3 l (fillT bs a (q - a)) V) (fun i _ => a + c - (intOf i).toNat)
  case atStart => exact ⟨a, Nat.le_refl _, by omega, rfl, by rw [Nat.sub_self, fillT_zero]; exact HN.out⟩
  case round =>
    clear HN F
    obtain ⟨q, hq1, hq2, rfl, hs⟩ := hrel
    have HN := Lib.hid hs
    have F := hs.f
    clear hs
    by_cases hk : q < a + c
    · have hq5 : q < 512 := by omega
      go_wp2_with (first
        | (go_at_call 36; (with_reducible refine (HEN.out _).mono ?_); rintro e w3 ⟨rfl, hb⟩; have H' := Lib.hid (HN.out.next hb); clear hb HN F; have HN := H'; clear H'; have F := HN.out.f; have r2 := HN.out.rw.r2.cell q (by rw [HN.out.l2]; omega)))
      go_roundw
      case rel => exact ⟨q + 1, by omega, by omega, rfl, by rw [fillT_step bs hq1]; exact HN.out.set2 hq5 true⟩
      case measure => simp [intOf]; omega
    · obtain rfl : q = a + c := by omega
      clear hq1 hq2
      have e9 : a + c - a = c := by omega
      rw [e9] at HN
      go_wp2_with (first
        | (go_at_call 37; (with_reducible refine (HE8.out _).mono ?_); rintro e w4 ⟨rfl, hb⟩; have H' := Lib.hid (HN.out.next hb); clear hb HN F; have HN := H'; clear H'; have F := HN.out.f; have r3 := HN.out.rw.r3.cell (a / 8) (by rw [HN.out.l3]; omega))
        | (go_at_call 36; (with_reducible refine (HEN.out _).mono ?_); rintro e w3 ⟨rfl, hb⟩; have H' := Lib.hid (HN.out.next hb); clear hb HN F; have HN := H'; clear H'; have F := HN.out.f))
      exact bodyPost_ret (v := .tuple #[]) (by simp [results, Try.results35, go_sem]) rfl ⟨rfl, HN.out.low, HN.out.rw⟩
set_option maxRecDepth 100000 in
set_option maxHeartbeats 2000000 in
theorem sst_w (a c : Nat) (h2 : 1 ≤ c) (h3 : a + c ≤ 512) (hE : eightB a (a : Int) (c : Int) = true) (k : Kn) (base c1 c2 c3 : Nat) (hc : 64 ≤ c3) (w : World) {l : List Kn} {bs : List Bool} {v : List Kn} {g1 g2 g3 : Nat} (hr : Rw w base l bs v g1 g2 g3) (l1 : l.length = 11) (l2 : bs.length = 512) (l3 : v.length = 64) :
    Calls Try.prog 35 #[.agg #[.slice (some ⟨g1, 0, none⟩) 11 c1, .slice (some ⟨g2, 0, none⟩) 512 c2, .slice (some ⟨g3, 0, none⟩) 64 c3], .agg #[.int .i64 (a : Int), .int .i64 (a : Int), .int .i64 (c : Int)], .agg #[.int .i64 k.kind, .int .u64 (U k.num.ul), .int .u64 (U k.num.uh), .int .i64 (S k.num.sl), .int .i64 (S k.num.sh), .int .u64 (U k.num.t.v), .int .u64 (U k.num.t.m), .int .i64 k.reg]] w (StPost base w l (fillT bs a c) ((clearK v a (a + c)).set (a / 8) k) g1 g2 g3) := by
  have HEN := Lib.hid (fun W => send_any (a : Int) a c (by omega) (by omega) W)
  have HSU := Lib.hid (fun W => ssure_yes (a : Int) (c : Int) W)
  have h8 := fun W => seight_any a (a : Int) (c : Int) (by omega) W
  rw [hE] at h8
  have HE8 := Lib.hid h8
  have HZ := Lib.hid (zap_clear (v := v) (a := a) (e := a + c) (by omega))
  have HN := Lib.hid (Si.new (c1 := c1) (c2 := c2) (c3 := c3) (lo := (a : Int)) (hi := (a : Int)) (n := (c : Int)) (k := k) hr l1 l2 l3 25 56 33)
  have F := HN.out.f
  clear hr l1 l2 l3 hE h8
  generalize clearK v a (a + c) = V at *
  go_enter Try.func35, Try.ntmps35
  go_wp2_with (first
    | (with_reducible refine wpList_clear_kn rfl (.tmp 21) rfl g3 (a / 8) ((a + c - 1) / 8 + 1 - a / 8) (c3 - a / 8) v rfl HN.out.rw.r3 (by omega) (by rw [HN.out.l3]; omega) ?_; have H' := Lib.hid (HN.out.zap (a := a / 8) (m := (a + c - 1) / 8 + 1 - a / 8) (by omega)); rw [HZ.out] at H'; clear HN F; have HN := H'; clear H'; have F := HN.out.f)
    | (go_at_call 58; (with_reducible refine (HSU.out _).mono ?_); rintro e w2 ⟨rfl, hb⟩; have H' := Lib.hid (HN.out.next hb); clear hb HN F; have HN := H'; clear H'; have F := HN.out.f)
    | (go_at_call 36; (with_reducible refine (HEN.out _).mono ?_); rintro e w1 ⟨rfl, hb⟩; have H' := Lib.hid (HN.out.next hb); clear hb HN F; have HN := H'; clear H'; have F := HN.out.f))
  clear HSU HZ
  go_loopw [7] (fun i wr => ∃ q : Nat, a ≤ q ∧ q ≤ a + c ∧ i = .int .i64 (q : Int) ∧ Si w wr base c1 c2 c3 (a : Int) (a : Int) (c : Int) k g1 g2 g3 l (fillT bs a (q - a)) V) (fun i _ => a + c - (intOf i).toNat)
  case atStart => exact ⟨a, Nat.le_refl _, by omega, rfl, by rw [Nat.sub_self, fillT_zero]; exact HN.out⟩
  case round =>
    clear HN F
    obtain ⟨q, hq1, hq2, rfl, hs⟩ := hrel
    have HN := Lib.hid hs
    have F := hs.f
    clear hs
    by_cases hk : q < a + c
    · have hq5 : q < 512 := by omega
      go_wp2_with (first
        | (go_at_call 36; (with_reducible refine (HEN.out _).mono ?_); rintro e w3 ⟨rfl, hb⟩; have H' := Lib.hid (HN.out.next hb); clear hb HN F; have HN := H'; clear H'; have F := HN.out.f; have r2 := HN.out.rw.r2.cell q (by rw [HN.out.l2]; omega)))
      go_roundw
      case rel => exact ⟨q + 1, by omega, by omega, rfl, by rw [fillT_step bs hq1]; exact HN.out.set2 hq5 true⟩
      case measure => simp [intOf]; omega
    · obtain rfl : q = a + c := by omega
      clear hq1 hq2
      have e9 : a + c - a = c := by omega
      rw [e9] at HN
      go_wp2_with (first
        | (go_at_call 37; (with_reducible refine (HE8.out _).mono ?_); rintro e w4 ⟨rfl, hb⟩; have H' := Lib.hid (HN.out.next hb); clear hb HN F; have HN := H'; clear H'; have F := HN.out.f; have r3 := HN.out.rw.r3.cell (a / 8) (by rw [HN.out.l3]; omega))
        | (go_at_call 36; (with_reducible refine (HEN.out _).mono ?_); rintro e w3 ⟨rfl, hb⟩; have H' := Lib.hid (HN.out.next hb); clear hb HN F; have HN := H'; clear H'; have F := HN.out.f))
      have HT := Lib.hid (HN.out.set3 (j := a / 8) (by omega) k)
      exact bodyPost_ret (v := .tuple #[]) (by simp [results, Try.results35, go_sem]) rfl ⟨rfl, HT.out.low, HT.out.rw⟩
end Go.Proofs.Ytdipmlamjjpcoaa
