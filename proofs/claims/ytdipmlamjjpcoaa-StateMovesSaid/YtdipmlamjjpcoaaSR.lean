/- States: the document's own Store where all may be: its loop. -/
import Derived.Test.YtdipmlamjjpcoaaSQ
namespace Go.Proofs.Ytdipmlamjjpcoaa
open Go.RowKit
attribute [local go_sem] b_and b_or b_xor b_andNot b_low b_top b_most b_signed b_unsigned b_zero b_eq s_eq b_nzero b_neq s_neq b_max b_min s_max s_min
attribute [local go_sem ↓] Go.wp_at_zero Go.wp_at_succ

/-- in the loop of Store: the boxes, the copy's three blocks -/
structure Sl (w W : World) (A : AbA) (k : Kn) (m : Nat) (g1 g2 g3 c1 c2 c3 : Nat) (l : List Kn) (bs : List Bool) (v : List Kn) : Prop where
  pc : Pc w W A 11 512 64 k m ⟨some ⟨g1, 0, none⟩, some ⟨g2, 0, none⟩, some ⟨g3, 0, none⟩, c1, c2, c3⟩
  rw : Rw W (w.heap.size + 3) l bs v g1 g2 g3
  l1 : l.length = 11
  l2 : bs.length = 512
  l3 : v.length = 64
  m1 : g1 < m
  m2 : g2 < m
  m3 : g3 < m
theorem Sl.next {w W W' : World} {A : AbA} {k : Kn} {m g1 g2 g3 c1 c2 c3 : Nat} {l : List Kn} {bs : List Bool} {v : List Kn} (h : Sl w W A k m g1 g2 g3 c1 c2 c3 l bs v) (hb : Below W.heap.size W W') : Sl w W' A k m g1 g2 g3 c1 c2 c3 l bs v :=
  ⟨h.pc.next hb, h.rw.next hb, h.l1, h.l2, h.l3, h.m1, h.m2, h.m3⟩
theorem Pw.far {w W : World} {A : AbA} {N1 N2 N3 : Nat} {k : Kn} (h : Pw w W A N1 N2 N3 k) {g : Nat} (hg : w.heap.size + 2 < g) (o : Nat) (x : Kn) : Pw w (put8 W g o x) A N1 N2 N3 k :=
  ⟨below_put8 h.low (by omega), h.b0.far8 (by omega) x, h.b1.far8 (by omega) x, h.b2.far8 (by omega) x⟩
theorem Pw.far1 {w W : World} {A : AbA} {N1 N2 N3 : Nat} {k : Kn} (h : Pw w W A N1 N2 N3 k) {g : Nat} (hg : w.heap.size + 2 < g) (o : Nat) (x : Value) : Pw w (W.setCell ⟨g, o, none⟩ x) A N1 N2 N3 k :=
  ⟨h.low.setCell (p := ⟨g, o, none⟩) (by show w.heap.size ≤ g; omega) _, h.b0.setOther (a := ⟨g, o, none⟩) (by show g ≠ _; omega) x, h.b1.setOther (a := ⟨g, o, none⟩) (by show g ≠ _; omega) x, h.b2.setOther (a := ⟨g, o, none⟩) (by show g ≠ _; omega) x⟩
theorem Sl.set3 {w W : World} {A : AbA} {k : Kn} {m g1 g2 g3 c1 c2 c3 : Nat} {l : List Kn} {bs : List Bool} {v : List Kn} (h : Sl w W A k m g1 g2 g3 c1 c2 c3 l bs v) {j : Nat} (hj : j < 64) (x : Kn) : Sl w (put8 W g3 (j * 8) x) A k m g1 g2 g3 c1 c2 c3 l bs (v.set j x) :=
  ⟨⟨h.pc.pw.far (by have := h.rw.b3; omega) _ x, h.pc.lt, h.pc.b3.far8 (by have := h.m3; omega) x⟩, h.rw.set3 (by rw [h.l3]; exact hj) x, h.l1, h.l2, by rw [List.length_set]; exact h.l3, h.m1, h.m2, h.m3⟩
theorem Sl.set2 {w W : World} {A : AbA} {k : Kn} {m g1 g2 g3 c1 c2 c3 : Nat} {l : List Kn} {bs : List Bool} {v : List Kn} (h : Sl w W A k m g1 g2 g3 c1 c2 c3 l bs v) {j : Nat} (hj : j < 512) (x : Bool) : Sl w (W.setCell ⟨g2, j, none⟩ (.bool x)) A k m g1 g2 g3 c1 c2 c3 l (bs.set j x) v :=
  ⟨⟨h.pc.pw.far1 (by have := h.rw.b2; omega) _ _, h.pc.lt, h.pc.b3.setOther (a := ⟨g2, j, none⟩) (by show g2 ≠ m; have := h.m2; omega) _⟩, h.rw.set2 (by rw [h.l2]; exact hj) x, h.l1, by rw [List.length_set]; exact h.l2, h.l3, h.m1, h.m2, h.m3⟩
/-- what the walk reads -/
theorem Sl.f {w W : World} {A : AbA} {k : Kn} {m g1 g2 g3 c1 c2 c3 : Nat} {l : List Kn} {bs : List Bool} {v : List Kn} (h : Sl w W A k m g1 g2 g3 c1 c2 c3 l bs v) :
    ((W.cell? ⟨m, 0, none⟩ = some (.slice (some ⟨g1, 0, none⟩) 11 c1) ∧ W.cell? ⟨m, 1, none⟩ = some (.slice (some ⟨g2, 0, none⟩) 512 c2) ∧ W.cell? ⟨m, 2, none⟩ = some (.slice (some ⟨g3, 0, none⟩) 64 c3)) ∧ (∀ i, W.frozen? ⟨m, i, none⟩ = false) ∧ m < W.heap.size) ∧
    (w.heap.size + 2 < m ∧ w.heap.size + 2 < g2 ∧ w.heap.size + 2 < g3 ∧ g2 < m ∧ g3 < m) ∧ (∀ i, W.frozen? ⟨g2, i, none⟩ = false) ∧ (∀ i, W.frozen? ⟨g3, i, none⟩ = false) :=
  ⟨h.pc.f, ⟨h.pc.lt, h.rw.b2, h.rw.b3, h.m2, h.m3⟩, h.rw.r2.fr, h.rw.r3.fr⟩
theorem quo8 (k : Nat) : (k : Int).tdiv 8 = ((k / 8 : Nat) : Int) := rfl
theorem Sl.new {w W : World} {A : AbA} {k : Kn} {g1 g2 g3 c1 c2 c3 : Nat} {l : List Kn} {bs : List Bool} {v : List Kn} (h : Pw w W A 11 512 64 k) (hr : Rw W (w.heap.size + 3) l bs v g1 g2 g3) (hl : l.length = 11 ∧ bs.length = 512 ∧ v.length = 64) (t : TypeId) : Sl w (W.alloc (.cells #[.slice (some ⟨g1, 0, none⟩) 11 c1, .slice (some ⟨g2, 0, none⟩) 512 c2, .slice (some ⟨g3, 0, none⟩) 64 c3] t)) A k W.heap.size g1 g2 g3 c1 c2 c3 l bs v :=
  ⟨Pc.new (B := ⟨some ⟨g1, 0, none⟩, some ⟨g2, 0, none⟩, some ⟨g3, 0, none⟩, c1, c2, c3⟩) h t, hr.alloc _, hl.1, hl.2.1, hl.2.2, hr.r1.lt, hr.r2.lt, hr.r3.lt⟩
set_option maxRecDepth 100000 in
set_option maxHeartbeats 2000000 in
theorem rstore_far (A : AbA) (s : Ab) (a b c : Nat) (k : Kn) (w : World) (h : AbAt w A s) (hp : placesS s (a : Int) (b : Int) (c : Int) = true) (hk : right k = true) (hab : a < b) : Calls Try.prog 20 #[.agg #[.slice A.p1 11 A.c1, .slice A.p2 512 A.c2, .slice A.p3 64 A.c3], .int .i64 (a : Int), .int .i64 (b : Int), .int .i64 (c : Int), .agg #[.int .i64 k.kind, .int .u64 (U k.num.ul), .int .u64 (U k.num.uh), .int .i64 (S k.num.sl), .int .i64 (S k.num.sh), .int .u64 (U k.num.t.v), .int .u64 (U k.num.t.m), .int .i64 k.reg]] w (PutPost w ⟨s.regs, s.set, vAt s.saved a (b + c)⟩ 11 512 64) := by
  obtain ⟨hc, _, _, p3, p4, p5⟩ := places_iff.1 hp
  have HCP := Lib.hid (fun (W : World) (hb : Below w.heap.size w W) => rcopy_ok A s W (h.below hb) hc)
  have hpl := fun (W : World) (hb : Below w.heap.size w W) => rplaces_any A s (a : Int) (b : Int) (c : Int) W (h.below hb)
  have HRT := Lib.hid (fun (W : World) => rright_any k W)
  obtain ⟨n1, n2, n3⟩ := (check_iff.1 hc).1
  rw [hp, n1, n2, n3] at hpl
  rw [hk] at HRT
  have HPL := Lib.hid hpl
  have HL : Hid (s.regs.length = 11 ∧ s.set.length = 512 ∧ s.saved.length = 64) := Lib.hid ⟨n1, n2, n3⟩
  clear hpl h hc hk n1 n2 n3 hp
  generalize s.regs = l at *
  generalize s.set = bs at *
  generalize s.saved = v at *
  have HN := Lib.hid (Pw.new w A 11 512 64 k 25 33 25)
  have f0 := HN.out.f
  go_enter Try.func20, Try.ntmps20
  go_wp2_with (first
    | (go_at_call 9; (with_reducible refine (HRT.out _).mono ?_); rintro e w3 ⟨rfl, hb⟩; have H' := Lib.hid (HS.out.next hb); clear hb f0 f1 HS; have HS := H'; clear H'; have f0 := HS.out.pc.pw.f; have f1 := HS.out.f)
    | (go_at_call 41; (with_reducible refine (HPL.out _ HS.out.pc.pw.low).mono ?_); rintro e w2 ⟨rfl, hb⟩; have H' := Lib.hid (HS.out.next hb); clear hb f0 f1 HS; have HS := H'; clear H'; have f0 := HS.out.pc.pw.f; have f1 := HS.out.f)
    | (go_at_call 15; (with_reducible refine (HCP.out _ HN.out.low).mono ?_); rintro e w1 ⟨g1, g2, g3, c1, c2, c3, rfl, hb, hr, hcap⟩; have HCAP := Lib.hid hcap; clear hcap; have HS := Lib.hid (Sl.new (c1 := c1) (c2 := c2) (c3 := c3) (HN.out.next hb) hr.base3 HL.out 25); clear hb hr f0; have f0 := HS.out.pc.pw.f; have f1 := HS.out.f))
  clear HCP HPL HRT HN
  go_loopw [12] (fun i wr => ∃ q : Nat, a ≤ q ∧ q ≤ b + c ∧ i = .int .i64 (q : Int) ∧ Sl w wr A k w1.heap.size g1 g2 g3 c1 c2 c3 l bs (vAt v a q)) (fun i _ => b + c - (intOf i).toNat)
  case atStart => exact ⟨a, Nat.le_refl _, by omega, rfl, by rw [show vAt v a a = v from if_pos rfl]; exact HS.out⟩
  case round =>
    clear HS f0 f1
    obtain ⟨q, hq1, hq2, rfl, hs⟩ := hrel
    have HS := Lib.hid hs
    have f0 := hs.pc.pw.f
    have f1 := hs.f
    by_cases hk : q < b + c
    · have r3 := hs.rw.r3.cell (q / 8) (by rw [hs.l3]; omega)
      have hq8 : q / 8 < 64 := by omega
      clear hs
      go_wp2_with fail
      go_roundw
      case rel => exact ⟨q + 1, by omega, by omega, rfl, by rw [vAt_step v hq1]; exact HS.out.set3 hq8 kzero⟩
      case measure => simp [intOf]; omega
    · obtain rfl : q = b + c := by omega
      clear hs hq1 hq2
      go_wp2_with fail
      exact bodyPost_ret (v := .agg #[.slice (some ⟨g1, 0, none⟩) 11 c1, .slice (some ⟨g2, 0, none⟩) 512 c2, .slice (some ⟨g3, 0, none⟩) 64 c3]) (by simp [results, Try.results20, go_sem, f0]) rfl (Rw.fin HCAP.out HS.out.pc.pw.low HS.out.rw HS.out.l1 HS.out.l2 HS.out.l3 _ _ _)
end Go.Proofs.Ytdipmlamjjpcoaa
