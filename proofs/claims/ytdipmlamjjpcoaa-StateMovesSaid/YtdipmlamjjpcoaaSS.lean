/- States: the document's own Store at one place. -/
import Derived.Test.YtdipmlamjjpcoaaSR
namespace Go.Proofs.Ytdipmlamjjpcoaa
open Go.RowKit
attribute [local go_sem] b_and b_or b_xor b_andNot b_low b_top b_most b_signed b_unsigned b_zero b_eq s_eq b_nzero b_neq s_neq b_max b_min s_max s_min
attribute [local go_sem ↓] Go.wp_at_zero Go.wp_at_succ

set_option maxRecDepth 100000 in
set_option maxHeartbeats 2000000 in
theorem rstore_n (A : AbA) (s : Ab) (a c : Nat) (k : Kn) (w : World) (h : AbAt w A s) (hp : placesS s (a : Int) (a : Int) (c : Int) = true) (hk : right k = true) (h8 : ¬ c = 8) : Calls Try.prog 20 #[.agg #[.slice A.p1 11 A.c1, .slice A.p2 512 A.c2, .slice A.p3 64 A.c3], .int .i64 (a : Int), .int .i64 (a : Int), .int .i64 (c : Int), .agg #[.int .i64 k.kind, .int .u64 (U k.num.ul), .int .u64 (U k.num.uh), .int .i64 (S k.num.sl), .int .i64 (S k.num.sh), .int .u64 (U k.num.t.v), .int .u64 (U k.num.t.m), .int .i64 k.reg]] w (PutPost w ⟨s.regs, fillT s.set a c, vAt s.saved a (a + c)⟩ 11 512 64) := by
  obtain ⟨hc, _, _, p3, p4, p5⟩ := places_iff.1 hp
  have HCP := Lib.hid (fun (W : World) (hb : Below w.heap.size w W) => rcopy_ok A s W (h.below hb) hc)
  have hpl := fun (W : World) (hb : Below w.heap.size w W) => rplaces_any A s (a : Int) (a : Int) (c : Int) W (h.below hb)
  have HRT := Lib.hid (fun (W : World) => rright_any k W)
  obtain ⟨n1, n2, n3⟩ := (check_iff.1 hc).1
  rw [hp, n1, n2, n3] at hpl
  rw [hk] at HRT
  have HPL := Lib.hid hpl
  have HL : Hid (s.regs.length = 11 ∧ s.set.length = 512 ∧ s.saved.length = 64) := Lib.hid ⟨n1, n2, n3⟩
  clear hpl h hc hk n1 n2 n3 hp
  generalize s.regs = l at *
  generalize s.set = bs at *
  generalize s.saved = v at *
  have HN := Lib.hid (Pw.new w A 11 512 64 k 25 33 25)
  have f0 := HN.out.f
  go_enter Try.func20, Try.ntmps20
  go_wp2_with (first
    | (go_at_call 9; (with_reducible refine (HRT.out _).mono ?_); rintro e w3 ⟨rfl, hb⟩; have H' := Lib.hid (HS.out.next hb); clear hb f0 f1 HS; have HS := H'; clear H'; have f0 := HS.out.pc.pw.f; have f1 := HS.out.f)
    | (go_at_call 41; (with_reducible refine (HPL.out _ HS.out.pc.pw.low).mono ?_); rintro e w2 ⟨rfl, hb⟩; have H' := Lib.hid (HS.out.next hb); clear hb f0 f1 HS; have HS := H'; clear H'; have f0 := HS.out.pc.pw.f; have f1 := HS.out.f)
    | (go_at_call 15; (with_reducible refine (HCP.out _ HN.out.low).mono ?_); rintro e w1 ⟨g1, g2, g3, c1, c2, c3, rfl, hb, hr, hcap⟩; have HCAP := Lib.hid hcap; clear hcap; have HS := Lib.hid (Sl.new (c1 := c1) (c2 := c2) (c3 := c3) (HN.out.next hb) hr.base3 HL.out 25); clear hb hr f0; have f0 := HS.out.pc.pw.f; have f1 := HS.out.f))
  clear HCP HPL HRT HN
  go_loopw [12] (fun i wr => ∃ q : Nat, a ≤ q ∧ q ≤ a + c ∧ i = .int .i64 (q : Int) ∧ Sl w wr A k w1.heap.size g1 g2 g3 c1 c2 c3 l (fillT bs a (q - a)) (vAt v a q)) (fun i _ => a + c - (intOf i).toNat)
  case atStart => exact ⟨a, Nat.le_refl _, by omega, rfl, by rw [show vAt v a a = v from if_pos rfl, Nat.sub_self, fillT_zero]; exact HS.out⟩
  case round =>
    clear HS f0 f1
    obtain ⟨q, hq1, hq2, rfl, hs⟩ := hrel
    have HS := Lib.hid hs
    have f0 := hs.pc.pw.f
    have f1 := hs.f
    have z9 := hs.rw.n23
    by_cases hk : q < a + c
    · have r3 := hs.rw.r3.cell (q / 8) (by rw [hs.l3]; omega)
      have r2 := hs.rw.r2.cell q (by rw [hs.l2]; omega)
      have hq8 : q / 8 < 64 := by omega
      have hq5 : q < 512 := by omega
      clear hs
      go_wp2_with fail
      go_roundw
      case rel => exact ⟨q + 1, by omega, by omega, rfl, by rw [vAt_step v hq1, fillT_step bs hq1]; exact (HS.out.set3 hq8 kzero).set2 hq5 true⟩
      case measure => simp [intOf]; omega
    · obtain rfl : q = a + c := by omega
      clear hs hq1 hq2
      go_wp2_with fail
      have e9 : a + c - a = c := by omega
      rw [e9] at HS
      exact bodyPost_ret (v := .agg #[.slice (some ⟨g1, 0, none⟩) 11 c1, .slice (some ⟨g2, 0, none⟩) 512 c2, .slice (some ⟨g3, 0, none⟩) 64 c3]) (by simp [results, Try.results20, go_sem, f0]) rfl (Rw.fin HCAP.out HS.out.pc.pw.low HS.out.rw HS.out.l1 HS.out.l2 HS.out.l3 _ _ _)
set_option maxRecDepth 100000 in
set_option maxHeartbeats 2000000 in
theorem rstore_r (A : AbA) (s : Ab) (a : Nat) (k : Kn) (w : World) (h : AbAt w A s) (hp : placesS s (a : Int) (a : Int) 8 = true) (hk : right k = true) (h8 : ¬ (a : Int) % 8 = 0) (h9 : ¬ (a : Int).tmod 8 = 0) : Calls Try.prog 20 #[.agg #[.slice A.p1 11 A.c1, .slice A.p2 512 A.c2, .slice A.p3 64 A.c3], .int .i64 (a : Int), .int .i64 (a : Int), .int .i64 8, .agg #[.int .i64 k.kind, .int .u64 (U k.num.ul), .int .u64 (U k.num.uh), .int .i64 (S k.num.sl), .int .i64 (S k.num.sh), .int .u64 (U k.num.t.v), .int .u64 (U k.num.t.m), .int .i64 k.reg]] w (PutPost w ⟨s.regs, fillT s.set a 8, vAt s.saved a (a + 8)⟩ 11 512 64) := by
  obtain ⟨hc, _, _, p3, p4, p5⟩ := places_iff.1 hp
  have HCP := Lib.hid (fun (W : World) (hb : Below w.heap.size w W) => rcopy_ok A s W (h.below hb) hc)
  have hpl := fun (W : World) (hb : Below w.heap.size w W) => rplaces_any A s (a : Int) (a : Int) 8 W (h.below hb)
  have HRT := Lib.hid (fun (W : World) => rright_any k W)
  obtain ⟨n1, n2, n3⟩ := (check_iff.1 hc).1
  rw [hp, n1, n2, n3] at hpl
  rw [hk] at HRT
  have HPL := Lib.hid hpl
  have HL : Hid (s.regs.length = 11 ∧ s.set.length = 512 ∧ s.saved.length = 64) := Lib.hid ⟨n1, n2, n3⟩
  clear hpl h hc hk n1 n2 n3 hp
  generalize s.regs = l at *
  generalize s.set = bs at *
  generalize s.saved = v at *
  have HN := Lib.hid (Pw.new w A 11 512 64 k 25 33 25)
  have f0 := HN.out.f
  go_enter Try.func20, Try.ntmps20
  go_wp2_with (first
    | (go_at_call 9; (with_reducible refine (HRT.out _).mono ?_); rintro e w3 ⟨rfl, hb⟩; have H' := Lib.hid (HS.out.next hb); clear hb f0 f1 HS; have HS := H'; clear H'; have f0 := HS.out.pc.pw.f; have f1 := HS.out.f)
    | (go_at_call 41; (with_reducible refine (HPL.out _ HS.out.pc.pw.low).mono ?_); rintro e w2 ⟨rfl, hb⟩; have H' := Lib.hid (HS.out.next hb); clear hb f0 f1 HS; have HS := H'; clear H'; have f0 := HS.out.pc.pw.f; have f1 := HS.out.f)
    | (go_at_call 15; (with_reducible refine (HCP.out _ HN.out.low).mono ?_); rintro e w1 ⟨g1, g2, g3, c1, c2, c3, rfl, hb, hr, hcap⟩; have HCAP := Lib.hid hcap; clear hcap; have HS := Lib.hid (Sl.new (c1 := c1) (c2 := c2) (c3 := c3) (HN.out.next hb) hr.base3 HL.out 25); clear hb hr f0; have f0 := HS.out.pc.pw.f; have f1 := HS.out.f))
  clear HCP HPL HRT HN
  go_loopw [12] (fun i wr => ∃ q : Nat, a ≤ q ∧ q ≤ a + 8 ∧ i = .int .i64 (q : Int) ∧ Sl w wr A k w1.heap.size g1 g2 g3 c1 c2 c3 l (fillT bs a (q - a)) (vAt v a q)) (fun i _ => a + 8 - (intOf i).toNat)
  case atStart => exact ⟨a, Nat.le_refl _, by omega, rfl, by rw [show vAt v a a = v from if_pos rfl, Nat.sub_self, fillT_zero]; exact HS.out⟩
  case round =>
    clear HS f0 f1
    obtain ⟨q, hq1, hq2, rfl, hs⟩ := hrel
    have HS := Lib.hid hs
    have f0 := hs.pc.pw.f
    have f1 := hs.f
    have z9 := hs.rw.n23
    by_cases hk : q < a + 8
    · have r3 := hs.rw.r3.cell (q / 8) (by rw [hs.l3]; omega)
      have r2 := hs.rw.r2.cell q (by rw [hs.l2]; omega)
      have hq8 : q / 8 < 64 := by omega
      have hq5 : q < 512 := by omega
      clear hs
      go_wp2_with fail
      go_roundw
      case rel => exact ⟨q + 1, by omega, by omega, rfl, by rw [vAt_step v hq1, fillT_step bs hq1]; exact (HS.out.set3 hq8 kzero).set2 hq5 true⟩
      case measure => simp [intOf]; omega
    · obtain rfl : q = a + 8 := by omega
      clear hs hq1 hq2
      go_wp2_with fail
      have e9 : a + 8 - a = 8 := by omega
      rw [e9] at HS
      exact bodyPost_ret (v := .agg #[.slice (some ⟨g1, 0, none⟩) 11 c1, .slice (some ⟨g2, 0, none⟩) 512 c2, .slice (some ⟨g3, 0, none⟩) 64 c3]) (by simp [results, Try.results20, go_sem, f0]) rfl (Rw.fin HCAP.out HS.out.pc.pw.low HS.out.rw HS.out.l1 HS.out.l2 HS.out.l3 _ _ _)
set_option maxRecDepth 100000 in
set_option maxHeartbeats 2000000 in
theorem rstore_w (A : AbA) (s : Ab) (a : Nat) (k : Kn) (w : World) (h : AbAt w A s) (hp : placesS s (a : Int) (a : Int) 8 = true) (hk : right k = true) (h8 : (a : Int) % 8 = 0) (h9 : (a : Int).tmod 8 = 0) : Calls Try.prog 20 #[.agg #[.slice A.p1 11 A.c1, .slice A.p2 512 A.c2, .slice A.p3 64 A.c3], .int .i64 (a : Int), .int .i64 (a : Int), .int .i64 8, .agg #[.int .i64 k.kind, .int .u64 (U k.num.ul), .int .u64 (U k.num.uh), .int .i64 (S k.num.sl), .int .i64 (S k.num.sh), .int .u64 (U k.num.t.v), .int .u64 (U k.num.t.m), .int .i64 k.reg]] w (PutPost w ⟨s.regs, fillT s.set a 8, (vAt s.saved a (a + 8)).set (a / 8) k⟩ 11 512 64) := by
  obtain ⟨hc, _, _, p3, p4, p5⟩ := places_iff.1 hp
  have HCP := Lib.hid (fun (W : World) (hb : Below w.heap.size w W) => rcopy_ok A s W (h.below hb) hc)
  have hpl := fun (W : World) (hb : Below w.heap.size w W) => rplaces_any A s (a : Int) (a : Int) 8 W (h.below hb)
  have HRT := Lib.hid (fun (W : World) => rright_any k W)
  obtain ⟨n1, n2, n3⟩ := (check_iff.1 hc).1
  rw [hp, n1, n2, n3] at hpl
  rw [hk] at HRT
  have HPL := Lib.hid hpl
  have HL : Hid (s.regs.length = 11 ∧ s.set.length = 512 ∧ s.saved.length = 64) := Lib.hid ⟨n1, n2, n3⟩
  clear hpl h hc hk n1 n2 n3 hp
  generalize s.regs = l at *
  generalize s.set = bs at *
  generalize s.saved = v at *
  have HN := Lib.hid (Pw.new w A 11 512 64 k 25 33 25)
  have f0 := HN.out.f
  go_enter Try.func20, Try.ntmps20
  go_wp2_with (first
    | (go_at_call 9; (with_reducible refine (HRT.out _).mono ?_); rintro e w3 ⟨rfl, hb⟩; have H' := Lib.hid (HS.out.next hb); clear hb f0 f1 HS; have HS := H'; clear H'; have f0 := HS.out.pc.pw.f; have f1 := HS.out.f)
    | (go_at_call 41; (with_reducible refine (HPL.out _ HS.out.pc.pw.low).mono ?_); rintro e w2 ⟨rfl, hb⟩; have H' := Lib.hid (HS.out.next hb); clear hb f0 f1 HS; have HS := H'; clear H'; have f0 := HS.out.pc.pw.f; have f1 := HS.out.f)
    | (go_at_call 15; (with_reducible refine (HCP.out _ HN.out.low).mono ?_); rintro e w1 ⟨g1, g2, g3, c1, c2, c3, rfl, hb, hr, hcap⟩; have HCAP := Lib.hid hcap; clear hcap; have HS := Lib.hid (Sl.new (c1 := c1) (c2 := c2) (c3 := c3) (HN.out.next hb) hr.base3 HL.out 25); clear hb hr f0; have f0 := HS.out.pc.pw.f; have f1 := HS.out.f))
  clear HCP HPL HRT HN
  go_loopw [12] (fun i wr => ∃ q : Nat, a ≤ q ∧ q ≤ a + 8 ∧ i = .int .i64 (q : Int) ∧ Sl w wr A k w1.heap.size g1 g2 g3 c1 c2 c3 l (fillT bs a (q - a)) (vAt v a q)) (fun i _ => a + 8 - (intOf i).toNat)
  case atStart => exact ⟨a, Nat.le_refl _, by omega, rfl, by rw [show vAt v a a = v from if_pos rfl, Nat.sub_self, fillT_zero]; exact HS.out⟩
  case round =>
    clear HS f0 f1
    obtain ⟨q, hq1, hq2, rfl, hs⟩ := hrel
    have HS := Lib.hid hs
    have f0 := hs.pc.pw.f
    have f1 := hs.f
    have z9 := hs.rw.n23
    by_cases hk : q < a + 8
    · have r3 := hs.rw.r3.cell (q / 8) (by rw [hs.l3]; omega)
      have r2 := hs.rw.r2.cell q (by rw [hs.l2]; omega)
      have hq8 : q / 8 < 64 := by omega
      have hq5 : q < 512 := by omega
      clear hs
      go_wp2_with fail
      go_roundw
      case rel => exact ⟨q + 1, by omega, by omega, rfl, by rw [vAt_step v hq1, fillT_step bs hq1]; exact (HS.out.set3 hq8 kzero).set2 hq5 true⟩
      case measure => simp [intOf]; omega
    · obtain rfl : q = a + 8 := by omega
      have r3 := hs.rw.r3.cell (a / 8) (by rw [hs.l3]; omega)
      have hq8 : a / 8 < 64 := by omega
      clear hs hq1 hq2
      go_wp2_with fail
      have e9 : a + 8 - a = 8 := by omega
      rw [e9] at HS
      have HT := Lib.hid (HS.out.set3 hq8 k)
      exact bodyPost_ret (v := .agg #[.slice (some ⟨g1, 0, none⟩) 11 c1, .slice (some ⟨g2, 0, none⟩) 512 c2, .slice (some ⟨g3, 0, none⟩) 64 c3]) (by simp [results, Try.results20, go_sem, f0]) rfl (Rw.fin HCAP.out HT.out.pc.pw.low HT.out.rw HT.out.l1 HT.out.l2 HT.out.l3 _ _ _)
end Go.Proofs.Ytdipmlamjjpcoaa
