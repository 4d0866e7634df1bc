/- States: the document's own Put. -/
import Derived.Test.YtdipmlamjjpcoaaSN
namespace Go.Proofs.Ytdipmlamjjpcoaa
open Go.RowKit
attribute [local go_sem] b_and b_or b_xor b_andNot b_low b_top b_most b_signed b_unsigned b_zero b_eq s_eq b_nzero b_neq s_neq b_max b_min s_max s_min
attribute [local go_sem ↓] Go.wp_at_zero Go.wp_at_succ

def sl3 (A : AbA) (N1 N2 N3 : Nat) : List Value := [.slice A.p1 N1 A.c1, .slice A.p2 N2 A.c2, .slice A.p3 N3 A.c3]
/-- the boxes of the document's Put and Store: the state, the Known, the answer's place -/
structure Pw (w W : World) (A : AbA) (N1 N2 N3 : Nat) (k : Kn) : Prop where
  low : Below w.heap.size w W
  b0 : Box W w.heap.size (sl3 A N1 N2 N3)
  b1 : Box W (w.heap.size + 1) (knC k)
  b2 : Box W (w.heap.size + 2) [.slice none 0 0, .slice none 0 0, .slice none 0 0]
theorem Pw.next {w W W' : World} {A : AbA} {N1 N2 N3 : Nat} {k : Kn} (h : Pw w W A N1 N2 N3 k) (hb : Below W.heap.size W W') : Pw w W' A N1 N2 N3 k := ⟨bnext h.low hb, h.b0.next hb, h.b1.next hb, h.b2.next hb⟩
theorem Pw.new (w : World) (A : AbA) (N1 N2 N3 : Nat) (k : Kn) (t t' t'' : TypeId) : Pw w (((w.alloc (.cells #[.slice A.p1 N1 A.c1, .slice A.p2 N2 A.c2, .slice A.p3 N3 A.c3] t)).alloc (.cells #[.int .i64 k.kind, .int .u64 (U k.num.ul), .int .u64 (U k.num.uh), .int .i64 (S k.num.sl), .int .i64 (S k.num.sh), .int .u64 (U k.num.t.v), .int .u64 (U k.num.t.m), .int .i64 k.reg] t')).alloc (.cells #[.slice none 0 0, .slice none 0 0, .slice none 0 0] t'')) A N1 N2 N3 k :=
  ⟨b3, ((Box.new w (sl3 A N1 N2 N3) t rfl).alloc _).alloc _, (Box.new (w.alloc _) (knC k) t' (World.size_alloc _ _)).alloc _, Box.new ((w.alloc _).alloc _) _ t'' (by rw [World.size_alloc, World.size_alloc])⟩
theorem Pw.f {w W : World} {A : AbA} {N1 N2 N3 : Nat} {k : Kn} (h : Pw w W A N1 N2 N3 k) :
    ((W.cell? ⟨w.heap.size, 0, none⟩ = some (.slice A.p1 N1 A.c1) ∧ W.cell? ⟨w.heap.size, 1, none⟩ = some (.slice A.p2 N2 A.c2) ∧ W.cell? ⟨w.heap.size, 2, none⟩ = some (.slice A.p3 N3 A.c3)) ∧ (∀ i, W.frozen? ⟨w.heap.size, i, none⟩ = false) ∧ w.heap.size < W.heap.size) ∧
    ((W.cell? ⟨w.heap.size + 1, 0, none⟩ = some (.int .i64 k.kind) ∧ W.cell? ⟨w.heap.size + 1, 1, none⟩ = some (.int .u64 (U k.num.ul)) ∧ W.cell? ⟨w.heap.size + 1, 2, none⟩ = some (.int .u64 (U k.num.uh)) ∧ W.cell? ⟨w.heap.size + 1, 3, none⟩ = some (.int .i64 (S k.num.sl)) ∧ W.cell? ⟨w.heap.size + 1, 4, none⟩ = some (.int .i64 (S k.num.sh)) ∧ W.cell? ⟨w.heap.size + 1, 5, none⟩ = some (.int .u64 (U k.num.t.v)) ∧ W.cell? ⟨w.heap.size + 1, 6, none⟩ = some (.int .u64 (U k.num.t.m)) ∧ W.cell? ⟨w.heap.size + 1, 7, none⟩ = some (.int .i64 k.reg)) ∧ (∀ i, W.frozen? ⟨w.heap.size + 1, i, none⟩ = false) ∧ w.heap.size + 1 < W.heap.size) ∧
    ((W.cell? ⟨w.heap.size + 2, 0, none⟩ = some (.slice none 0 0) ∧ W.cell? ⟨w.heap.size + 2, 1, none⟩ = some (.slice none 0 0) ∧ W.cell? ⟨w.heap.size + 2, 2, none⟩ = some (.slice none 0 0)) ∧ (∀ i, W.frozen? ⟨w.heap.size + 2, i, none⟩ = false) ∧ w.heap.size + 2 < W.heap.size) :=
  ⟨h.b0.three, ⟨⟨h.b1.cell 0 _ rfl, h.b1.cell 1 _ rfl, h.b1.cell 2 _ rfl, h.b1.cell 3 _ rfl, h.b1.cell 4 _ rfl, h.b1.cell 5 _ rfl, h.b1.cell 6 _ rfl, h.b1.cell 7 _ rfl⟩, h.b1.frozen, h.b1.lt⟩, h.b2.three⟩
/-- and the copy in its box -/
structure Pc (w W : World) (A : AbA) (N1 N2 N3 : Nat) (k : Kn) (m : Nat) (B : AbA) : Prop where
  pw : Pw w W A N1 N2 N3 k
  lt : w.heap.size + 2 < m
  b3 : Box W m (sl3 B N1 N2 N3)
theorem Pc.next {w W W' : World} {A B : AbA} {N1 N2 N3 m : Nat} {k : Kn} (h : Pc w W A N1 N2 N3 k m B) (hb : Below W.heap.size W W') : Pc w W' A N1 N2 N3 k m B := ⟨h.pw.next hb, h.lt, h.b3.next hb⟩
theorem Pc.new {w W : World} {A B : AbA} {N1 N2 N3 : Nat} {k : Kn} (h : Pw w W A N1 N2 N3 k) (t : TypeId) : Pc w (W.alloc (.cells #[.slice B.p1 N1 B.c1, .slice B.p2 N2 B.c2, .slice B.p3 N3 B.c3] t)) A N1 N2 N3 k W.heap.size B :=
  ⟨h.next ((Below.refl _ _).alloc (Nat.le_refl _) _), h.b2.lt, Box.new W (sl3 B N1 N2 N3) t rfl⟩
theorem Pc.f {w W : World} {A B : AbA} {N1 N2 N3 m : Nat} {k : Kn} (h : Pc w W A N1 N2 N3 k m B) :
    (W.cell? ⟨m, 0, none⟩ = some (.slice B.p1 N1 B.c1) ∧ W.cell? ⟨m, 1, none⟩ = some (.slice B.p2 N2 B.c2) ∧ W.cell? ⟨m, 2, none⟩ = some (.slice B.p3 N3 B.c3)) ∧ (∀ i, W.frozen? ⟨m, i, none⟩ = false) ∧ m < W.heap.size := h.b3.three
def PutPost (w : World) (s : Ab) (N1 N2 N3 : Nat) (e : Ending) (w' : World) : Prop := ∃ B : AbA, e = .returned (.agg #[.slice B.p1 N1 B.c1, .slice B.p2 N2 B.c2, .slice B.p3 N3 B.c3]) ∧ AbAt w' B s ∧ Below w.heap.size w w'
/-- the answer's place written: the end -/
theorem Pc.fin {w W : World} {A B : AbA} {N1 N2 N3 m b : Nat} {k : Kn} {s : Ab} (h : Pc w W A N1 N2 N3 k m B) (hs : AbAt W B s) (hu : Up b B) (hb : w.heap.size + 2 < b) :
    PutPost w s N1 N2 N3 (.returned (.agg #[.slice B.p1 N1 B.c1, .slice B.p2 N2 B.c2, .slice B.p3 N3 B.c3])) (((W.setCell ⟨w.heap.size + 2, 0, none⟩ (.slice B.p1 N1 B.c1)).setCell ⟨w.heap.size + 2, 1, none⟩ (.slice B.p2 N2 B.c2)).setCell ⟨w.heap.size + 2, 2, none⟩ (.slice B.p3 N3 B.c3)) :=
  ⟨B, rfl, ((hs.out hu hb).out hu hb).out hu hb, ((h.pw.low.setCell (p := ⟨w.heap.size + 2, 0, none⟩) (by show w.heap.size ≤ w.heap.size + 2; omega) _).setCell (p := ⟨w.heap.size + 2, 1, none⟩) (by show w.heap.size ≤ w.heap.size + 2; omega) _).setCell (p := ⟨w.heap.size + 2, 2, none⟩) (by show w.heap.size ≤ w.heap.size + 2; omega) _⟩
theorem up3 {w : World} {o1 o2 o3 : Obj} {B : AbA} (h : Up (((w.alloc o1).alloc o2).alloc o3).heap.size B) : Up (w.heap.size + 3) B := by
  simpa [Nat.add_assoc] using h
theorem rows3 {w W : World} {o1 o2 o3 : Obj} {B : AbA} {s : Ab} {g1 g2 g3 : Nat} (h : Rows W (((w.alloc o1).alloc o2).alloc o3).heap.size B s g1 g2 g3) : Rows W (w.heap.size + 3) B s g1 g2 g3 := by
  simpa [Nat.add_assoc] using h
set_option maxRecDepth 100000 in
set_option maxHeartbeats 1000000 in
theorem rput_c (A : AbA) (s : Ab) (r : Int) (k : Kn) (w : World) (h : AbAt w A s) (hc : checkS s = false) : Calls Try.prog 19 #[.agg #[.slice A.p1 s.regs.length A.c1, .slice A.p2 s.set.length A.c2, .slice A.p3 s.saved.length A.c3], .int .i64 r, .agg #[.int .i64 k.kind, .int .u64 (U k.num.ul), .int .u64 (U k.num.uh), .int .i64 (S k.num.sl), .int .i64 (S k.num.sh), .int .u64 (U k.num.t.v), .int .u64 (U k.num.t.m), .int .i64 k.reg]] w (PutPost w s s.regs.length s.set.length s.saved.length) := by
  have HCP := Lib.hid (fun (W : World) (hb : Below w.heap.size w W) => rcopy_any A s W (h.below hb))
  have HCK := Lib.hid (fun (W : World) (hb : Below w.heap.size w W) => rcheck_any A s W (h.below hb))
  have HRT := Lib.hid (fun (W : World) => rright_any k W)
  rw [hc] at HCK
  clear h hc
  generalize s.regs.length = N1 at *
  generalize s.set.length = N2 at *
  generalize s.saved.length = N3 at *
  have HN := Lib.hid (Pw.new w A N1 N2 N3 k 25 33 25)
  have f0 := HN.out.f
  go_enter Try.func19, Try.ntmps19
  go_wp2_with (first
    | (go_at_call 9; (with_reducible refine (HRT.out _).mono ?_); rintro e w3 ⟨rfl, hb⟩; have H' := Lib.hid (HM.out.next hb); have HB' := Lib.hid (HB.out.below hb); clear hb f0 f1 HM HB; have HM := H'; have HB := HB'; clear H' HB'; have f0 := HM.out.pw.f; have f1 := HM.out.f)
    | (go_at_call 42; (with_reducible refine (HCK.out _ HM.out.pw.low).mono ?_); rintro e w2 ⟨rfl, hb⟩; have H' := Lib.hid (HM.out.next hb); have HB' := Lib.hid ((HB.out.alloc _).below hb); clear hb f0 f1 HM HB; have HM := H'; have HB := HB'; clear H' HB'; have f0 := HM.out.pw.f; have f1 := HM.out.f)
    | (go_at_call 15; (with_reducible refine (HCP.out _ HN.out.low).mono ?_); rintro e w1 ⟨B, rfl, hb, hab, hup, _⟩; have HM := Lib.hid (Pc.new (B := B) (HN.out.next hb) 25); have HB := Lib.hid hab; have HU := Lib.hid (up3 hup); clear hb hab hup f0; have f0 := HM.out.pw.f; have f1 := HM.out.f))
  exact bodyPost_ret (v := .agg #[.slice B.p1 N1 B.c1, .slice B.p2 N2 B.c2, .slice B.p3 N3 B.c3]) (by simp [results, Try.results19, go_sem, f0]) rfl (HM.out.fin HB.out HU.out (by omega))
set_option maxRecDepth 100000 in
set_option maxHeartbeats 1000000 in
theorem rput_l (A : AbA) (s : Ab) (r : Int) (k : Kn) (w : World) (h : AbAt w A s) (hc : checkS s = true) (h0 : r < 0) : Calls Try.prog 19 #[.agg #[.slice A.p1 s.regs.length A.c1, .slice A.p2 s.set.length A.c2, .slice A.p3 s.saved.length A.c3], .int .i64 r, .agg #[.int .i64 k.kind, .int .u64 (U k.num.ul), .int .u64 (U k.num.uh), .int .i64 (S k.num.sl), .int .i64 (S k.num.sh), .int .u64 (U k.num.t.v), .int .u64 (U k.num.t.m), .int .i64 k.reg]] w (PutPost w s s.regs.length s.set.length s.saved.length) := by
  have HCP := Lib.hid (fun (W : World) (hb : Below w.heap.size w W) => rcopy_any A s W (h.below hb))
  have HCK := Lib.hid (fun (W : World) (hb : Below w.heap.size w W) => rcheck_any A s W (h.below hb))
  have HRT := Lib.hid (fun (W : World) => rright_any k W)
  rw [hc] at HCK
  clear h hc
  generalize s.regs.length = N1 at *
  generalize s.set.length = N2 at *
  generalize s.saved.length = N3 at *
  have HN := Lib.hid (Pw.new w A N1 N2 N3 k 25 33 25)
  have f0 := HN.out.f
  go_enter Try.func19, Try.ntmps19
  go_wp2_with (first
    | (go_at_call 9; (with_reducible refine (HRT.out _).mono ?_); rintro e w3 ⟨rfl, hb⟩; have H' := Lib.hid (HM.out.next hb); have HB' := Lib.hid (HB.out.below hb); clear hb f0 f1 HM HB; have HM := H'; have HB := HB'; clear H' HB'; have f0 := HM.out.pw.f; have f1 := HM.out.f)
    | (go_at_call 42; (with_reducible refine (HCK.out _ HM.out.pw.low).mono ?_); rintro e w2 ⟨rfl, hb⟩; have H' := Lib.hid (HM.out.next hb); have HB' := Lib.hid ((HB.out.alloc _).below hb); clear hb f0 f1 HM HB; have HM := H'; have HB := HB'; clear H' HB'; have f0 := HM.out.pw.f; have f1 := HM.out.f)
    | (go_at_call 15; (with_reducible refine (HCP.out _ HN.out.low).mono ?_); rintro e w1 ⟨B, rfl, hb, hab, hup, _⟩; have HM := Lib.hid (Pc.new (B := B) (HN.out.next hb) 25); have HB := Lib.hid hab; have HU := Lib.hid (up3 hup); clear hb hab hup f0; have f0 := HM.out.pw.f; have f1 := HM.out.f))
  exact bodyPost_ret (v := .agg #[.slice B.p1 N1 B.c1, .slice B.p2 N2 B.c2, .slice B.p3 N3 B.c3]) (by simp [results, Try.results19, go_sem, f0]) rfl (HM.out.fin HB.out HU.out (by omega))
set_option maxRecDepth 100000 in
set_option maxHeartbeats 1000000 in
theorem rput_h (A : AbA) (s : Ab) (r : Int) (k : Kn) (w : World) (h : AbAt w A s) (hc : checkS s = true) (h0 : 0 ≤ r) (h1 : 11 ≤ r) : Calls Try.prog 19 #[.agg #[.slice A.p1 s.regs.length A.c1, .slice A.p2 s.set.length A.c2, .slice A.p3 s.saved.length A.c3], .int .i64 r, .agg #[.int .i64 k.kind, .int .u64 (U k.num.ul), .int .u64 (U k.num.uh), .int .i64 (S k.num.sl), .int .i64 (S k.num.sh), .int .u64 (U k.num.t.v), .int .u64 (U k.num.t.m), .int .i64 k.reg]] w (PutPost w s s.regs.length s.set.length s.saved.length) := by
  have HCP := Lib.hid (fun (W : World) (hb : Below w.heap.size w W) => rcopy_any A s W (h.below hb))
  have HCK := Lib.hid (fun (W : World) (hb : Below w.heap.size w W) => rcheck_any A s W (h.below hb))
  have HRT := Lib.hid (fun (W : World) => rright_any k W)
  rw [hc] at HCK
  clear h hc
  generalize s.regs.length = N1 at *
  generalize s.set.length = N2 at *
  generalize s.saved.length = N3 at *
  have HN := Lib.hid (Pw.new w A N1 N2 N3 k 25 33 25)
  have f0 := HN.out.f
  go_enter Try.func19, Try.ntmps19
  go_wp2_with (first
    | (go_at_call 9; (with_reducible refine (HRT.out _).mono ?_); rintro e w3 ⟨rfl, hb⟩; have H' := Lib.hid (HM.out.next hb); have HB' := Lib.hid (HB.out.below hb); clear hb f0 f1 HM HB; have HM := H'; have HB := HB'; clear H' HB'; have f0 := HM.out.pw.f; have f1 := HM.out.f)
    | (go_at_call 42; (with_reducible refine (HCK.out _ HM.out.pw.low).mono ?_); rintro e w2 ⟨rfl, hb⟩; have H' := Lib.hid (HM.out.next hb); have HB' := Lib.hid ((HB.out.alloc _).below hb); clear hb f0 f1 HM HB; have HM := H'; have HB := HB'; clear H' HB'; have f0 := HM.out.pw.f; have f1 := HM.out.f)
    | (go_at_call 15; (with_reducible refine (HCP.out _ HN.out.low).mono ?_); rintro e w1 ⟨B, rfl, hb, hab, hup, _⟩; have HM := Lib.hid (Pc.new (B := B) (HN.out.next hb) 25); have HB := Lib.hid hab; have HU := Lib.hid (up3 hup); clear hb hab hup f0; have f0 := HM.out.pw.f; have f1 := HM.out.f))
  exact bodyPost_ret (v := .agg #[.slice B.p1 N1 B.c1, .slice B.p2 N2 B.c2, .slice B.p3 N3 B.c3]) (by simp [results, Try.results19, go_sem, f0]) rfl (HM.out.fin HB.out HU.out (by omega))
set_option maxRecDepth 100000 in
set_option maxHeartbeats 1000000 in
theorem rput_k (A : AbA) (s : Ab) (r : Int) (k : Kn) (w : World) (h : AbAt w A s) (hc : checkS s = true) (h0 : 0 ≤ r) (h1 : r < 11) (hk : right k = false) : Calls Try.prog 19 #[.agg #[.slice A.p1 s.regs.length A.c1, .slice A.p2 s.set.length A.c2, .slice A.p3 s.saved.length A.c3], .int .i64 r, .agg #[.int .i64 k.kind, .int .u64 (U k.num.ul), .int .u64 (U k.num.uh), .int .i64 (S k.num.sl), .int .i64 (S k.num.sh), .int .u64 (U k.num.t.v), .int .u64 (U k.num.t.m), .int .i64 k.reg]] w (PutPost w s s.regs.length s.set.length s.saved.length) := by
  have HCP := Lib.hid (fun (W : World) (hb : Below w.heap.size w W) => rcopy_any A s W (h.below hb))
  have HCK := Lib.hid (fun (W : World) (hb : Below w.heap.size w W) => rcheck_any A s W (h.below hb))
  have HRT := Lib.hid (fun (W : World) => rright_any k W)
  rw [hc] at HCK
  rw [hk] at HRT
  clear h hc hk
  generalize s.regs.length = N1 at *
  generalize s.set.length = N2 at *
  generalize s.saved.length = N3 at *
  have HN := Lib.hid (Pw.new w A N1 N2 N3 k 25 33 25)
  have f0 := HN.out.f
  go_enter Try.func19, Try.ntmps19
  go_wp2_with (first
    | (go_at_call 9; (with_reducible refine (HRT.out _).mono ?_); rintro e w3 ⟨rfl, hb⟩; have H' := Lib.hid (HM.out.next hb); have HB' := Lib.hid (HB.out.below hb); clear hb f0 f1 HM HB; have HM := H'; have HB := HB'; clear H' HB'; have f0 := HM.out.pw.f; have f1 := HM.out.f)
    | (go_at_call 42; (with_reducible refine (HCK.out _ HM.out.pw.low).mono ?_); rintro e w2 ⟨rfl, hb⟩; have H' := Lib.hid (HM.out.next hb); have HB' := Lib.hid ((HB.out.alloc _).below hb); clear hb f0 f1 HM HB; have HM := H'; have HB := HB'; clear H' HB'; have f0 := HM.out.pw.f; have f1 := HM.out.f)
    | (go_at_call 15; (with_reducible refine (HCP.out _ HN.out.low).mono ?_); rintro e w1 ⟨B, rfl, hb, hab, hup, _⟩; have HM := Lib.hid (Pc.new (B := B) (HN.out.next hb) 25); have HB := Lib.hid hab; have HU := Lib.hid (up3 hup); clear hb hab hup f0; have f0 := HM.out.pw.f; have f1 := HM.out.f))
  exact bodyPost_ret (v := .agg #[.slice B.p1 N1 B.c1, .slice B.p2 N2 B.c2, .slice B.p3 N3 B.c3]) (by simp [results, Try.results19, go_sem, f0]) rfl (HM.out.fin HB.out HU.out (by omega))
end Go.Proofs.Ytdipmlamjjpcoaa
