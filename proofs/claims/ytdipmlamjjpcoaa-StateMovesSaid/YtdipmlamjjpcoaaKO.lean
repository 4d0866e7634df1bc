/- States: package state's Put. -/
import Derived.Test.YtdipmlamjjpcoaaKN
import Derived.Test.YtdipmlamjjpcoaaGL
namespace Go.Proofs.Ytdipmlamjjpcoaa
open Go.RowKit
attribute [local go_sem] b_and b_or b_xor b_andNot b_low b_top b_most b_signed b_unsigned b_zero b_eq s_eq b_nzero b_neq s_neq b_max b_min s_max s_min
attribute [local go_sem ↓] Go.wp_at_zero Go.wp_at_succ

/-- the boxes of Put and Store: the state (whichever it is now), the Known, the answer's place -/
structure Bt (w W : World) (v0 v1 v2 : Value) (k : Kn) : Prop where
  low : Below w.heap.size w W
  b0 : Box W w.heap.size [v0, v1, v2]
  b1 : Box W (w.heap.size + 1) (knC k)
  b2 : Box W (w.heap.size + 2) [.slice none 0 0, .slice none 0 0, .slice none 0 0]
theorem Bt.next {w W W' : World} {v0 v1 v2 : Value} {k : Kn} (h : Bt w W v0 v1 v2 k) (hb : Below W.heap.size W W') : Bt w W' v0 v1 v2 k := ⟨bnext h.low hb, h.b0.next hb, h.b1.next hb, h.b2.next hb⟩
theorem Bt.new (w : World) (v0 v1 v2 : Value) (k : Kn) (t t' t'' : TypeId) : Bt w (((w.alloc (.cells #[v0, v1, v2] t)).alloc (.cells #[.int .i64 k.kind, .int .u64 (U k.num.ul), .int .u64 (U k.num.uh), .int .i64 (S k.num.sl), .int .i64 (S k.num.sh), .int .u64 (U k.num.t.v), .int .u64 (U k.num.t.m), .int .i64 k.reg] t')).alloc (.cells #[.slice none 0 0, .slice none 0 0, .slice none 0 0] t'')) v0 v1 v2 k :=
  ⟨b3, ((Box.new w [v0, v1, v2] t rfl).alloc _).alloc _, (Box.new (w.alloc _) (knC k) t' (World.size_alloc _ _)).alloc _, Box.new ((w.alloc _).alloc _) _ t'' (by rw [World.size_alloc, World.size_alloc])⟩
theorem Bt.f {w W : World} {v0 v1 v2 : Value} {k : Kn} (h : Bt w W v0 v1 v2 k) :
    ((W.cell? ⟨w.heap.size, 0, none⟩ = some v0 ∧ W.cell? ⟨w.heap.size, 1, none⟩ = some v1 ∧ W.cell? ⟨w.heap.size, 2, none⟩ = some v2) ∧ (∀ i, W.frozen? ⟨w.heap.size, i, none⟩ = false) ∧ w.heap.size < W.heap.size) ∧
    ((W.cell? ⟨w.heap.size + 1, 0, none⟩ = some (.int .i64 k.kind) ∧ W.cell? ⟨w.heap.size + 1, 1, none⟩ = some (.int .u64 (U k.num.ul)) ∧ W.cell? ⟨w.heap.size + 1, 2, none⟩ = some (.int .u64 (U k.num.uh)) ∧ W.cell? ⟨w.heap.size + 1, 3, none⟩ = some (.int .i64 (S k.num.sl)) ∧ W.cell? ⟨w.heap.size + 1, 4, none⟩ = some (.int .i64 (S k.num.sh)) ∧ W.cell? ⟨w.heap.size + 1, 5, none⟩ = some (.int .u64 (U k.num.t.v)) ∧ W.cell? ⟨w.heap.size + 1, 6, none⟩ = some (.int .u64 (U k.num.t.m)) ∧ W.cell? ⟨w.heap.size + 1, 7, none⟩ = some (.int .i64 k.reg)) ∧ (∀ i, W.frozen? ⟨w.heap.size + 1, i, none⟩ = false) ∧ w.heap.size + 1 < W.heap.size) ∧
    ((W.cell? ⟨w.heap.size + 2, 0, none⟩ = some (.slice none 0 0) ∧ W.cell? ⟨w.heap.size + 2, 1, none⟩ = some (.slice none 0 0) ∧ W.cell? ⟨w.heap.size + 2, 2, none⟩ = some (.slice none 0 0)) ∧ (∀ i, W.frozen? ⟨w.heap.size + 2, i, none⟩ = false) ∧ w.heap.size + 2 < W.heap.size) :=
  ⟨h.b0.three, ⟨⟨h.b1.cell 0 _ rfl, h.b1.cell 1 _ rfl, h.b1.cell 2 _ rfl, h.b1.cell 3 _ rfl, h.b1.cell 4 _ rfl, h.b1.cell 5 _ rfl, h.b1.cell 6 _ rfl, h.b1.cell 7 _ rfl⟩, h.b1.frozen, h.b1.lt⟩, h.b2.three⟩
theorem below_box3 {w W : World} {m : Nat} (h : Below w.heap.size w W) (hm : w.heap.size ≤ m) (u0 u1 u2 : Value) : Below w.heap.size w (((W.setCell ⟨m, 0, none⟩ u0).setCell ⟨m, 1, none⟩ u1).setCell ⟨m, 2, none⟩ u2) :=
  ((h.setCell (p := ⟨m, 0, none⟩) hm _).setCell (p := ⟨m, 1, none⟩) hm _).setCell (p := ⟨m, 2, none⟩) hm _
theorem Rw.box3 {W : World} {base g1 g2 g3 m : Nat} {l : List Kn} {bs : List Bool} {v : List Kn} (h : Rw W base l bs v g1 g2 g3) (hm : m < base) (u0 u1 u2 : Value) : Rw (((W.setCell ⟨m, 0, none⟩ u0).setCell ⟨m, 1, none⟩ u1).setCell ⟨m, 2, none⟩ u2) base l bs v g1 g2 g3 :=
  ((h.other (a := ⟨m, 0, none⟩) hm u0).other (a := ⟨m, 1, none⟩) hm u1).other (a := ⟨m, 2, none⟩) hm u2
/-- rows of one's own are a state -/
theorem Rw.abG {W : World} {base g1 g2 g3 c1 c2 c3 : Nat} {l : List Kn} {bs : List Bool} {v : List Kn} (h : Rw W base l bs v g1 g2 g3) (h1 : l.length * 64 ≤ 140737488351232) (h2 : bs.length ≤ 140737488351232) (h3 : v.length * 64 ≤ 140737488351232) (hc : l.length ≤ c1 ∧ bs.length ≤ c2 ∧ v.length ≤ c3) : AbAt W ⟨some ⟨g1, 0, none⟩, some ⟨g2, 0, none⟩, some ⟨g3, 0, none⟩, c1, c2, c3⟩ ⟨l, bs, v⟩ :=
  ⟨h.r1.at h1, h.r2.at h2, h.r3.at h3, hc⟩
theorem Rw.finG {w W : World} {g1 g2 g3 N1 N2 N3 : Nat} {l : List Kn} {bs : List Bool} {v : List Kn} (low : Below w.heap.size w W) (h : Rw W (w.heap.size + 3) l bs v g1 g2 g3) (hn : (N1 * 64 ≤ 140737488351232 ∧ N2 ≤ 140737488351232 ∧ N3 * 64 ≤ 140737488351232) ∧ l.length = N1 ∧ bs.length = N2 ∧ v.length = N3) (u0 u1 u2 : Value) :
    PutPost w ⟨l, bs, v⟩ N1 N2 N3 (.returned (.agg #[.slice (some ⟨g1, 0, none⟩) N1 N1, .slice (some ⟨g2, 0, none⟩) N2 N2, .slice (some ⟨g3, 0, none⟩) N3 N3])) (((W.setCell ⟨w.heap.size + 2, 0, none⟩ u0).setCell ⟨w.heap.size + 2, 1, none⟩ u1).setCell ⟨w.heap.size + 2, 2, none⟩ u2) := by
  obtain ⟨⟨s1, s2, s3⟩, rfl, rfl, rfl⟩ := hn
  exact ⟨⟨some ⟨g1, 0, none⟩, some ⟨g2, 0, none⟩, some ⟨g3, 0, none⟩, l.length, bs.length, v.length⟩, rfl, (h.box3 (Nat.lt_succ_self _) u0 u1 u2).abG s1 s2 s3 ⟨Nat.le_refl _, Nat.le_refl _, Nat.le_refl _⟩, below_box3 low (Nat.le_add_right _ _) u0 u1 u2⟩
/-- the copies, told of a world with three boxes more -/
theorem Rw.up3 {w W : World} {o1 o2 o3 : Obj} {g1 g2 g3 : Nat} {l : List Kn} {bs : List Bool} {v : List Kn} (h : Rw W (((w.alloc o1).alloc o2).alloc o3).heap.size l bs v g1 g2 g3) : Rw W (w.heap.size + 3) l bs v g1 g2 g3 := h.base3
theorem Rw.low {W : World} {b b' g1 g2 g3 : Nat} {l : List Kn} {bs : List Bool} {v : List Kn} (h : Rw W b l bs v g1 g2 g3) (hb : b' ≤ b) : Rw W b' l bs v g1 g2 g3 :=
  ⟨Nat.le_trans hb h.b1, Nat.le_trans hb h.b2, Nat.le_trans hb h.b3, h.n12, h.n13, h.n23, h.r1, h.r2, h.r3⟩
theorem kn_len {w : World} {A : AbA} {s : Ab} (h : AbAt w A s) : (s.regs.length * 64 ≤ 140737488351232 ∧ s.set.length ≤ 140737488351232 ∧ s.saved.length * 64 ≤ 140737488351232) ∧ s.regs.length = s.regs.length ∧ s.set.length = s.set.length ∧ s.saved.length = s.saved.length := ⟨⟨h.r.small, h.b.small, h.v.small⟩, rfl, rfl, rfl⟩
set_option maxRecDepth 100000 in
set_option maxHeartbeats 1000000 in
theorem sput_l (A : AbA) (s : Ab) (r : Int) (k : Kn) (w : World) (h : AbAt w A s) (h0 : r < 0) : Calls Try.prog 18 #[.agg #[.slice A.p1 s.regs.length A.c1, .slice A.p2 s.set.length A.c2, .slice A.p3 s.saved.length A.c3], .int .i64 r, .agg #[.int .i64 k.kind, .int .u64 (U k.num.ul), .int .u64 (U k.num.uh), .int .i64 (S k.num.sl), .int .i64 (S k.num.sh), .int .u64 (U k.num.t.v), .int .u64 (U k.num.t.m), .int .i64 k.reg]] w (PutPost w s s.regs.length s.set.length s.saved.length) := by
  have HTW := Lib.hid (fun (W : World) (hb : Below w.heap.size w W) => stwin_any A s W (h.below hb))
  have HL := Lib.hid (kn_len h)
  clear h
  obtain ⟨l, bs, v⟩ := s
  dsimp only at HL HTW ⊢
  generalize hl : l.length = N1 at HTW ⊢
  generalize hbs : bs.length = N2 at HTW ⊢
  generalize hv : v.length = N3 at HTW ⊢
  rw [hl, hbs, hv] at HL
  have HL2 := Lib.hid (And.intro HL.out.1 (And.intro hl (And.intro hbs hv)))
  clear hl hbs hv HL
  have HN := Lib.hid (Bt.new w (.slice A.p1 N1 A.c1) (.slice A.p2 N2 A.c2) (.slice A.p3 N3 A.c3) k 25 33 25)
  have F := HN.out.f
  go_enter Try.func18, Try.ntmps18
  go_wp2_with (first
    | (go_at_call 34; (with_reducible refine (HTW.out _ HN.out.low).mono ?_); rintro e w4 ⟨g1, g2, g3, rfl, hb, hr⟩; have HR := Lib.hid (hr.low (b' := w.heap.size + 3) (by have := HN.out.b2.lt; omega)); have H' := Lib.hid (HN.out.next hb); clear hb hr HN F; have HN := H'; clear H'; have F := HN.out.f))
  exact bodyPost_ret (v := .agg #[.slice (some ⟨g1, 0, none⟩) N1 N1, .slice (some ⟨g2, 0, none⟩) N2 N2, .slice (some ⟨g3, 0, none⟩) N3 N3]) (by simp [results, Try.results18, go_sem, F]) rfl (Rw.finG (below_box3 HN.out.low (Nat.le_refl _) _ _ _) (HR.out.box3 (by omega) _ _ _) HL2.out _ _ _)
set_option maxRecDepth 100000 in
set_option maxHeartbeats 1000000 in
theorem sput_h (A : AbA) (s : Ab) (r : Int) (k : Kn) (w : World) (h : AbAt w A s) (h0 : 0 ≤ r) (h1 : 10 < r) : Calls Try.prog 18 #[.agg #[.slice A.p1 s.regs.length A.c1, .slice A.p2 s.set.length A.c2, .slice A.p3 s.saved.length A.c3], .int .i64 r, .agg #[.int .i64 k.kind, .int .u64 (U k.num.ul), .int .u64 (U k.num.uh), .int .i64 (S k.num.sl), .int .i64 (S k.num.sh), .int .u64 (U k.num.t.v), .int .u64 (U k.num.t.m), .int .i64 k.reg]] w (PutPost w s s.regs.length s.set.length s.saved.length) := by
  have HTW := Lib.hid (fun (W : World) (hb : Below w.heap.size w W) => stwin_any A s W (h.below hb))
  have HL := Lib.hid (kn_len h)
  clear h
  obtain ⟨l, bs, v⟩ := s
  dsimp only at HL HTW ⊢
  generalize hl : l.length = N1 at HTW ⊢
  generalize hbs : bs.length = N2 at HTW ⊢
  generalize hv : v.length = N3 at HTW ⊢
  rw [hl, hbs, hv] at HL
  have HL2 := Lib.hid (And.intro HL.out.1 (And.intro hl (And.intro hbs hv)))
  clear hl hbs hv HL
  have HN := Lib.hid (Bt.new w (.slice A.p1 N1 A.c1) (.slice A.p2 N2 A.c2) (.slice A.p3 N3 A.c3) k 25 33 25)
  have F := HN.out.f
  go_enter Try.func18, Try.ntmps18
  go_wp2_with (first
    | (go_at_call 34; (with_reducible refine (HTW.out _ HN.out.low).mono ?_); rintro e w4 ⟨g1, g2, g3, rfl, hb, hr⟩; have HR := Lib.hid (hr.low (b' := w.heap.size + 3) (by have := HN.out.b2.lt; omega)); have H' := Lib.hid (HN.out.next hb); clear hb hr HN F; have HN := H'; clear H'; have F := HN.out.f))
  exact bodyPost_ret (v := .agg #[.slice (some ⟨g1, 0, none⟩) N1 N1, .slice (some ⟨g2, 0, none⟩) N2 N2, .slice (some ⟨g3, 0, none⟩) N3 N3]) (by simp [results, Try.results18, go_sem, F]) rfl (Rw.finG (below_box3 HN.out.low (Nat.le_refl _) _ _ _) (HR.out.box3 (by omega) _ _ _) HL2.out _ _ _)
set_option maxRecDepth 100000 in
set_option maxHeartbeats 1000000 in
theorem sput_k (A : AbA) (s : Ab) (r : Int) (k : Kn) (w : World) (h : AbAt w A s) (h0 : 0 ≤ r) (h1 : r ≤ 10) (hk : right k = false) : Calls Try.prog 18 #[.agg #[.slice A.p1 s.regs.length A.c1, .slice A.p2 s.set.length A.c2, .slice A.p3 s.saved.length A.c3], .int .i64 r, .agg #[.int .i64 k.kind, .int .u64 (U k.num.ul), .int .u64 (U k.num.uh), .int .i64 (S k.num.sl), .int .i64 (S k.num.sh), .int .u64 (U k.num.t.v), .int .u64 (U k.num.t.m), .int .i64 k.reg]] w (PutPost w s s.regs.length s.set.length s.saved.length) := by
  have HTW := Lib.hid (fun (W : World) (hb : Below w.heap.size w W) => stwin_any A s W (h.below hb))
  have HMY := Lib.hid (fun (W : World) => smay_any k W)
  rw [hk] at HMY
  have HL := Lib.hid (kn_len h)
  clear h hk
  obtain ⟨l, bs, v⟩ := s
  dsimp only at HL HTW ⊢
  generalize hl : l.length = N1 at HTW ⊢
  generalize hbs : bs.length = N2 at HTW ⊢
  generalize hv : v.length = N3 at HTW ⊢
  rw [hl, hbs, hv] at HL
  have HL2 := Lib.hid (And.intro HL.out.1 (And.intro hl (And.intro hbs hv)))
  clear hl hbs hv HL
  have HN := Lib.hid (Bt.new w (.slice A.p1 N1 A.c1) (.slice A.p2 N2 A.c2) (.slice A.p3 N3 A.c3) k 25 33 25)
  have F := HN.out.f
  go_enter Try.func18, Try.ntmps18
  go_wp2_with (first
    | (go_at_call 33; (with_reducible refine (HMY.out _).mono ?_); rintro e w3 ⟨rfl, hb⟩; have H' := Lib.hid (HN.out.next hb); clear hb HN F; have HN := H'; clear H'; have F := HN.out.f)
    | (go_at_call 34; (with_reducible refine (HTW.out _ HN.out.low).mono ?_); rintro e w4 ⟨g1, g2, g3, rfl, hb, hr⟩; have HR := Lib.hid (hr.low (b' := w.heap.size + 3) (by have := HN.out.b2.lt; omega)); have H' := Lib.hid (HN.out.next hb); clear hb hr HN F; have HN := H'; clear H'; have F := HN.out.f))
  exact bodyPost_ret (v := .agg #[.slice (some ⟨g1, 0, none⟩) N1 N1, .slice (some ⟨g2, 0, none⟩) N2 N2, .slice (some ⟨g3, 0, none⟩) N3 N3]) (by simp [results, Try.results18, go_sem, F]) rfl (Rw.finG (below_box3 HN.out.low (Nat.le_refl _) _ _ _) (HR.out.box3 (by omega) _ _ _) HL2.out _ _ _)
set_option maxRecDepth 100000 in
set_option maxHeartbeats 1000000 in
theorem sput_c (A : AbA) (s : Ab) (r : Int) (k : Kn) (w : World) (h : AbAt w A s) (h0 : 0 ≤ r) (h1 : r ≤ 10) (hk : right k = true) (hc : checkS s = false) : Calls Try.prog 18 #[.agg #[.slice A.p1 s.regs.length A.c1, .slice A.p2 s.set.length A.c2, .slice A.p3 s.saved.length A.c3], .int .i64 r, .agg #[.int .i64 k.kind, .int .u64 (U k.num.ul), .int .u64 (U k.num.uh), .int .i64 (S k.num.sl), .int .i64 (S k.num.sh), .int .u64 (U k.num.t.v), .int .u64 (U k.num.t.m), .int .i64 k.reg]] w (PutPost w s s.regs.length s.set.length s.saved.length) := by
  have HTW := Lib.hid (fun (W : World) (hb : Below w.heap.size w W) => stwin_any A s W (h.below hb))
  have HMY := Lib.hid (fun (W : World) => smay_any k W)
  rw [hk] at HMY
  have HCK := Lib.hid (fun (W : World) (hb : Below w.heap.size w W) => scheck_any A s W (h.below hb))
  rw [hc] at HCK
  have HL := Lib.hid (kn_len h)
  clear h hk hc
  obtain ⟨l, bs, v⟩ := s
  dsimp only at HL HTW HCK ⊢
  generalize hl : l.length = N1 at HTW HCK ⊢
  generalize hbs : bs.length = N2 at HTW HCK ⊢
  generalize hv : v.length = N3 at HTW HCK ⊢
  rw [hl, hbs, hv] at HL
  have HL2 := Lib.hid (And.intro HL.out.1 (And.intro hl (And.intro hbs hv)))
  clear hl hbs hv HL
  have HN := Lib.hid (Bt.new w (.slice A.p1 N1 A.c1) (.slice A.p2 N2 A.c2) (.slice A.p3 N3 A.c3) k 25 33 25)
  have F := HN.out.f
  go_enter Try.func18, Try.ntmps18
  go_wp2_with (first
    | (go_at_call 8; (with_reducible refine (HCK.out _ HN.out.low).mono ?_); rintro e w2 ⟨rfl, hb⟩; have H' := Lib.hid (HN.out.next hb); clear hb HN F; have HN := H'; clear H'; have F := HN.out.f)
    | (go_at_call 33; (with_reducible refine (HMY.out _).mono ?_); rintro e w3 ⟨rfl, hb⟩; have H' := Lib.hid (HN.out.next hb); clear hb HN F; have HN := H'; clear H'; have F := HN.out.f)
    | (go_at_call 34; (with_reducible refine (HTW.out _ HN.out.low).mono ?_); rintro e w4 ⟨g1, g2, g3, rfl, hb, hr⟩; have HR := Lib.hid (hr.low (b' := w.heap.size + 3) (by have := HN.out.b2.lt; omega)); have H' := Lib.hid (HN.out.next hb); clear hb hr HN F; have HN := H'; clear H'; have F := HN.out.f))
  exact bodyPost_ret (v := .agg #[.slice (some ⟨g1, 0, none⟩) N1 N1, .slice (some ⟨g2, 0, none⟩) N2 N2, .slice (some ⟨g3, 0, none⟩) N3 N3]) (by simp [results, Try.results18, go_sem, F]) rfl (Rw.finG (below_box3 HN.out.low (Nat.le_refl _) _ _ _) (HR.out.box3 (by omega) _ _ _) HL2.out _ _ _)
set_option maxRecDepth 100000 in
set_option maxHeartbeats 1000000 in
theorem sput_y (A : AbA) (s : Ab) (j : Nat) (k : Kn) (w : World) (h : AbAt w A s) (hc : checkS s = true) (hj : j < 11) (hk : right k = true) : Calls Try.prog 18 #[.agg #[.slice A.p1 11 A.c1, .slice A.p2 512 A.c2, .slice A.p3 64 A.c3], .int .i64 (j : Int), .agg #[.int .i64 k.kind, .int .u64 (U k.num.ul), .int .u64 (U k.num.uh), .int .i64 (S k.num.sl), .int .i64 (S k.num.sh), .int .u64 (U k.num.t.v), .int .u64 (U k.num.t.m), .int .i64 k.reg]] w (PutPost w ⟨s.regs.set j k, s.set, s.saved⟩ 11 512 64) := by
  have htw := fun (W : World) (hb : Below w.heap.size w W) => stwin_any A s W (h.below hb)
  have HMY := Lib.hid (fun (W : World) => smay_any k W)
  rw [hk] at HMY
  have hck := fun (W : World) (hb : Below w.heap.size w W) => scheck_any A s W (h.below hb)
  obtain ⟨n1, n2, n3⟩ := (check_iff.1 hc).1
  rw [hc, n1, n2, n3] at hck
  rw [n1, n2, n3] at htw
  have HCK := Lib.hid hck
  have HTW := Lib.hid htw
  have HL : Hid (s.regs.length = 11 ∧ s.set.length = 512 ∧ s.saved.length = 64) := Lib.hid ⟨n1, n2, n3⟩
  clear hck htw h hc hk n1 n2 n3
  generalize s.regs = l at *
  generalize s.set = bs at *
  generalize s.saved = v at *
  have HN := Lib.hid (Bt.new w (.slice A.p1 11 A.c1) (.slice A.p2 512 A.c2) (.slice A.p3 64 A.c3) k 25 33 25)
  have F := HN.out.f
  go_enter Try.func18, Try.ntmps18
  go_wp2_with (first
    | (go_at_call 8; (with_reducible refine (HCK.out _ HN.out.low).mono ?_); rintro e w2 ⟨rfl, hb⟩; have H' := Lib.hid (HN.out.next hb); clear hb HN F; have HN := H'; clear H'; have F := HN.out.f)
    | (go_at_call 33; (with_reducible refine (HMY.out _).mono ?_); rintro e w3 ⟨rfl, hb⟩; have H' := Lib.hid (HN.out.next hb); clear hb HN F; have HN := H'; clear H'; have F := HN.out.f)
    | (go_at_call 34; (with_reducible refine (HTW.out _ HN.out.low).mono ?_); rintro e w4 ⟨g1, g2, g3, rfl, hb, hr⟩; have HR := Lib.hid (hr.low (b' := w.heap.size + 3) (by have := HN.out.b2.lt; omega)); have H' := Lib.hid (HN.out.next hb); clear hb hr HN F; have HN := H'; clear H'; have F := HN.out.f; have q1 := HR.out.r1.cell j (by rw [HL.out.1]; exact hj); have q2 := HR.out.r1.fr; have q3 := HR.out.r1.lt; have z2 : w.heap.size + 2 < g1 := HR.out.b1))
  exact bodyPost_ret (v := .agg #[.slice (some ⟨g1, 0, none⟩) 11 11, .slice (some ⟨g2, 0, none⟩) 512 512, .slice (some ⟨g3, 0, none⟩) 64 64]) (by simp [results, Try.results18, go_sem, F]) rfl (Rw.finG (below_put8 (x := k) (below_box3 HN.out.low (Nat.le_refl _) _ _ _) (by omega)) ((HR.out.box3 (by omega) _ _ _).set1 (by rw [HL.out.1]; exact hj) k) ⟨⟨by decide, by decide, by decide⟩, by rw [List.length_set]; exact HL.out.1, HL.out.2.1, HL.out.2.2⟩ _ _ _)
theorem sput_any (A : AbA) (s : Ab) (r : Int) (k : Kn) (_hr : (Lit.int .i64 r).wf = true) (w : World) (h : AbAt w A s) : Calls Try.prog 18 #[.agg #[.slice A.p1 s.regs.length A.c1, .slice A.p2 s.set.length A.c2, .slice A.p3 s.saved.length A.c3], .int .i64 r, .agg #[.int .i64 k.kind, .int .u64 (U k.num.ul), .int .u64 (U k.num.uh), .int .i64 (S k.num.sl), .int .i64 (S k.num.sh), .int .u64 (U k.num.t.v), .int .u64 (U k.num.t.m), .int .i64 k.reg]] w fun e w' => ∃ B : AbA, e = .returned (.agg #[.slice B.p1 ((putS s r k)).regs.length B.c1, .slice B.p2 ((putS s r k)).set.length B.c2, .slice B.p3 ((putS s r k)).saved.length B.c3]) ∧ AbAt w' B (putS s r k) ∧ Below w.heap.size w w' := by
  have no : putS s r k = s → Calls Try.prog 18 #[.agg #[.slice A.p1 s.regs.length A.c1, .slice A.p2 s.set.length A.c2, .slice A.p3 s.saved.length A.c3], .int .i64 r, .agg #[.int .i64 k.kind, .int .u64 (U k.num.ul), .int .u64 (U k.num.uh), .int .i64 (S k.num.sl), .int .i64 (S k.num.sh), .int .u64 (U k.num.t.v), .int .u64 (U k.num.t.m), .int .i64 k.reg]] w (PutPost w s s.regs.length s.set.length s.saved.length) → Calls Try.prog 18 #[.agg #[.slice A.p1 s.regs.length A.c1, .slice A.p2 s.set.length A.c2, .slice A.p3 s.saved.length A.c3], .int .i64 r, .agg #[.int .i64 k.kind, .int .u64 (U k.num.ul), .int .u64 (U k.num.uh), .int .i64 (S k.num.sl), .int .i64 (S k.num.sh), .int .u64 (U k.num.t.v), .int .u64 (U k.num.t.m), .int .i64 k.reg]] w fun e w' => ∃ B : AbA, e = .returned (.agg #[.slice B.p1 ((putS s r k)).regs.length B.c1, .slice B.p2 ((putS s r k)).set.length B.c2, .slice B.p3 ((putS s r k)).saved.length B.c3]) ∧ AbAt w' B (putS s r k) ∧ Below w.heap.size w w' := by
    intro e H
    rw [e]
    exact H
  by_cases h0 : r < 0
  · exact no (by unfold putS; rw [if_neg]; simp; omega) (sput_l A s r k w h h0)
  by_cases h1 : 10 < r
  · exact no (by unfold putS; rw [if_neg]; simp; omega) (sput_h A s r k w h (by omega) h1)
  cases hk : right k with
  | false => exact no (by unfold putS; rw [if_neg]; simp [hk]) (sput_k A s r k w h (by omega) (by omega) hk)
  | true =>
    cases hc : checkS s with
    | false => exact no (by unfold putS; rw [if_neg (by rw [hc]; simp)]) (sput_c A s r k w h (by omega) (by omega) hk hc)
    | true =>
      obtain ⟨j, rfl⟩ : ∃ j : Nat, r = (j : Int) := ⟨r.toNat, by omega⟩
      have H := sput_y A s j k w h hc (by omega) hk
      obtain ⟨n1, n2, n3⟩ := (check_iff.1 hc).1
      have e : putS s (j : Int) k = ⟨s.regs.set j k, s.set, s.saved⟩ := by
        unfold putS
        rw [if_pos (by simp [hc, hk]; omega)]
        simp
      rw [e]
      simp only [List.length_set, n1, n2, n3]
      exact H
end Go.Proofs.Ytdipmlamjjpcoaa
