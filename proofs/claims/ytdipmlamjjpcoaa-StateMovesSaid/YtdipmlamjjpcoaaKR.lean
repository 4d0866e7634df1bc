/- States: package state's Store. -/
import Derived.Test.YtdipmlamjjpcoaaKQ
namespace Go.Proofs.Ytdipmlamjjpcoaa
open Go.RowKit
attribute [local go_sem] b_and b_or b_xor b_andNot b_low b_top b_most b_signed b_unsigned b_zero b_eq s_eq b_nzero b_neq s_neq b_max b_min s_max s_min
attribute [local go_sem ↓] Go.wp_at_zero Go.wp_at_succ

/-- the boxes of Store: those of Put, and the access -/
structure Bs (w W : World) (v0 v1 v2 : Value) (k : Kn) (lo hi n : Int) : Prop where
  bt : Bt w W v0 v1 v2 k
  b3 : Box W (w.heap.size + 3) [.int .i64 lo, .int .i64 hi, .int .i64 n]
theorem Bs.next {w W W' : World} {v0 v1 v2 : Value} {k : Kn} {lo hi n : Int} (h : Bs w W v0 v1 v2 k lo hi n) (hb : Below W.heap.size W W') : Bs w W' v0 v1 v2 k lo hi n := ⟨h.bt.next hb, h.b3.next hb⟩
theorem Bs.new (w : World) (v0 v1 v2 : Value) (k : Kn) (lo hi n : Int) (t t' t'' t3 : TypeId) : Bs w ((((w.alloc (.cells #[v0, v1, v2] t)).alloc (.cells #[.int .i64 k.kind, .int .u64 (U k.num.ul), .int .u64 (U k.num.uh), .int .i64 (S k.num.sl), .int .i64 (S k.num.sh), .int .u64 (U k.num.t.v), .int .u64 (U k.num.t.m), .int .i64 k.reg] t')).alloc (.cells #[.slice none 0 0, .slice none 0 0, .slice none 0 0] t'')).alloc (.cells #[.int .i64 lo, .int .i64 hi, .int .i64 n] t3)) v0 v1 v2 k lo hi n :=
  ⟨(Bt.new w v0 v1 v2 k t t' t'').next ((Below.refl _ _).alloc (Nat.le_refl _) _), Box.new (((w.alloc _).alloc _).alloc _) _ t3 (by rw [World.size_alloc, World.size_alloc, World.size_alloc])⟩
theorem Bs.f {w W : World} {v0 v1 v2 : Value} {k : Kn} {lo hi n : Int} (h : Bs w W v0 v1 v2 k lo hi n) :
    (((W.cell? ⟨w.heap.size, 0, none⟩ = some v0 ∧ W.cell? ⟨w.heap.size, 1, none⟩ = some v1 ∧ W.cell? ⟨w.heap.size, 2, none⟩ = some v2) ∧ (∀ i, W.frozen? ⟨w.heap.size, i, none⟩ = false) ∧ w.heap.size < W.heap.size) ∧
    ((W.cell? ⟨w.heap.size + 1, 0, none⟩ = some (.int .i64 k.kind) ∧ W.cell? ⟨w.heap.size + 1, 1, none⟩ = some (.int .u64 (U k.num.ul)) ∧ W.cell? ⟨w.heap.size + 1, 2, none⟩ = some (.int .u64 (U k.num.uh)) ∧ W.cell? ⟨w.heap.size + 1, 3, none⟩ = some (.int .i64 (S k.num.sl)) ∧ W.cell? ⟨w.heap.size + 1, 4, none⟩ = some (.int .i64 (S k.num.sh)) ∧ W.cell? ⟨w.heap.size + 1, 5, none⟩ = some (.int .u64 (U k.num.t.v)) ∧ W.cell? ⟨w.heap.size + 1, 6, none⟩ = some (.int .u64 (U k.num.t.m)) ∧ W.cell? ⟨w.heap.size + 1, 7, none⟩ = some (.int .i64 k.reg)) ∧ (∀ i, W.frozen? ⟨w.heap.size + 1, i, none⟩ = false) ∧ w.heap.size + 1 < W.heap.size) ∧
    ((W.cell? ⟨w.heap.size + 2, 0, none⟩ = some (.slice none 0 0) ∧ W.cell? ⟨w.heap.size + 2, 1, none⟩ = some (.slice none 0 0) ∧ W.cell? ⟨w.heap.size + 2, 2, none⟩ = some (.slice none 0 0)) ∧ (∀ i, W.frozen? ⟨w.heap.size + 2, i, none⟩ = false) ∧ w.heap.size + 2 < W.heap.size)) ∧
    ((W.cell? ⟨w.heap.size + 3, 0, none⟩ = some (.int .i64 lo) ∧ W.cell? ⟨w.heap.size + 3, 1, none⟩ = some (.int .i64 hi) ∧ W.cell? ⟨w.heap.size + 3, 2, none⟩ = some (.int .i64 n)) ∧ (∀ i, W.frozen? ⟨w.heap.size + 3, i, none⟩ = false) ∧ w.heap.size + 3 < W.heap.size) := ⟨h.bt.f, h.b3.three⟩
theorem Box.nextB {W W' : World} {b B : Nat} {cs : List Value} (h : Box W b cs) (hB : b < B) (hb : Below B W W') : Box W' b cs :=
  ⟨Nat.lt_of_lt_of_le h.lt hb.size, fun i u hi => (hb.cell (p := ⟨b, i, none⟩) hB).trans (h.cell i u hi), fun i => (hb.frozen (p := ⟨b, i, none⟩) hB).trans (h.frozen i)⟩
theorem Bs.nextB {w W W' : World} {v0 v1 v2 : Value} {k : Kn} {lo hi n : Int} (h : Bs w W v0 v1 v2 k lo hi n) (hb : Below (w.heap.size + 4) W W') : Bs w W' v0 v1 v2 k lo hi n :=
  ⟨⟨h.bt.low.trans (hb.mono (by omega)), h.bt.b0.nextB (by omega) hb, h.bt.b1.nextB (by omega) hb, h.bt.b2.nextB (by omega) hb⟩, h.b3.nextB (by omega) hb⟩
theorem Bs.box {w W : World} {v0 v1 v2 : Value} {k : Kn} {lo hi n : Int} (h : Bs w W v0 v1 v2 k lo hi n) (u0 u1 u2 : Value) : Bs w (((W.setCell ⟨w.heap.size, 0, none⟩ u0).setCell ⟨w.heap.size, 1, none⟩ u1).setCell ⟨w.heap.size, 2, none⟩ u2) u0 u1 u2 k lo hi n :=
  ⟨⟨below_box3 h.bt.low (Nat.le_refl _) u0 u1 u2, ((h.bt.b0.set (i := 0) (by simp) u0).set (i := 1) (by simp) u1).set (i := 2) (by simp) u2,
    ((h.bt.b1.setOther (a := ⟨w.heap.size, 0, none⟩) (by show w.heap.size ≠ _; omega) u0).setOther (a := ⟨w.heap.size, 1, none⟩) (by show w.heap.size ≠ _; omega) u1).setOther (a := ⟨w.heap.size, 2, none⟩) (by show w.heap.size ≠ _; omega) u2,
    ((h.bt.b2.setOther (a := ⟨w.heap.size, 0, none⟩) (by show w.heap.size ≠ _; omega) u0).setOther (a := ⟨w.heap.size, 1, none⟩) (by show w.heap.size ≠ _; omega) u1).setOther (a := ⟨w.heap.size, 2, none⟩) (by show w.heap.size ≠ _; omega) u2⟩,
   ((h.b3.setOther (a := ⟨w.heap.size, 0, none⟩) (by show w.heap.size ≠ _; omega) u0).setOther (a := ⟨w.heap.size, 1, none⟩) (by show w.heap.size ≠ _; omega) u1).setOther (a := ⟨w.heap.size, 2, none⟩) (by show w.heap.size ≠ _; omega) u2⟩
set_option maxRecDepth 100000 in
set_option maxHeartbeats 1000000 in
theorem sstore_i (A : AbA) (s : Ab) (low high n : Int) (k : Kn) (hn : n ≤ 9223372036854775807) (w : World) (h : AbAt w A s) (hi : insB low high n = false) : Calls Try.prog 11 #[.agg #[.slice A.p1 s.regs.length A.c1, .slice A.p2 s.set.length A.c2, .slice A.p3 s.saved.length A.c3], .int .i64 low, .int .i64 high, .int .i64 n, .agg #[.int .i64 k.kind, .int .u64 (U k.num.ul), .int .u64 (U k.num.uh), .int .i64 (S k.num.sl), .int .i64 (S k.num.sh), .int .u64 (U k.num.t.v), .int .u64 (U k.num.t.m), .int .i64 k.reg]] w (PutPost w s s.regs.length s.set.length s.saved.length) := by
  have HTW := Lib.hid (fun (W : World) (hb : Below w.heap.size w W) => stwin_any A s W (h.below hb))
  have HIN := Lib.hid (fun (W : World) => sins_any low high n hn W)
  rw [hi] at HIN
  have HL := Lib.hid (kn_len h)
  clear h hi hn
  obtain ⟨l, bs, v⟩ := s
  dsimp only at HL HTW ⊢
  generalize hl : l.length = N1 at HTW ⊢
  generalize hbs : bs.length = N2 at HTW ⊢
  generalize hv : v.length = N3 at HTW ⊢
  rw [hl, hbs, hv] at HL
  have HL2 := Lib.hid (And.intro HL.out.1 (And.intro hl (And.intro hbs hv)))
  clear hl hbs hv HL
  have HN := Lib.hid (Bs.new w (.slice A.p1 N1 A.c1) (.slice A.p2 N2 A.c2) (.slice A.p3 N3 A.c3) k low high n 25 33 25 56)
  have F := HN.out.f
  go_enter Try.func11, Try.ntmps11
  go_wp2_with (first
    | (go_at_call 32; (with_reducible refine (HIN.out _).mono ?_); rintro e w5 ⟨rfl, hb⟩; have H' := Lib.hid (HN.out.next hb); clear hb HN F; have HN := H'; clear H'; have F := HN.out.f)
    | (go_at_call 34; (with_reducible refine (HTW.out _ HN.out.bt.low).mono ?_); rintro e w4 ⟨g1, g2, g3, rfl, hb, hr⟩; have HR := Lib.hid (hr.low (b' := w.heap.size + 4) (by have := HN.out.b3.lt; omega)); clear hr; have H' := Lib.hid (HN.out.next hb); clear hb HN F; have HN := H'; clear H'; have F := HN.out.f))
  exact bodyPost_ret (v := .agg #[.slice (some ⟨g1, 0, none⟩) N1 N1, .slice (some ⟨g2, 0, none⟩) N2 N2, .slice (some ⟨g3, 0, none⟩) N3 N3]) (by simp [results, Try.results11, go_sem, F]) rfl (Rw.finG (below_box3 HN.out.bt.low (Nat.le_refl _) _ _ _) ((HR.out.low (by omega)).box3 (by omega) _ _ _) HL2.out _ _ _)
set_option maxRecDepth 100000 in
set_option maxHeartbeats 1000000 in
theorem sstore_k (A : AbA) (s : Ab) (low high n : Int) (k : Kn) (hn : n ≤ 9223372036854775807) (w : World) (h : AbAt w A s) (hi : insB low high n = true) (hk : right k = false) : Calls Try.prog 11 #[.agg #[.slice A.p1 s.regs.length A.c1, .slice A.p2 s.set.length A.c2, .slice A.p3 s.saved.length A.c3], .int .i64 low, .int .i64 high, .int .i64 n, .agg #[.int .i64 k.kind, .int .u64 (U k.num.ul), .int .u64 (U k.num.uh), .int .i64 (S k.num.sl), .int .i64 (S k.num.sh), .int .u64 (U k.num.t.v), .int .u64 (U k.num.t.m), .int .i64 k.reg]] w (PutPost w s s.regs.length s.set.length s.saved.length) := by
  have HTW := Lib.hid (fun (W : World) (hb : Below w.heap.size w W) => stwin_any A s W (h.below hb))
  have HIN := Lib.hid (fun (W : World) => sins_any low high n hn W)
  rw [hi] at HIN
  have HMY := Lib.hid (fun (W : World) => smay_any k W)
  rw [hk] at HMY
  have HL := Lib.hid (kn_len h)
  clear h hi hn hk
  obtain ⟨l, bs, v⟩ := s
  dsimp only at HL HTW ⊢
  generalize hl : l.length = N1 at HTW ⊢
  generalize hbs : bs.length = N2 at HTW ⊢
  generalize hv : v.length = N3 at HTW ⊢
  rw [hl, hbs, hv] at HL
  have HL2 := Lib.hid (And.intro HL.out.1 (And.intro hl (And.intro hbs hv)))
  clear hl hbs hv HL
  have HN := Lib.hid (Bs.new w (.slice A.p1 N1 A.c1) (.slice A.p2 N2 A.c2) (.slice A.p3 N3 A.c3) k low high n 25 33 25 56)
  have F := HN.out.f
  go_enter Try.func11, Try.ntmps11
  go_wp2_with (first
    | (go_at_call 33; (with_reducible refine (HMY.out _).mono ?_); rintro e w3 ⟨rfl, hb⟩; have H' := Lib.hid (HN.out.next hb); clear hb HN F; have HN := H'; clear H'; have F := HN.out.f)
    | (go_at_call 32; (with_reducible refine (HIN.out _).mono ?_); rintro e w5 ⟨rfl, hb⟩; have H' := Lib.hid (HN.out.next hb); clear hb HN F; have HN := H'; clear H'; have F := HN.out.f)
    | (go_at_call 34; (with_reducible refine (HTW.out _ HN.out.bt.low).mono ?_); rintro e w4 ⟨g1, g2, g3, rfl, hb, hr⟩; have HR := Lib.hid (hr.low (b' := w.heap.size + 4) (by have := HN.out.b3.lt; omega)); clear hr; have H' := Lib.hid (HN.out.next hb); clear hb HN F; have HN := H'; clear H'; have F := HN.out.f))
  exact bodyPost_ret (v := .agg #[.slice (some ⟨g1, 0, none⟩) N1 N1, .slice (some ⟨g2, 0, none⟩) N2 N2, .slice (some ⟨g3, 0, none⟩) N3 N3]) (by simp [results, Try.results11, go_sem, F]) rfl (Rw.finG (below_box3 HN.out.bt.low (Nat.le_refl _) _ _ _) ((HR.out.low (by omega)).box3 (by omega) _ _ _) HL2.out _ _ _)
set_option maxRecDepth 100000 in
set_option maxHeartbeats 1000000 in
theorem sstore_c (A : AbA) (s : Ab) (low high n : Int) (k : Kn) (hn : n ≤ 9223372036854775807) (w : World) (h : AbAt w A s) (hi : insB low high n = true) (hk : right k = true) (hc : checkS s = false) : Calls Try.prog 11 #[.agg #[.slice A.p1 s.regs.length A.c1, .slice A.p2 s.set.length A.c2, .slice A.p3 s.saved.length A.c3], .int .i64 low, .int .i64 high, .int .i64 n, .agg #[.int .i64 k.kind, .int .u64 (U k.num.ul), .int .u64 (U k.num.uh), .int .i64 (S k.num.sl), .int .i64 (S k.num.sh), .int .u64 (U k.num.t.v), .int .u64 (U k.num.t.m), .int .i64 k.reg]] w (PutPost w s s.regs.length s.set.length s.saved.length) := by
  have HTW := Lib.hid (fun (W : World) (hb : Below w.heap.size w W) => stwin_any A s W (h.below hb))
  have HIN := Lib.hid (fun (W : World) => sins_any low high n hn W)
  rw [hi] at HIN
  have HMY := Lib.hid (fun (W : World) => smay_any k W)
  rw [hk] at HMY
  have HCK := Lib.hid (fun (W : World) (hb : Below w.heap.size w W) => scheck_any A s W (h.below hb))
  rw [hc] at HCK
  have HL := Lib.hid (kn_len h)
  clear h hi hn hk hc
  obtain ⟨l, bs, v⟩ := s
  dsimp only at HL HTW HCK ⊢
  generalize hl : l.length = N1 at HTW HCK ⊢
  generalize hbs : bs.length = N2 at HTW HCK ⊢
  generalize hv : v.length = N3 at HTW HCK ⊢
  rw [hl, hbs, hv] at HL
  have HL2 := Lib.hid (And.intro HL.out.1 (And.intro hl (And.intro hbs hv)))
  clear hl hbs hv HL
  have HN := Lib.hid (Bs.new w (.slice A.p1 N1 A.c1) (.slice A.p2 N2 A.c2) (.slice A.p3 N3 A.c3) k low high n 25 33 25 56)
  have F := HN.out.f
  go_enter Try.func11, Try.ntmps11
  go_wp2_with (first
    | (go_at_call 8; (with_reducible refine (HCK.out _ HN.out.bt.low).mono ?_); rintro e w2 ⟨rfl, hb⟩; have H' := Lib.hid (HN.out.next hb); clear hb HN F; have HN := H'; clear H'; have F := HN.out.f)
    | (go_at_call 33; (with_reducible refine (HMY.out _).mono ?_); rintro e w3 ⟨rfl, hb⟩; have H' := Lib.hid (HN.out.next hb); clear hb HN F; have HN := H'; clear H'; have F := HN.out.f)
    | (go_at_call 32; (with_reducible refine (HIN.out _).mono ?_); rintro e w5 ⟨rfl, hb⟩; have H' := Lib.hid (HN.out.next hb); clear hb HN F; have HN := H'; clear H'; have F := HN.out.f)
    | (go_at_call 34; (with_reducible refine (HTW.out _ HN.out.bt.low).mono ?_); rintro e w4 ⟨g1, g2, g3, rfl, hb, hr⟩; have HR := Lib.hid (hr.low (b' := w.heap.size + 4) (by have := HN.out.b3.lt; omega)); clear hr; have H' := Lib.hid (HN.out.next hb); clear hb HN F; have HN := H'; clear H'; have F := HN.out.f))
  exact bodyPost_ret (v := .agg #[.slice (some ⟨g1, 0, none⟩) N1 N1, .slice (some ⟨g2, 0, none⟩) N2 N2, .slice (some ⟨g3, 0, none⟩) N3 N3]) (by simp [results, Try.results11, go_sem, F]) rfl (Rw.finG (below_box3 HN.out.bt.low (Nat.le_refl _) _ _ _) ((HR.out.low (by omega)).box3 (by omega) _ _ _) HL2.out _ _ _)
set_option maxRecDepth 100000 in
set_option maxHeartbeats 1000000 in
theorem sstore_y (A : AbA) (s : Ab) (low high n : Int) (k : Kn) (hn : n ≤ 9223372036854775807) (w : World) (h : AbAt w A s) (hi : insB low high n = true) (hk : right k = true) (hc : checkS s = true) (bs' : List Bool) (v' : List Kn) (b2 : bs'.length = 512) (b3 : v'.length = 64)
    (hst : ∀ (W : World) (g1 g2 g3 : Nat), Rw W (w.heap.size + 4) s.regs s.set s.saved g1 g2 g3 → Calls Try.prog 35 #[.agg #[.slice (some ⟨g1, 0, none⟩) 11 11, .slice (some ⟨g2, 0, none⟩) 512 512, .slice (some ⟨g3, 0, none⟩) 64 64], .agg #[.int .i64 low, .int .i64 high, .int .i64 n], .agg #[.int .i64 k.kind, .int .u64 (U k.num.ul), .int .u64 (U k.num.uh), .int .i64 (S k.num.sl), .int .i64 (S k.num.sh), .int .u64 (U k.num.t.v), .int .u64 (U k.num.t.m), .int .i64 k.reg]] W (StPost (w.heap.size + 4) W s.regs bs' v' g1 g2 g3)) :
    Calls Try.prog 11 #[.agg #[.slice A.p1 11 A.c1, .slice A.p2 512 A.c2, .slice A.p3 64 A.c3], .int .i64 low, .int .i64 high, .int .i64 n, .agg #[.int .i64 k.kind, .int .u64 (U k.num.ul), .int .u64 (U k.num.uh), .int .i64 (S k.num.sl), .int .i64 (S k.num.sh), .int .u64 (U k.num.t.v), .int .u64 (U k.num.t.m), .int .i64 k.reg]] w (PutPost w ⟨s.regs, bs', v'⟩ 11 512 64) := by
  have HST := Lib.hid hst
  have htw := fun (W : World) (hb : Below w.heap.size w W) => stwin_any A s W (h.below hb)
  have HIN := Lib.hid (fun (W : World) => sins_any low high n hn W)
  rw [hi] at HIN
  have HMY := Lib.hid (fun (W : World) => smay_any k W)
  rw [hk] at HMY
  have hck := fun (W : World) (hb : Below w.heap.size w W) => scheck_any A s W (h.below hb)
  obtain ⟨n1, n2, n3⟩ := (check_iff.1 hc).1
  rw [hc, n1, n2, n3] at hck
  rw [n1, n2, n3] at htw
  have HCK := Lib.hid hck
  have HTW := Lib.hid htw
  have HL : Hid (s.regs.length = 11 ∧ bs'.length = 512 ∧ v'.length = 64) := Lib.hid ⟨n1, b2, b3⟩
  clear hck htw h hc hk n1 n2 n3 hi hn hst b2 b3
  generalize s.regs = l at *
  generalize s.set = bs at *
  generalize s.saved = v at *
  have HN := Lib.hid (Bs.new w (.slice A.p1 11 A.c1) (.slice A.p2 512 A.c2) (.slice A.p3 64 A.c3) k low high n 25 33 25 56)
  have F := HN.out.f
  go_enter Try.func11, Try.ntmps11
  go_wp2_with (first
    | (go_at_call 35; (with_reducible refine (HST.out _ g1 g2 g3 (HR.out.box3 (by omega) _ _ _)).mono ?_); rintro e w6 ⟨rfl, hb, hr⟩; have HR2 := Lib.hid hr; have H' := Lib.hid ((HN.out.box (.slice (some ⟨g1, 0, none⟩) 11 11) (.slice (some ⟨g2, 0, none⟩) 512 512) (.slice (some ⟨g3, 0, none⟩) 64 64)).nextB hb); clear hb hr HN F; have HN := H'; clear H'; have F := HN.out.f)
    | (go_at_call 8; (with_reducible refine (HCK.out _ HN.out.bt.low).mono ?_); rintro e w2 ⟨rfl, hb⟩; have H' := Lib.hid (HN.out.next hb); clear hb HN F; have HN := H'; clear H'; have F := HN.out.f)
    | (go_at_call 33; (with_reducible refine (HMY.out _).mono ?_); rintro e w3 ⟨rfl, hb⟩; have H' := Lib.hid (HN.out.next hb); clear hb HN F; have HN := H'; clear H'; have F := HN.out.f)
    | (go_at_call 32; (with_reducible refine (HIN.out _).mono ?_); rintro e w5 ⟨rfl, hb⟩; have H' := Lib.hid (HN.out.next hb); clear hb HN F; have HN := H'; clear H'; have F := HN.out.f)
    | (go_at_call 34; (with_reducible refine (HTW.out _ HN.out.bt.low).mono ?_); rintro e w4 ⟨g1, g2, g3, rfl, hb, hr⟩; have HR := Lib.hid (hr.low (b' := w.heap.size + 4) (by have := HN.out.b3.lt; omega)); clear hr; have H' := Lib.hid (HN.out.next hb); clear hb HN F; have HN := H'; clear H'; have F := HN.out.f))
  exact bodyPost_ret (v := .agg #[.slice (some ⟨g1, 0, none⟩) 11 11, .slice (some ⟨g2, 0, none⟩) 512 512, .slice (some ⟨g3, 0, none⟩) 64 64]) (by simp [results, Try.results11, go_sem, F]) rfl (Rw.finG HN.out.bt.low (HR2.out.low (by omega)) ⟨⟨by decide, by decide, by decide⟩, HL.out.1, HL.out.2.1, HL.out.2.2⟩ _ _ _)
theorem ins_places {s : Ab} {low high n : Int} (hc : checkS s = true) : placesS s low high n = insB low high n := by
  unfold placesS insB
  rw [hc, Bool.true_and, Bool.eq_iff_iff, decide_eq_true_eq, decide_eq_true_eq]
  omega
theorem i64_top {n : Int} (h : (Lit.int .i64 n).wf = true) : n ≤ 9223372036854775807 := by
  have := h
  simp [Lit.wf] at this
  have h2 := this.2
  simpa using h2
theorem sstore_any (A : AbA) (s : Ab) (low high n : Int) (k : Kn) (_hl : (Lit.int .i64 low).wf = true) (_hh : (Lit.int .i64 high).wf = true) (hn : (Lit.int .i64 n).wf = true) (w : World) (h : AbAt w A s) : Calls Try.prog 11 #[.agg #[.slice A.p1 s.regs.length A.c1, .slice A.p2 s.set.length A.c2, .slice A.p3 s.saved.length A.c3], .int .i64 low, .int .i64 high, .int .i64 n, .agg #[.int .i64 k.kind, .int .u64 (U k.num.ul), .int .u64 (U k.num.uh), .int .i64 (S k.num.sl), .int .i64 (S k.num.sh), .int .u64 (U k.num.t.v), .int .u64 (U k.num.t.m), .int .i64 k.reg]] w fun e w' => ∃ B : AbA, e = .returned (.agg #[.slice B.p1 ((storeS s low high n k)).regs.length B.c1, .slice B.p2 ((storeS s low high n k)).set.length B.c2, .slice B.p3 ((storeS s low high n k)).saved.length B.c3]) ∧ AbAt w' B (storeS s low high n k) ∧ Below w.heap.size w w' := by
  have hn' := i64_top hn
  have no : storeS s low high n k = s → Calls Try.prog 11 #[.agg #[.slice A.p1 s.regs.length A.c1, .slice A.p2 s.set.length A.c2, .slice A.p3 s.saved.length A.c3], .int .i64 low, .int .i64 high, .int .i64 n, .agg #[.int .i64 k.kind, .int .u64 (U k.num.ul), .int .u64 (U k.num.uh), .int .i64 (S k.num.sl), .int .i64 (S k.num.sh), .int .u64 (U k.num.t.v), .int .u64 (U k.num.t.m), .int .i64 k.reg]] w (PutPost w s s.regs.length s.set.length s.saved.length) → Calls Try.prog 11 #[.agg #[.slice A.p1 s.regs.length A.c1, .slice A.p2 s.set.length A.c2, .slice A.p3 s.saved.length A.c3], .int .i64 low, .int .i64 high, .int .i64 n, .agg #[.int .i64 k.kind, .int .u64 (U k.num.ul), .int .u64 (U k.num.uh), .int .i64 (S k.num.sl), .int .i64 (S k.num.sh), .int .u64 (U k.num.t.v), .int .u64 (U k.num.t.m), .int .i64 k.reg]] w fun e w' => ∃ B : AbA, e = .returned (.agg #[.slice B.p1 ((storeS s low high n k)).regs.length B.c1, .slice B.p2 ((storeS s low high n k)).set.length B.c2, .slice B.p3 ((storeS s low high n k)).saved.length B.c3]) ∧ AbAt w' B (storeS s low high n k) ∧ Below w.heap.size w w' := by
    intro e H
    rw [e]
    exact H
  cases hi : insB low high n with
  | false =>
    refine no ?_ (sstore_i A s low high n k hn' w h hi)
    unfold storeS
    rw [if_neg]
    cases hc : checkS s with
    | false => rw [places_check hc]; simp
    | true => rw [ins_places hc, hi]; simp
  | true =>
    cases hk : right k with
    | false => exact no (by unfold storeS; rw [if_neg (by rw [hk]; simp)]) (sstore_k A s low high n k hn' w h hi hk)
    | true =>
      cases hc : checkS s with
      | false => exact no (by unfold storeS; rw [if_neg (by rw [places_check hc]; simp)]) (sstore_c A s low high n k hn' w h hi hk hc)
      | true =>
        have hp : placesS s low high n = true := by rw [ins_places hc, hi]
        obtain ⟨_, p1, p2, p3, p4, p5⟩ := places_iff.1 hp
        obtain ⟨a, rfl⟩ : ∃ a : Nat, low = (a : Int) := ⟨low.toNat, by omega⟩
        obtain ⟨b, rfl⟩ : ∃ b : Nat, high = (b : Int) := ⟨high.toNat, by omega⟩
        obtain ⟨c, rfl⟩ : ∃ c : Nat, n = (c : Int) := ⟨n.toNat, by omega⟩
        obtain ⟨n1, n2, n3⟩ := (check_iff.1 hc).1
        have e : storeS s a b c k = stN s a b c k := by unfold storeS; rw [if_pos (by rw [hp, hk]; rfl)]; rfl
        rw [e]
        have key : ∀ T : Ab, stN s a b c k = T → T.regs.length = 11 → T.set.length = 512 → T.saved.length = 64 → Calls Try.prog 11 #[.agg #[.slice A.p1 11 A.c1, .slice A.p2 512 A.c2, .slice A.p3 64 A.c3], .int .i64 (a : Int), .int .i64 (b : Int), .int .i64 (c : Int), .agg #[.int .i64 k.kind, .int .u64 (U k.num.ul), .int .u64 (U k.num.uh), .int .i64 (S k.num.sl), .int .i64 (S k.num.sh), .int .u64 (U k.num.t.v), .int .u64 (U k.num.t.m), .int .i64 k.reg]] w (PutPost w T 11 512 64) → Calls Try.prog 11 #[.agg #[.slice A.p1 s.regs.length A.c1, .slice A.p2 s.set.length A.c2, .slice A.p3 s.saved.length A.c3], .int .i64 (a : Int), .int .i64 (b : Int), .int .i64 (c : Int), .agg #[.int .i64 k.kind, .int .u64 (U k.num.ul), .int .u64 (U k.num.uh), .int .i64 (S k.num.sl), .int .i64 (S k.num.sh), .int .u64 (U k.num.t.v), .int .u64 (U k.num.t.m), .int .i64 k.reg]] w fun e w' => ∃ B : AbA, e = .returned (.agg #[.slice B.p1 ((stN s a b c k)).regs.length B.c1, .slice B.p2 ((stN s a b c k)).set.length B.c2, .slice B.p3 ((stN s a b c k)).saved.length B.c3]) ∧ AbAt w' B (stN s a b c k) ∧ Below w.heap.size w w' := by
          rintro T rfl m1 m2 m3 H
          rw [m1, m2, m3, n1, n2, n3]
          exact H
        by_cases hab : a = b
        · subst hab
          cases h8 : eightB a (a : Int) (c : Int) with
          | true =>
            have h9 : c = 8 ∧ a % 8 = 0 := by
              have := of_decide_eq_true h8
              omega
            refine key ⟨s.regs, fillT s.set a c, (clearK s.saved a (a + c)).set (a / 8) k⟩ ?_ n1 (by rw [fillT_len]; exact n2) (by rw [List.length_set, clear_len]; exact n3) (sstore_y A s a a c k hn' w h hi hk hc _ _ (by rw [fillT_len]; exact n2) (by rw [List.length_set, clear_len]; exact n3) (fun W g1 g2 g3 hr => sst_w a c (by omega) (by omega) h8 k _ 11 512 64 (Nat.le_refl _) W hr n1 n2 n3))
            unfold stN
            rw [if_pos rfl, if_pos ⟨rfl, h9.1, h9.2⟩]
          | false =>
            have h9 : ¬ (c = 8 ∧ a % 8 = 0) := by
              have := of_decide_eq_false h8
              omega
            refine key ⟨s.regs, fillT s.set a c, clearK s.saved a (a + c)⟩ ?_ n1 (by rw [fillT_len]; exact n2) (by rw [clear_len]; exact n3) (sstore_y A s a a c k hn' w h hi hk hc _ _ (by rw [fillT_len]; exact n2) (by rw [clear_len]; exact n3) (fun W g1 g2 g3 hr => sst_n a c (by omega) (by omega) h8 k _ 11 512 64 (Nat.le_refl _) W hr n1 n2 n3))
            unfold stN
            rw [if_pos rfl, if_neg (fun x => h9 x.2)]
        · refine key ⟨s.regs, s.set, clearK s.saved a (b + c)⟩ ?_ n1 n2 (by rw [clear_len]; exact n3) (sstore_y A s a b c k hn' w h hi hk hc _ _ n2 (by rw [clear_len]; exact n3) (fun W g1 g2 g3 hr => sst_far a b c (by simp; omega) (by omega) (by omega) (by omega) k _ 11 512 64 (Nat.le_refl _) W hr n1 n2 n3))
          unfold stN
          rw [if_neg hab, if_neg (fun x => hab x.1)]
end Go.Proofs.Ytdipmlamjjpcoaa
