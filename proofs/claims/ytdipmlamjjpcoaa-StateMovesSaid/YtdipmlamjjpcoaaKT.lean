/- States: package state's Begin. -/
import Derived.Test.YtdipmlamjjpcoaaKP
import Derived.Test.YtdipmlamjjpcoaaGV
import Derived.Deep.DeepCutAuto
import Derived.Deep.RegionHeld3
namespace Go.Proofs.Ytdipmlamjjpcoaa
open Go.RowKit
attribute [local go_sem] b_and b_or b_xor b_andNot b_low b_top b_most b_signed b_unsigned b_zero b_eq s_eq b_nzero b_neq s_neq b_max b_min s_max s_min
attribute [local go_sem ↓] Go.wp_at_zero Go.wp_at_succ

theorem madeCells_is (n : Nat) : madeCells (Value.agg #[.int .i64 0, .int .u64 0, .int .u64 0, .int .i64 0, .int .i64 0, .int .u64 0, .int .u64 0, .int .i64 0]).cells (n * 8) = (zeros n).toArray := by
  rw [← zeroCells_is, Array.toArray_toList]
  rfl
theorem mk_knZ (N : Nat) (hN : N * 64 ≤ 140737488351232) (W : World) : (Instr.makeSlice 22 (.int .i64 (N : Int)) (.int .i64 (N : Int))).run Try.prog W = .ok (.slice (some ⟨W.heap.size, 0, none⟩) N N) (W.alloc (.cells (zeros N).toArray 33)) := by
  obtain ⟨i, hi, hz, hs, hb⟩ := info_parts infoKn
  have h := run_make (P := Try.prog) W 22 33 i _ Try.underlying22 hi hz .i64 .i64 (N : Int) (N : Int) (by omega) (Int.le_refl _) (by rw [hb]; omega) (by omega)
  rw [hs] at h
  simpa only [Int.toNat_natCast, madeCells_is] using h
theorem made_bools (n : Nat) : madeCells (Value.bool false).cells (n * 1) = (blV (List.replicate n false)).toArray := by
  apply Array.ext
  · simp [madeCells, blV]
  · intro i h1 h2
    simp [madeCells, blV, Nat.mod_one, Value.cells]
theorem mk_blZ (N : Nat) (hN : N ≤ 140737488351232) (W : World) : (Instr.makeSlice 23 (.int .i64 (N : Int)) (.int .i64 (N : Int))).run Try.prog W = .ok (.slice (some ⟨W.heap.size, 0, none⟩) N N) (W.alloc (.cells (blV (List.replicate N false)).toArray 4)) := by
  obtain ⟨i, hi, hz, hs, hb⟩ := info_parts infoBl
  have h := run_make (P := Try.prog) W 23 4 i _ Try.underlying23 hi hz .i64 .i64 (N : Int) (N : Int) (by omega) (Int.le_refl _) (by rw [hb]; omega) (by omega)
  rw [hs] at h
  simpa only [Int.toNat_natCast, made_bools] using h
/-- behind the first region: the state in its box, its rows made -/
structure Bg (w W : World) (n g1 g2 g3 : Nat) (l : List Kn) (bs : List Bool) (v : List Kn) : Prop where
  low : Below w.heap.size w W
  b0 : Box W w.heap.size [.slice none 0 0, .slice none 0 0, .slice none 0 0]
  b1 : Box W n [.slice (some ⟨g1, 0, none⟩) 11 11, .slice (some ⟨g2, 0, none⟩) 512 512, .slice (some ⟨g3, 0, none⟩) 64 64]
  rw : Rw W (w.heap.size + 1) l bs v g1 g2 g3
  ln : w.heap.size < n
  n1 : n ≠ g1
  n2 : n ≠ g2
  n3 : n ≠ g3
theorem Bg.next {w W W' : World} {n g1 g2 g3 : Nat} {l : List Kn} {bs : List Bool} {v : List Kn} (h : Bg w W n g1 g2 g3 l bs v) (hb : Below W.heap.size W W') : Bg w W' n g1 g2 g3 l bs v := ⟨bnext h.low hb, h.b0.next hb, h.b1.next hb, h.rw.next hb, h.ln, h.n1, h.n2, h.n3⟩
theorem Bg.set1 {w W : World} {n g1 g2 g3 j : Nat} {l : List Kn} {bs : List Bool} {v : List Kn} (h : Bg w W n g1 g2 g3 l bs v) (hj : j < l.length) (x : Kn) : Bg w (put8 W g1 (j * 8) x) n g1 g2 g3 (l.set j x) bs v :=
  ⟨below_put8 h.low (by have := h.rw.b1; omega), h.b0.far8 (by have := h.rw.b1; omega) x, h.b1.far8 (fun e => h.n1 e.symm) x, h.rw.set1 hj x, h.ln, h.n1, h.n2, h.n3⟩
theorem Bg.setO {w W : World} {n g1 g2 g3 : Nat} {l : List Kn} {bs : List Bool} {v : List Kn} (h : Bg w W n g1 g2 g3 l bs v) (j o : Nat) (ho : j * 8 = o) (hj : j < l.length) (x : Kn) : Bg w (put8 W g1 o x) n g1 g2 g3 (l.set j x) bs v := by
  subst ho
  exact h.set1 hj x
theorem Rk.cellO {W : World} {g : Nat} {l : List Kn} (h : Rk W g l) (j o : Nat) (ho : j * 8 = o) (hj : j < l.length) : ∃ x : Kn, W.cell? ⟨g, o, none⟩ = some (.int .i64 x.kind) ∧ W.cell? ⟨g, o + 1, none⟩ = some (.int .u64 (U x.num.ul)) ∧ W.cell? ⟨g, o + 2, none⟩ = some (.int .u64 (U x.num.uh)) ∧ W.cell? ⟨g, o + 3, none⟩ = some (.int .i64 (S x.num.sl)) ∧ W.cell? ⟨g, o + 4, none⟩ = some (.int .i64 (S x.num.sh)) ∧ W.cell? ⟨g, o + 5, none⟩ = some (.int .u64 (U x.num.t.v)) ∧ W.cell? ⟨g, o + 6, none⟩ = some (.int .u64 (U x.num.t.m)) ∧ W.cell? ⟨g, o + 7, none⟩ = some (.int .i64 x.reg) := by
  subst ho
  exact ⟨_, h.cell j hj⟩
theorem Bg.s {w W : World} {n g1 g2 g3 : Nat} {l : List Kn} {bs : List Bool} {v : List Kn} (h : Bg w W n g1 g2 g3 l bs v) : W.cell? ⟨n, 0, none⟩ = some (.slice (some ⟨g1, 0, none⟩) 11 11) ∧ W.cell? ⟨n, 1, none⟩ = some (.slice (some ⟨g2, 0, none⟩) 512 512) ∧ W.cell? ⟨n, 2, none⟩ = some (.slice (some ⟨g3, 0, none⟩) 64 64) := h.b1.three.1
theorem f4 (w : World) (a b c d e : Obj) : (((((w.alloc a).alloc b).alloc c).alloc d).alloc e).drew.heap[w.heap.size + 1 + 1 + 1 + 1]? = some e := by
  have h := heap_new ((((w.alloc a).alloc b).alloc c).alloc d) e
  show (((((w.alloc a).alloc b).alloc c).alloc d).alloc e).heap[w.heap.size + 1 + 1 + 1 + 1]? = some e
  simpa only [World.size_alloc] using h
theorem f_old {W : World} {i : Nat} {o x : Obj} (h : W.heap[i]? = some x) : (W.alloc o).heap[i]? = some x := by
  have hi := (Array.getElem?_eq_some_iff.1 h).1
  rw [← h]
  exact Below.heap_alloc W o i hi
theorem f3 (w : World) (a b c d e : Obj) : (((((w.alloc a).alloc b).alloc c).alloc d).alloc e).drew.heap[w.heap.size + 1 + 1 + 1]? = some d := by
  have h := heap_new (((w.alloc a).alloc b).alloc c) d
  exact f_old (o := e) (by simpa only [World.size_alloc] using h)
theorem f2 (w : World) (a b c d e : Obj) : (((((w.alloc a).alloc b).alloc c).alloc d).alloc e).drew.heap[w.heap.size + 1 + 1]? = some c := by
  have h := heap_new ((w.alloc a).alloc b) c
  exact f_old (o := e) (f_old (o := d) (by simpa only [World.size_alloc] using h))
theorem f1 (w : World) (a b c d e : Obj) : (((((w.alloc a).alloc b).alloc c).alloc d).alloc e).drew.heap[w.heap.size + 1]? = some b := by
  have h := heap_new (w.alloc a) b
  exact f_old (o := e) (f_old (o := d) (f_old (o := c) (by simpa only [World.size_alloc] using h)))
theorem f0 (w : World) (a b c d e : Obj) : (((((w.alloc a).alloc b).alloc c).alloc d).alloc e).drew.heap[w.heap.size]? = some a :=
  f_old (o := e) (f_old (o := d) (f_old (o := c) (f_old (o := b) (heap_new w a))))
theorem flow (w : World) (a b c d e : Obj) : Below w.heap.size w (((((w.alloc a).alloc b).alloc c).alloc d).alloc e).drew :=
  ((b3.alloc (by simp; omega) d).alloc (by simp; omega) e).drew
def BgRel (w : World) (z1 z2 z3 : Obj) (s1 : Value) (W : World) : Prop := ∃ n g1 g2 g3, s1 = .pointer (some ⟨n, 0, none⟩) ∧ W.heap[w.heap.size]? = some (.cells #[.slice none 0 0, .slice none 0 0, .slice none 0 0] 25) ∧ W.heap[n]? = some (.cells #[.slice (some ⟨g1, 0, none⟩) 11 11, .slice (some ⟨g2, 0, none⟩) 512 512, .slice (some ⟨g3, 0, none⟩) 64 64] 25) ∧ W.heap[g1]? = some z1 ∧ W.heap[g2]? = some z2 ∧ W.heap[g3]? = some z3 ∧ Below w.heap.size w W ∧ (w.heap.size < n ∧ w.heap.size < g1 ∧ w.heap.size < g2 ∧ w.heap.size < g3 ∧ n ≠ g1 ∧ n ≠ g2 ∧ n ≠ g3 ∧ g1 ≠ g2 ∧ g1 ≠ g3 ∧ g2 ≠ g3)
theorem box_of_block {W : World} {b : Nat} {cs : List Value} {t : TypeId} (h : W.heap[b]? = some (.cells cs.toArray t (0, 0))) : Box W b cs :=
  ⟨(Array.getElem?_eq_some_iff.1 h).1, fun i u hi => by simp [World.cell?, h, hi], fun i => by simp [World.frozen?, h]⟩
theorem bg_of {w W : World} {z1 z2 z3 : Obj} {s1 : Value} (h : BgRel w z1 z2 z3 s1 W) {l v : List Kn} {bs : List Bool} (e1 : z1 = .cells (knV l).toArray 33) (e2 : z2 = .cells (blV bs).toArray 4) (e3 : z3 = .cells (knV v).toArray 33) : ∃ n g1 g2 g3, s1 = .pointer (some ⟨n, 0, none⟩) ∧ Bg w W n g1 g2 g3 l bs v := by
  obtain ⟨n, g1, g2, g3, rfl, h0, hn, k1, k2, k3, low, p1, p2, p3, p4, p5, p6, p7, p8, p9, p10⟩ := h
  subst e1 e2 e3
  exact ⟨n, g1, g2, g3, rfl, low, box_of_block h0, box_of_block hn, ⟨p2, p3, p4, p8, p9, p10, rk_of_block k1, rb_of_block k2, rk_of_block k3⟩, p1, p5, p6, p7⟩
theorem sat_any (r : Int) (x : B) (w : World) : Calls Try.prog 53 #[.int .i64 r, .int .u64 (U x)] w fun e w' => e = .returned (.agg #[.int .i64 ((⟨2, bconst x, r⟩ : Kn)).kind, .int .u64 (U ((⟨2, bconst x, r⟩ : Kn)).num.ul), .int .u64 (U ((⟨2, bconst x, r⟩ : Kn)).num.uh), .int .i64 (S ((⟨2, bconst x, r⟩ : Kn)).num.sl), .int .i64 (S ((⟨2, bconst x, r⟩ : Kn)).num.sh), .int .u64 (U ((⟨2, bconst x, r⟩ : Kn)).num.t.v), .int .u64 (U ((⟨2, bconst x, r⟩ : Kn)).num.t.m), .int .i64 ((⟨2, bconst x, r⟩ : Kn)).reg]) ∧ Below w.heap.size w w' := by
  have HC := Lib.hid (fun W => bconst_any x W)
  dsimp only
  generalize bconst x = m at *
  have HB := Lib.hid (Box.new w [.int .i64 0, .int .u64 0, .int .u64 0, .int .i64 0, .int .i64 0, .int .u64 0, .int .u64 0, .int .i64 0] 33 rfl)
  go_enter Try.func53, Try.ntmps53
  go_wp2_with (go_at_call 66; (with_reducible refine (HC.out _).mono ?_); rintro e w1 ⟨rfl, hb⟩; have B1 := Lib.hid (bl1 hb); have F := (HB.out.next hb).eight; clear hb)
  exact bodyPost_ret (v := .agg #[.int .i64 2, .int .u64 (U m.ul), .int .u64 (U m.uh), .int .i64 (S m.sl), .int .i64 (S m.sh), .int .u64 (U m.t.v), .int .u64 (U m.t.m), .int .i64 r]) (by simp [results, Try.results53, go_sem, F]) rfl ⟨rfl, by repeat (first | with_reducible exact B1.out.1 | with_reducible refine Below.setCell ?_ (by simp) _)⟩
set_option maxRecDepth 100000 in
set_option maxHeartbeats 4000000 in
theorem sbegin_any (w : World) : Calls Try.prog 30 #[] w fun e w' => ∃ A : AbA, e = .returned (.agg #[.slice A.p1 beginS.regs.length A.c1, .slice A.p2 beginS.set.length A.c2, .slice A.p3 beginS.saved.length A.c3]) ∧ AbAt w' A beginS ∧ Below w.heap.size w w' := by
  have HL : Hid (∃ x1 x2 : Kn, beginS = ⟨((List.replicate 11 kzero).set 1 x1).set 10 x2, List.replicate 512 false, List.replicate 64 kzero⟩ ∧ (∀ W, Calls Try.prog 53 #[.int .i64 1, .int .u64 0] W fun e w' => e = .returned (.agg #[.int .i64 x1.kind, .int .u64 (U x1.num.ul), .int .u64 (U x1.num.uh), .int .i64 (S x1.num.sl), .int .i64 (S x1.num.sh), .int .u64 (U x1.num.t.v), .int .u64 (U x1.num.t.m), .int .i64 x1.reg]) ∧ Below W.heap.size W w') ∧ (∀ W, Calls Try.prog 53 #[.int .i64 2, .int .u64 512] W fun e w' => e = .returned (.agg #[.int .i64 x2.kind, .int .u64 (U x2.num.ul), .int .u64 (U x2.num.uh), .int .i64 (S x2.num.sl), .int .i64 (S x2.num.sh), .int .u64 (U x2.num.t.v), .int .u64 (U x2.num.t.m), .int .i64 x2.reg]) ∧ Below W.heap.size W w')) := Lib.hid ⟨⟨2, bconst 0#64, 1⟩, ⟨2, bconst 512#64, 2⟩, rfl, fun W => sat_any 1 0#64 W, fun W => sat_any 2 512#64 W⟩
  obtain ⟨x1, x2, hL, hA, hB⟩ := HL.out
  have HA := Lib.hid hA
  have HB := Lib.hid hB
  clear hA hB HL
  suffices hS : Calls Try.prog 30 #[] w (PutPost w ⟨((List.replicate 11 kzero).set 1 x1).set 10 x2, List.replicate 512 false, List.replicate 64 kzero⟩ 11 512 64) by
    rw [hL]
    exact hS
  clear hL
  have h1 := mk_knZ 11 (by omega)
  have h2 := mk_blZ 512 (by omega)
  have h3 := mk_knZ 64 (by omega)
  obtain ⟨z1, hz1⟩ : ∃ z, z = Obj.cells (zeros 11).toArray 33 := ⟨_, rfl⟩
  obtain ⟨z3, hz3⟩ : ∃ z, z = Obj.cells (zeros 64).toArray 33 := ⟨_, rfl⟩
  obtain ⟨z2, hz2⟩ : ∃ z, z = Obj.cells (blV (List.replicate 512 false)).toArray 4 := ⟨_, rfl⟩
  rw [← hz1] at h1
  rw [← hz2] at h2
  rw [← hz3] at h3
  have HZ1 := Lib.hid hz1
  have HZ2 := Lib.hid hz2
  have HZ3 := Lib.hid hz3
  clear hz1 hz2 hz3
  have l1 : (List.replicate 11 kzero).length = 11 := List.length_replicate
  have l2 : (List.replicate 512 false).length = 512 := List.length_replicate
  have l3 : (List.replicate 64 kzero).length = 64 := List.length_replicate
  have HR : Hid (∀ (s1 : Value) (W : World), BgRel w z1 z2 z3 s1 W → ∃ n g1 g2 g3, s1 = .pointer (some ⟨n, 0, none⟩) ∧ Bg w W n g1 g2 g3 (List.replicate 11 kzero) (List.replicate 512 false) (List.replicate 64 kzero)) := Lib.hid (fun s1 W h => bg_of h HZ1.out HZ2.out HZ3.out)
  generalize List.replicate 11 kzero = r1 at *
  generalize List.replicate 512 false = r2 at *
  generalize List.replicate 64 kzero = r3 at *
  have HL : Hid (r1.length = 11 ∧ r2.length = 512 ∧ r3.length = 64) := Lib.hid ⟨l1, l2, l3⟩
  clear l1 l2 l3 HZ1 HZ2 HZ3
  simp only [Int.cast_ofNat_Int] at h1 h2 h3
  go_enter Try.func30, Try.ntmps30
  go_wp2_with fail
  go_cut [1] (fun s1 wx => BgRel w z1 z2 z3 s1 wx)
  case first =>
    go_region
    all_goals (go_wp2_with fail; go_meet)
    all_goals
      refine' ⟨_, _, _, _, rfl, f0 _ _ _ _ _ _, ?bn, ?k1, ?k2, ?k3, flow _ _ _ _ _ _, ?dd⟩
      case bn => first | exact f1 _ _ _ _ _ _ | exact f2 _ _ _ _ _ _ | exact f3 _ _ _ _ _ _ | exact f4 _ _ _ _ _ _
      case k1 => first | exact f1 _ _ _ _ _ _ | exact f2 _ _ _ _ _ _ | exact f3 _ _ _ _ _ _ | exact f4 _ _ _ _ _ _
      case k2 => first | exact f1 _ _ _ _ _ _ | exact f2 _ _ _ _ _ _ | exact f3 _ _ _ _ _ _ | exact f4 _ _ _ _ _ _
      case k3 => first | exact f1 _ _ _ _ _ _ | exact f2 _ _ _ _ _ _ | exact f3 _ _ _ _ _ _ | exact f4 _ _ _ _ _ _
      case dd => omega
  case rest =>
    obtain ⟨n, g1, g2, g3, rfl, hg⟩ := HR.out _ _ hcut
    clear hcut HR h1 h2 h3
    have HN := Lib.hid (hg.next (Below.refl _ _).drew)
    clear hg
    have q0 : n ≠ g1 := HN.out.n1
    have F := HN.out.b1.three
    go_wp2_with fail
    go_cut [6] (fun _ wx => Bg w wx n g1 g2 g3 (r1.set 1 x1) r2 r3)
    case first =>
      go_region_held3 (fun W => W.cell? ⟨n, 0, none⟩ = some (.slice (some ⟨g1, 0, none⟩) 11 11) ∧ W.cell? ⟨n, 1, none⟩ = some (.slice (some ⟨g2, 0, none⟩) 512 512) ∧ W.cell? ⟨n, 2, none⟩ = some (.slice (some ⟨g3, 0, none⟩) 64 64))
        (first | with_reducible exact HN.out.s | exact HN2.out.s)
        (first | (go_at_call 53; (with_reducible refine (HA.out _).mono ?_); rintro e w1 ⟨rfl, hb⟩; have H' := Lib.hid (HN.out.next hb); clear hb HN F; have HN := H'; clear H'; have F := HN.out.b1.three; obtain ⟨x8, q2⟩ := HN.out.rw.r1.cellO 1 8 rfl (by rw [HL.out.1]; omega); have q3 := HN.out.rw.r1.fr; have q4 := HN.out.rw.r1.lt; have HN2 := Lib.hid (HN.out.setO 1 8 rfl (by rw [HL.out.1]; omega) x1)))
      all_goals (go_wp2_with fail; go_meet)
      exact HN2.out
    case rest =>
      have HM := Lib.hid (hcut.next (Below.refl _ _).drew)
      clear HN F HA hcut
      go_wp2_with fail
      go_region_held3 (fun W => W.cell? ⟨n, 0, none⟩ = some (.slice (some ⟨g1, 0, none⟩) 11 11) ∧ W.cell? ⟨n, 1, none⟩ = some (.slice (some ⟨g2, 0, none⟩) 512 512) ∧ W.cell? ⟨n, 2, none⟩ = some (.slice (some ⟨g3, 0, none⟩) 64 64))
        (first | with_reducible exact HN.out.s | with_reducible exact HM.out.s | exact HN3.out.s)
        (first | (go_at_call 53; (with_reducible refine (HB.out _).mono ?_); rintro e w2 ⟨rfl, hb⟩; have HN := Lib.hid (HM.out.next hb); clear hb HM; have F := HN.out.b1.three; have G := HN.out.b0.three; obtain ⟨x9, q2⟩ := HN.out.rw.r1.cellO 10 80 rfl (by rw [List.length_set, HL.out.1]; omega); have q3 := HN.out.rw.r1.fr; have q4 := HN.out.rw.r1.lt; have q5 : w.heap.size + 1 ≤ g1 := HN.out.rw.b1; have q6 := HN.out.ln; have HN3 := Lib.hid (HN.out.setO 10 80 rfl (by rw [List.length_set, HL.out.1]; omega) x2)))
      go_wp2_with fail
      have HP := Lib.hid (HN3.out.low)
      exact bodyPost_ret (v := .agg #[.slice (some ⟨g1, 0, none⟩) 11 11, .slice (some ⟨g2, 0, none⟩) 512 512, .slice (some ⟨g3, 0, none⟩) 64 64]) (by simp [results, Try.results30, go_sem, G]) rfl ⟨⟨some ⟨g1, 0, none⟩, some ⟨g2, 0, none⟩, some ⟨g3, 0, none⟩, 11, 512, 64⟩, rfl, (HN3.out.rw.box3 (Nat.lt_succ_self _) _ _ _).abG (by rw [List.length_set, List.length_set, HL.out.1]; decide) (by rw [HL.out.2.1]; decide) (by rw [HL.out.2.2]; decide) (by rw [List.length_set, List.length_set, HL.out.1, HL.out.2.1, HL.out.2.2]; decide), below_box3 HP.out (Nat.le_refl _) _ _ _⟩
end Go.Proofs.Ytdipmlamjjpcoaa
