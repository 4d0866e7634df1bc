/- States: the document's own Put where all may be. -/
import Derived.Test.YtdipmlamjjpcoaaSO
namespace Go.Proofs.Ytdipmlamjjpcoaa
open Go.RowKit
attribute [local go_sem] b_and b_or b_xor b_andNot b_low b_top b_most b_signed b_unsigned b_zero b_eq s_eq b_nzero b_neq s_neq b_max b_min s_max s_min
attribute [local go_sem ↓] Go.wp_at_zero Go.wp_at_succ

/-- a right state's copy: three blocks of one's own -/
structure Rw (W : World) (base : Nat) (l : List Kn) (bs : List Bool) (v : List Kn) (g1 g2 g3 : Nat) : Prop where
  b1 : base ≤ g1
  b2 : base ≤ g2
  b3 : base ≤ g3
  n12 : g1 ≠ g2
  n13 : g1 ≠ g3
  n23 : g2 ≠ g3
  r1 : Rk W g1 l
  r2 : Rb W g2 bs
  r3 : Rk W g3 v
theorem Rw.next {W W' : World} {base g1 g2 g3 : Nat} {l : List Kn} {bs : List Bool} {v : List Kn} (h : Rw W base l bs v g1 g2 g3) (hb : Below W.heap.size W W') : Rw W' base l bs v g1 g2 g3 :=
  ⟨h.b1, h.b2, h.b3, h.n12, h.n13, h.n23, h.r1.next hb, h.r2.next hb, h.r3.next hb⟩
theorem Rw.alloc {W : World} {base g1 g2 g3 : Nat} {l : List Kn} {bs : List Bool} {v : List Kn} (h : Rw W base l bs v g1 g2 g3) (o : Obj) : Rw (W.alloc o) base l bs v g1 g2 g3 := h.next ((Below.refl _ _).alloc (Nat.le_refl _) o)
theorem Rw.other {W : World} {base g1 g2 g3 : Nat} {l : List Kn} {bs : List Bool} {v : List Kn} (h : Rw W base l bs v g1 g2 g3) {a : Addr} (ha : a.block < base) (u : Value) : Rw (W.setCell a u) base l bs v g1 g2 g3 :=
  ⟨h.b1, h.b2, h.b3, h.n12, h.n13, h.n23, h.r1.other (by have := h.b1; omega) u, h.r2.other (by have := h.b2; omega) u, h.r3.other (by have := h.b3; omega) u⟩
theorem Rw.set1 {W : World} {base g1 g2 g3 k : Nat} {l : List Kn} {bs : List Bool} {v : List Kn} (h : Rw W base l bs v g1 g2 g3) (hk : k < l.length) (x : Kn) : Rw (put8 W g1 (k * 8) x) base (l.set k x) bs v g1 g2 g3 :=
  ⟨h.b1, h.b2, h.b3, h.n12, h.n13, h.n23, h.r1.set hk x, h.r2.far h.n12 x, h.r3.far h.n13 x⟩
theorem Rw.set2 {W : World} {base g1 g2 g3 k : Nat} {l : List Kn} {bs : List Bool} {v : List Kn} (h : Rw W base l bs v g1 g2 g3) (hk : k < bs.length) (b : Bool) : Rw (W.setCell ⟨g2, k, none⟩ (.bool b)) base l (bs.set k b) v g1 g2 g3 :=
  ⟨h.b1, h.b2, h.b3, h.n12, h.n13, h.n23, h.r1.other (fun e => h.n12 e.symm) _, h.r2.set hk b, h.r3.other (by exact h.n23) _⟩
theorem Rw.set3 {W : World} {base g1 g2 g3 k : Nat} {l : List Kn} {bs : List Bool} {v : List Kn} (h : Rw W base l bs v g1 g2 g3) (hk : k < v.length) (x : Kn) : Rw (put8 W g3 (k * 8) x) base l bs (v.set k x) g1 g2 g3 :=
  ⟨h.b1, h.b2, h.b3, h.n12, h.n13, h.n23, h.r1.far (fun e => h.n13 e.symm) x, h.r2.far (fun e => h.n23 e.symm) x, h.r3.set hk x⟩
theorem Rw.ab {W : World} {base g1 g2 g3 c1 c2 c3 : Nat} {l : List Kn} {bs : List Bool} {v : List Kn} (h : Rw W base l bs v g1 g2 g3) (h1 : l.length = 11) (h2 : bs.length = 512) (h3 : v.length = 64) (hc : 11 ≤ c1 ∧ 512 ≤ c2 ∧ 64 ≤ c3) : AbAt W ⟨some ⟨g1, 0, none⟩, some ⟨g2, 0, none⟩, some ⟨g3, 0, none⟩, c1, c2, c3⟩ ⟨l, bs, v⟩ :=
  ⟨h.r1.at (by omega), h.r2.at (by omega), h.r3.at (by omega), by show l.length ≤ c1 ∧ bs.length ≤ c2 ∧ v.length ≤ c3; omega⟩
theorem rcopy_ok (A : AbA) (s : Ab) (w : World) (h : AbAt w A s) (hc : checkS s = true) : Calls Try.prog 15 #[.agg #[.slice A.p1 11 A.c1, .slice A.p2 512 A.c2, .slice A.p3 64 A.c3]] w fun e w' => ∃ g1 g2 g3 c1 c2 c3, e = .returned (.agg #[.slice (some ⟨g1, 0, none⟩) 11 c1, .slice (some ⟨g2, 0, none⟩) 512 c2, .slice (some ⟨g3, 0, none⟩) 64 c3]) ∧ Below w.heap.size w w' ∧ Rw w' w.heap.size s.regs s.set s.saved g1 g2 g3 ∧ (11 ≤ c1 ∧ 512 ≤ c2 ∧ 64 ≤ c3) := by
  have H := rcopy_any A s w h
  obtain ⟨n1, n2, n3⟩ := (check_iff.1 hc).1
  rw [n1, n2, n3] at H
  refine H.mono ?_
  rintro e w' ⟨⟨p1, p2, p3, c1, c2, c3⟩, rfl, hb, hab, _, hr⟩
  have hcap := hab.cap
  rw [n1, n2, n3] at hcap
  obtain ⟨g1, g2, g3, e1, e2, e3, b1, b2, b3, n12, n13, n23, r1, r2, r3⟩ := hr hc
  dsimp only at e1 e2 e3
  subst e1 e2 e3
  exact ⟨g1, g2, g3, c1, c2, c3, rfl, hb, ⟨b1, b2, b3, n12, n13, n23, r1, r2, r3⟩, hcap⟩
theorem Rw.base3 {w W : World} {o1 o2 o3 : Obj} {g1 g2 g3 : Nat} {l : List Kn} {bs : List Bool} {v : List Kn} (h : Rw W (((w.alloc o1).alloc o2).alloc o3).heap.size l bs v g1 g2 g3) : Rw W (w.heap.size + 3) l bs v g1 g2 g3 := by
  simpa [Nat.add_assoc] using h
theorem Rw.fin {w W : World} {g1 g2 g3 c1 c2 c3 : Nat} {l : List Kn} {bs : List Bool} {v : List Kn} (hc : 11 ≤ c1 ∧ 512 ≤ c2 ∧ 64 ≤ c3) (low : Below w.heap.size w W) (h : Rw W (w.heap.size + 3) l bs v g1 g2 g3) (h1 : l.length = 11) (h2 : bs.length = 512) (h3 : v.length = 64) (u0 u1 u2 : Value) :
    PutPost w ⟨l, bs, v⟩ 11 512 64 (.returned (.agg #[.slice (some ⟨g1, 0, none⟩) 11 c1, .slice (some ⟨g2, 0, none⟩) 512 c2, .slice (some ⟨g3, 0, none⟩) 64 c3])) (((W.setCell ⟨w.heap.size + 2, 0, none⟩ u0).setCell ⟨w.heap.size + 2, 1, none⟩ u1).setCell ⟨w.heap.size + 2, 2, none⟩ u2) :=
  ⟨⟨some ⟨g1, 0, none⟩, some ⟨g2, 0, none⟩, some ⟨g3, 0, none⟩, c1, c2, c3⟩, rfl, (((h.other (a := ⟨w.heap.size + 2, 0, none⟩) (Nat.lt_succ_self _) u0).other (a := ⟨w.heap.size + 2, 1, none⟩) (Nat.lt_succ_self _) u1).other (a := ⟨w.heap.size + 2, 2, none⟩) (Nat.lt_succ_self _) u2).ab h1 h2 h3 hc,
   ((low.setCell (p := ⟨w.heap.size + 2, 0, none⟩) (by show w.heap.size ≤ w.heap.size + 2; omega) _).setCell (p := ⟨w.heap.size + 2, 1, none⟩) (by show w.heap.size ≤ w.heap.size + 2; omega) _).setCell (p := ⟨w.heap.size + 2, 2, none⟩) (by show w.heap.size ≤ w.heap.size + 2; omega) _⟩
set_option maxRecDepth 100000 in
set_option maxHeartbeats 1000000 in
theorem rput_y (A : AbA) (s : Ab) (j : Nat) (k : Kn) (w : World) (h : AbAt w A s) (hc : checkS s = true) (hj : j < 11) (hk : right k = true) : Calls Try.prog 19 #[.agg #[.slice A.p1 11 A.c1, .slice A.p2 512 A.c2, .slice A.p3 64 A.c3], .int .i64 (j : Int), .agg #[.int .i64 k.kind, .int .u64 (U k.num.ul), .int .u64 (U k.num.uh), .int .i64 (S k.num.sl), .int .i64 (S k.num.sh), .int .u64 (U k.num.t.v), .int .u64 (U k.num.t.m), .int .i64 k.reg]] w (PutPost w ⟨s.regs.set j k, s.set, s.saved⟩ 11 512 64) := by
  have HCP := Lib.hid (fun (W : World) (hb : Below w.heap.size w W) => rcopy_ok A s W (h.below hb) hc)
  have hck := fun (W : World) (hb : Below w.heap.size w W) => rcheck_any A s W (h.below hb)
  have HRT := Lib.hid (fun (W : World) => rright_any k W)
  obtain ⟨n1, n2, n3⟩ := (check_iff.1 hc).1
  rw [hc, n1, n2, n3] at hck
  rw [hk] at HRT
  have HCK := Lib.hid hck
  have HL : Hid (s.regs.length = 11 ∧ s.set.length = 512 ∧ s.saved.length = 64) := Lib.hid ⟨n1, n2, n3⟩
  clear hck h hc hk n1 n2 n3
  generalize s.regs = l at *
  generalize s.set = bs at *
  generalize s.saved = v at *
  have HN := Lib.hid (Pw.new w A 11 512 64 k 25 33 25)
  have f0 := HN.out.f
  go_enter Try.func19, Try.ntmps19
  go_wp2_with (first
    | (go_at_call 9; (with_reducible refine (HRT.out _).mono ?_); rintro e w3 ⟨rfl, hb⟩; have H' := Lib.hid (HM.out.next hb); have HR' := Lib.hid (HR.out.next hb); clear hb f0 f1 HM HR; have HM := H'; have HR := HR'; clear H' HR'; have f0 := HM.out.pw.f; have f1 := HM.out.f; dsimp only at f1; have q1 := HR.out.r1.cell j (by rw [HL.out.1]; exact hj); have q2 := HR.out.r1.fr; have q3 := HR.out.r1.lt)
    | (go_at_call 42; (with_reducible refine (HCK.out _ HM.out.pw.low).mono ?_); rintro e w2 ⟨rfl, hb⟩; have H' := Lib.hid (HM.out.next hb); have HR' := Lib.hid ((HR.out.alloc _).next hb); clear hb f0 f1 HM HR; have HM := H'; have HR := HR'; clear H' HR'; have f0 := HM.out.pw.f; have f1 := HM.out.f; dsimp only at f1)
    | (go_at_call 15; (with_reducible refine (HCP.out _ HN.out.low).mono ?_); rintro e w1 ⟨g1, g2, g3, c1, c2, c3, rfl, hb, hr, hcap⟩; have HCAP := Lib.hid hcap; clear hcap; have HM := Lib.hid (Pc.new (B := ⟨some ⟨g1, 0, none⟩, some ⟨g2, 0, none⟩, some ⟨g3, 0, none⟩, c1, c2, c3⟩) (HN.out.next hb) 25); have HR := Lib.hid hr.base3; have z1 := hr.r1.lt; have z2 : w.heap.size + 2 < g1 := HR.out.b1; clear hb hr f0; have f0 := HM.out.pw.f; have f1 := HM.out.f; dsimp only at f1))
  exact bodyPost_ret (v := .agg #[.slice (some ⟨g1, 0, none⟩) 11 c1, .slice (some ⟨g2, 0, none⟩) 512 c2, .slice (some ⟨g3, 0, none⟩) 64 c3]) (by simp [results, Try.results19, go_sem, f0]) rfl (Rw.fin HCAP.out (below_put8 (x := k) HM.out.pw.low (by omega)) (HR.out.set1 (by rw [HL.out.1]; exact hj) k) (by rw [List.length_set]; exact HL.out.1) HL.out.2.1 HL.out.2.2 _ _ _)
theorem rput_any (A : AbA) (s : Ab) (r : Int) (k : Kn) (w : World) (h : AbAt w A s) : Calls Try.prog 19 #[.agg #[.slice A.p1 s.regs.length A.c1, .slice A.p2 s.set.length A.c2, .slice A.p3 s.saved.length A.c3], .int .i64 r, .agg #[.int .i64 k.kind, .int .u64 (U k.num.ul), .int .u64 (U k.num.uh), .int .i64 (S k.num.sl), .int .i64 (S k.num.sh), .int .u64 (U k.num.t.v), .int .u64 (U k.num.t.m), .int .i64 k.reg]] w fun e w' => ∃ B : AbA, e = .returned (.agg #[.slice B.p1 ((putS s r k)).regs.length B.c1, .slice B.p2 ((putS s r k)).set.length B.c2, .slice B.p3 ((putS s r k)).saved.length B.c3]) ∧ AbAt w' B (putS s r k) ∧ Below w.heap.size w w' := by
  have no : putS s r k = s → Calls Try.prog 19 #[.agg #[.slice A.p1 s.regs.length A.c1, .slice A.p2 s.set.length A.c2, .slice A.p3 s.saved.length A.c3], .int .i64 r, .agg #[.int .i64 k.kind, .int .u64 (U k.num.ul), .int .u64 (U k.num.uh), .int .i64 (S k.num.sl), .int .i64 (S k.num.sh), .int .u64 (U k.num.t.v), .int .u64 (U k.num.t.m), .int .i64 k.reg]] w (PutPost w s s.regs.length s.set.length s.saved.length) → Calls Try.prog 19 #[.agg #[.slice A.p1 s.regs.length A.c1, .slice A.p2 s.set.length A.c2, .slice A.p3 s.saved.length A.c3], .int .i64 r, .agg #[.int .i64 k.kind, .int .u64 (U k.num.ul), .int .u64 (U k.num.uh), .int .i64 (S k.num.sl), .int .i64 (S k.num.sh), .int .u64 (U k.num.t.v), .int .u64 (U k.num.t.m), .int .i64 k.reg]] w fun e w' => ∃ B : AbA, e = .returned (.agg #[.slice B.p1 ((putS s r k)).regs.length B.c1, .slice B.p2 ((putS s r k)).set.length B.c2, .slice B.p3 ((putS s r k)).saved.length B.c3]) ∧ AbAt w' B (putS s r k) ∧ Below w.heap.size w w' := by
    intro e H
    rw [e]
    exact H
  cases hc : checkS s with
  | false => exact no (by unfold putS; rw [if_neg (by rw [hc]; simp)]) (rput_c A s r k w h hc)
  | true =>
    by_cases h0 : r < 0
    · exact no (by unfold putS; rw [if_neg]; simp; omega) (rput_l A s r k w h hc h0)
    by_cases h1 : 11 ≤ r
    · exact no (by unfold putS; rw [if_neg]; simp; omega) (rput_h A s r k w h hc (by omega) h1)
    cases hk : right k with
    | false => exact no (by unfold putS; rw [if_neg]; simp [hk]) (rput_k A s r k w h hc (by omega) (by omega) hk)
    | true =>
      obtain ⟨j, rfl⟩ : ∃ j : Nat, r = (j : Int) := ⟨r.toNat, by omega⟩
      have H := rput_y A s j k w h hc (by omega) hk
      obtain ⟨n1, n2, n3⟩ := (check_iff.1 hc).1
      have e : putS s (j : Int) k = ⟨s.regs.set j k, s.set, s.saved⟩ := by
        unfold putS
        rw [if_pos (by simp [hc, hk]; omega)]
        simp
      rw [e]
      simp only [List.length_set, n1, n2, n3]
      exact H
end Go.Proofs.Ytdipmlamjjpcoaa
