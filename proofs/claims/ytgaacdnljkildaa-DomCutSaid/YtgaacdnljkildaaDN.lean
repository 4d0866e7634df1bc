/- Dominance: the laws' example, reckoned. -/
import Derived.Test.YtgaacdnljkildaaDM
namespace Go.Proofs.Ytgaacdnljkildaa
open Go.RowKit
open Dm

def g0 : List (List Int) := [[1, 2], [3], [3], []]
theorem g0_ord : ordL g0 = [0, 2, 1, 3] := by decide +kernel
theorem e01 : (gL g0).e 0 1 := gL_e.2 ⟨by decide, by decide, by decide⟩
theorem e02 : (gL g0).e 0 2 := gL_e.2 ⟨by decide, by decide, by decide⟩
theorem e13 : (gL g0).e 1 3 := gL_e.2 ⟨by decide, by decide, by decide⟩
theorem e23 : (gL g0).e 2 3 := gL_e.2 ⟨by decide, by decide, by decide⟩
theorem g0_N : 0 < (gL g0).N := by show 0 < 4; omega
theorem r0' : (gL g0).R 0 := .zero g0_N (fun c => c)
theorem r1' : (gL g0).R 1 := .step r0' e01 (fun c => c)
theorem r2' : (gL g0).R 2 := .step r0' e02 (fun c => c)
theorem r3' : (gL g0).R 3 := .step r1' e13 (fun c => c)
theorem w_0 {x : Nat} (h : x ≠ 0) : (gL g0).W x 0 := .zero g0_N (fun c => h c.symm)
theorem w_1 {x : Nat} (h : x ≠ 0) (h1 : x ≠ 1) : (gL g0).W x 1 := .step (w_0 h) e01 (fun c => h1 c.symm)
theorem w_2 {x : Nat} (h : x ≠ 0) (h1 : x ≠ 2) : (gL g0).W x 2 := .step (w_0 h) e02 (fun c => h1 c.symm)
theorem w_3 {x : Nat} (h : x ≠ 0) (h3 : x ≠ 3) : (gL g0).W x 3 := by
  by_cases h1 : x = 1
  · exact .step (w_2 h (by omega)) e23 (fun c => h3 c.symm)
  · exact .step (w_1 h h1) e13 (fun c => h3 c.symm)
theorem d_0 {x : Nat} (h : (gL g0).D x 0) : x = 0 := by
  obtain ⟨_, _, h⟩ := h
  by_cases e : x = 0
  · exact e
  · rcases h with h | h
    · exact h
    · exact absurd (w_0 e) h
theorem i_b {b : Nat} (hr : (gL g0).R b) (h0 : b ≠ 0) (hw : ∀ x, x ≠ 0 → x ≠ b → (gL g0).W x b) : (gL g0).Up b 0 := by
  refine .inr ⟨0, rfl, fun e => h0 e.symm, Dg.d0 hr, fun x hx hd => ?_⟩
  obtain ⟨hx1, _, hd⟩ := hd
  by_cases e : x = 0
  · rw [e]; exact Dg.D.self r0'
  · rcases hd with hd | hd
    · exact absurd hd hx
    · exact absurd (hw x e hx) hd
theorem g0_idom : idomL g0 = [-1, 0, 0, 0] := by
  have h0 : (gL g0).Up 0 (-1) := .inl ⟨rfl, fun x hx hd => hx (d_0 hd)⟩
  have h1 := i_b r1' (by omega) (fun x a b => w_1 a b)
  have h2 := i_b r2' (by omega) (fun x a b => w_2 a b)
  have h3 := i_b r3' (by omega) (fun x a b => w_3 a b)
  show [upv (gL g0) 0, upv (gL g0) 1, upv (gL g0) 2, upv (gL g0) 3] = _
  rw [← upv_is h0, ← upv_is h1, ← upv_is h2, ← upv_is h3]
theorem g0_dom03 : domB g0 0 3 = true := (domB_iff (a := 0) (b := 3)).2 (Dg.d0 r3')
theorem nd13 : ¬ (gL g0).D 1 3 := fun h => by
  obtain ⟨_, _, h⟩ := h
  rcases h with h | h
  · omega
  · exact h (w_3 (by omega) (by omega))
theorem g0_dom13 : domB g0 1 3 = false := by
  cases h : domB g0 1 3 with
  | false => rfl
  | true => exact absurd ((domB_iff (a := 1) (b := 3)).1 h) nd13
theorem d_1 {x : Nat} (h : (gL g0).D 1 x) (hx : x < 4) : x = 1 := by
  obtain ⟨_, _, h⟩ := h
  rcases h with h | h
  · exact h.symm
  · match x, hx, h with
    | 0, _, h => exact absurd (w_0 (by omega)) h
    | 1, _, _ => rfl
    | 2, _, h => exact absurd (w_2 (by omega) (by omega)) h
    | 3, _, h => exact absurd (w_3 (by omega) (by omega)) h
theorem f_1 {b : Nat} (h : (gL g0).F 1 b) : b = 3 := by
  obtain ⟨_, _, ⟨x, hd, he⟩, _⟩ := h
  obtain ⟨h1, h2, _⟩ := gL_e.1 he
  obtain rfl := d_1 hd h1
  have : (b : Int) ∈ [(3 : Int)] := h2
  have := List.mem_singleton.1 this
  omega
theorem g0_front : (frontL g0).getD 1 [] = [3] := by
  show frontP g0 1 4 = [3]
  rw [show (4 : Nat) = 3 + 1 from rfl, front_yes ⟨r1', r3', ⟨1, Dg.D.self r1', e13⟩, .inr nd13⟩, front_no (fun h => by have := f_1 h; omega), front_no (fun h => by have := f_1 h; omega), front_no (fun h => by have := f_1 h; omega)]
  rfl
theorem g0_frontlen : (frontL g0).length = 4 := rfl
theorem g0_reachlen : (reachB g0).length = 4 := rfl
theorem nil_idom : idomL [] = [] := rfl
theorem cells_old {W : World} {o : Obj} {b i : Nat} {u : Value} (hb : b < W.heap.size) (h : W.cell? ⟨b, i, none⟩ = some u) : (W.alloc o).cell? ⟨b, i, none⟩ = some u :=
  (((Below.refl W.heap.size W).alloc (Nat.le_refl _) o).cell (p := ⟨b, i, none⟩) hb).trans h
theorem nums_s {w W : World} {n : Nat} {xs : List Int} (h : n = w.heap.size) (hs : xs.length ≤ 4096) (hb : Below (w.alloc (.cells (xs.map (Value.int .i64)).toArray 3)).heap.size (w.alloc (.cells (xs.map (Value.int .i64)).toArray 3)) W) : NumsAt .i64 W (some ⟨n, 0, none⟩) xs := by
  subst h
  exact (nums_new w 3 xs _ rfl hs).below hb
theorem g0_new (w : World) : GsAt (((((w.alloc (.cells #[.int .i64 1, .int .i64 2] 3)).alloc (.cells #[.int .i64 3] 3)).alloc (.cells #[.int .i64 3] 3)).alloc (.cells #[] 3)).alloc (.cells #[.slice (some ⟨w.heap.size, 0, none⟩) 2 2, .slice (some ⟨w.heap.size + 1, 0, none⟩) 1 1, .slice (some ⟨w.heap.size + 1 + 1, 0, none⟩) 1 1, .slice (some ⟨w.heap.size + 1 + 1 + 1, 0, none⟩) 0 0] 27)) (some ⟨w.heap.size + 1 + 1 + 1 + 1, 0, none⟩) g0 := by
  have bl : ∀ (W : World) (o : Obj), Below W.heap.size W (W.alloc o) := fun W o => (Below.refl _ _).alloc (Nat.le_refl _) _
  have bt : ∀ {A B C : World}, Below A.heap.size A B → Below B.heap.size B C → Below A.heap.size A C := fun h1 h2 => h1.trans (h2.mono h1.size)
  have e1 : (w.alloc (.cells #[.int .i64 1, .int .i64 2] 3)).heap.size = w.heap.size + 1 := by simp
  have e2 : ((w.alloc (.cells #[.int .i64 1, .int .i64 2] 3)).alloc (.cells #[.int .i64 3] 3)).heap.size = w.heap.size + 1 + 1 := by simp
  have e4 : ((((w.alloc (.cells #[.int .i64 1, .int .i64 2] 3)).alloc (.cells #[.int .i64 3] 3)).alloc (.cells #[.int .i64 3] 3)).alloc (.cells #[] 3)).heap.size = w.heap.size + 1 + 1 + 1 + 1 := by simp
  have hc : ∀ i u, (#[.slice (some ⟨w.heap.size, 0, none⟩) 2 2, .slice (some ⟨w.heap.size + 1, 0, none⟩) 1 1, .slice (some ⟨w.heap.size + 1 + 1, 0, none⟩) 1 1, .slice (some ⟨w.heap.size + 1 + 1 + 1, 0, none⟩) 0 0] : Array Value)[i]? = some u → (((((w.alloc (.cells #[.int .i64 1, .int .i64 2] 3)).alloc (.cells #[.int .i64 3] 3)).alloc (.cells #[.int .i64 3] 3)).alloc (.cells #[] 3)).alloc (.cells #[.slice (some ⟨w.heap.size, 0, none⟩) 2 2, .slice (some ⟨w.heap.size + 1, 0, none⟩) 1 1, .slice (some ⟨w.heap.size + 1 + 1, 0, none⟩) 1 1, .slice (some ⟨w.heap.size + 1 + 1 + 1, 0, none⟩) 0 0] 27)).cell? ⟨w.heap.size + 1 + 1 + 1 + 1, i, none⟩ = some u := fun i u hu => by
    have := cell_new ((((w.alloc (.cells #[.int .i64 1, .int .i64 2] 3)).alloc (.cells #[.int .i64 3] 3)).alloc (.cells #[.int .i64 3] 3)).alloc (.cells #[] 3)) (t := 27) (fr := (0, 0)) hu
    rwa [e4] at this
  refine ⟨fun i hi => ?_⟩
  have hi' : i < 4 := hi
  match i, hi' with
  | 0, _ => exact ⟨_, 0, _, 2, rfl, by simp, hc 0 _ rfl, nums_s (w := w) (xs := [1, 2]) rfl (by decide) (bt (bt (bt (bl _ _) (bl _ _)) (bl _ _)) (bl _ _))⟩
  | 1, _ => exact ⟨_, 0, _, 1, rfl, by simp, hc 1 _ rfl, nums_s (xs := [3]) e1.symm (by decide) (bt (bt (bl _ _) (bl _ _)) (bl _ _))⟩
  | 2, _ => exact ⟨_, 0, _, 1, rfl, by simp, hc 2 _ rfl, nums_s (xs := [3]) e2.symm (by decide) (bt (bl _ _) (bl _ _))⟩
  | 3, _ => exact ⟨_, 0, _, 0, rfl, by simp, hc 3 _ rfl, nums_nil _ _⟩
/-- the example and its frontier in memory -/
structure Hd5 (w W : World) (q : Option Addr) (b off : Nat) (p1 : Option Addr) (c1 : Nat) : Prop where
  low : Below w.heap.size w W
  gs : GsAt W q g0
  lt : b < W.heap.size
  c : W.cell? ⟨b, off + 1, none⟩ = some (.slice p1 1 c1)
  n1 : NumsAt .i64 W p1 [3]
theorem Hd5.next {w W W' : World} {q : Option Addr} {b off : Nat} {p1 : Option Addr} {c1 : Nat} (h : Hd5 w W q b off p1 c1) (hb : Below W.heap.size W W') : Hd5 w W' q b off p1 c1 :=
  ⟨h.low.trans (hb.mono h.low.size), h.gs.below hb, Nat.lt_of_lt_of_le h.lt hb.size, (hb.cell (p := ⟨b, off + 1, none⟩) h.lt).trans h.c, h.n1.below hb⟩
theorem Hd5.f {w W : World} {q : Option Addr} {b off : Nat} {p1 : Option Addr} {c1 : Nat} (h : Hd5 w W q b off p1 c1) : W.cell? ⟨b, off + 1, none⟩ = some (.slice p1 1 c1) ∧ b < W.heap.size := ⟨h.c, h.lt⟩
theorem g0_tot : tot g0 ≤ 1048576 := by decide
theorem g0_wd : Wd g0 := fun i x hx => by
  have h : 0 ≤ x ∧ x ≤ 3 := by
    match i, hx with
    | 0, hx => have hx : x ∈ [(1 : Int), 2] := hx; simp at hx; omega
    | 1, hx => have hx : x ∈ [(3 : Int)] := hx; simp at hx; omega
    | 2, hx => have hx : x ∈ [(3 : Int)] := hx; simp at hx; omega
    | 3, hx => have hx : x ∈ ([] : List Int) := hx; simp at hx
    | n + 4, hx => have hx : x ∈ ([] : List Int) := hx; simp at hx
  exact lit_wf (by omega) (by omega)
theorem front_p0 (q : Option Addr) (qc : Nat) (w0 w : World) (h : GsAt w q g0) (hlow : Below w0.heap.size w0 w) : Calls Try.prog 12 #[.slice q 4 qc] w fun e w' => ∃ b off p1 c1 c, e = .returned (.slice (some ⟨b, off, none⟩) 4 c) ∧ Hd5 w0 w' q b off p1 c1 := by
  refine (sfront_any q qc g0 w h (by decide) g0_tot g0_wd).mono ?_
  rintro e w' ⟨p, c, rfl, hg, hb⟩
  rw [g0_frontlen]
  obtain ⟨b, off, p1, c1, rfl, hl, h0, hn⟩ := hg.cells 1 (by rw [g0_frontlen]; decide)
  rw [g0_front] at h0 hn
  exact ⟨b, off, p1, c1, c, rfl, hlow.trans (hb.mono hlow.size), h.below hb, hl, h0, hn⟩
theorem idom_p0 (q : Option Addr) (qc : Nat) (w : World) (h : GsAt w q g0) : Calls Try.prog 16 #[.slice q 4 qc] w fun e w' => ∃ p c, e = .returned (.slice p 4 c) ∧ NumsAt .i64 w' p [-1, 0, 0, 0] ∧ Below w.heap.size w w' := by
  refine (sidom_any q qc g0 w h (by decide) g0_tot g0_wd).mono ?_
  rintro e w' ⟨p, c, rfl, hn, hb⟩
  rw [g0_idom] at hn ⊢
  exact ⟨p, c, rfl, hn, hb⟩
theorem idom_nil (w : World) : Calls Try.prog 16 #[.slice none 0 0] w fun e w' => ∃ p c, e = .returned (.slice p 0 c) ∧ Below w.heap.size w w' := by
  refine (sidom_any none 0 [] w ⟨fun i hi => absurd hi (Nat.not_lt_zero _)⟩ (by decide) (by decide) wd_nil).mono ?_
  rintro e w' ⟨p, c, rfl, _, hb⟩
  exact ⟨p, c, rfl, hb⟩
theorem order_p0 (q : Option Addr) (qc : Nat) (w : World) (h : GsAt w q g0) : Calls Try.prog 19 #[.slice q 4 qc] w fun e w' => ∃ p c, e = .returned (.slice p 4 c) ∧ NumsAt .i64 w' p [0, 2, 1, 3] ∧ Below w.heap.size w w' := by
  refine (sorder_any q qc g0 w h (by decide) g0_tot).mono ?_
  rintro e w' ⟨p, c, rfl, hn, hb⟩
  rw [g0_ord] at hn ⊢
  exact ⟨p, c, rfl, hn, hb⟩
theorem dom_p0 (q : Option Addr) (qc : Nat) (a b : Int) (v : Bool) (hv : domB g0 a b = v) (hl : (lit b).wf = true) (w : World) (h : GsAt w q g0) : Calls Try.prog 11 #[.slice q 4 qc, .int .i64 a, .int .i64 b] w fun e w' => e = .returned (.bool v) ∧ Below w.heap.size w w' := by
  have := sdom_any q qc g0 a b w h (by decide) g0_tot hl
  rw [hv] at this
  exact this
theorem reach_p0 (q : Option Addr) (qc : Nat) (w : World) (h : GsAt w q g0) : Calls Try.prog 10 #[.slice q 4 qc] w fun e w' => ∃ p c, e = .returned (.slice p 4 c) ∧ Below w.heap.size w w' := by
  refine (sreach_any q qc g0 w h (by decide) g0_tot).mono ?_
  rintro e w' ⟨p, c, rfl, _, hb⟩
  exact ⟨p, c, rfl, hb⟩
theorem nums4 (w : World) (t : TypeId) (x y z u : Int) : NumsAt .i64 (w.alloc (.cells #[.int .i64 x, .int .i64 y, .int .i64 z, .int .i64 u] t)) (some ⟨w.heap.size, 0, none⟩) [x, y, z, u] := nums_new w t [x, y, z, u] _ rfl (by simp)
theorem nums1 (w : World) (t : TypeId) (x : Int) : NumsAt .i64 (w.alloc (.cells #[.int .i64 x] t)) (some ⟨w.heap.size, 0, none⟩) [x] := nums_new w t [x] _ rfl (by simp)
theorem ints4 (p q : Option Addr) (c d : Nat) (x y z u : Int) (w : World) (h1 : NumsAt .i64 w p [x, y, z, u]) (h2 : NumsAt .i64 w q [x, y, z, u]) : Calls Try.prog 15 #[.slice p 4 c, .slice q 4 d] w fun e w' => e = .returned (.bool true) ∧ Below w.heap.size w w' := ints_eq p q c d [x, y, z, u] w h1 h2
theorem ints1 (p q : Option Addr) (c d : Nat) (x : Int) (w : World) (h1 : NumsAt .i64 w p [x]) (h2 : NumsAt .i64 w q [x]) : Calls Try.prog 15 #[.slice p 1 c, .slice q 1 d] w fun e w' => e = .returned (.bool true) ∧ Below w.heap.size w w' := ints_eq p q c d [x] w h1 h2
set_option maxRecDepth 100000 in
set_option maxHeartbeats 2000000 in
theorem heads15_any (w : World) : Calls Try.prog 9 #[] w fun e w' => e = .returned (.bool true) ∧ Below w.heap.size w w' := by
  have HP := Lib.hid (g0_new w)
  have HB : Hid (Below w.heap.size w (((((w.alloc (.cells #[.int .i64 1, .int .i64 2] 3)).alloc (.cells #[.int .i64 3] 3)).alloc (.cells #[.int .i64 3] 3)).alloc (.cells #[] 3)).alloc (.cells #[.slice (some ⟨w.heap.size, 0, none⟩) 2 2, .slice (some ⟨w.heap.size + 1, 0, none⟩) 1 1, .slice (some ⟨w.heap.size + 1 + 1, 0, none⟩) 1 1, .slice (some ⟨w.heap.size + 1 + 1 + 1, 0, none⟩) 0 0] 27))) := Lib.hid ((((((Below.refl _ _).alloc (Nat.le_refl _) _).alloc (by simp) _).alloc (by simp; omega) _).alloc (by simp; omega) _).alloc (by simp; omega) _)
  go_enter Try.func9, Try.ntmps9
  go_wp2_with (first
    | (go_at_call 12; (with_reducible refine (front_p0 _ _ w _ HP.out HB.out).mono ?_); rintro e w2 ⟨b, off, p1, c1, c, rfl, hn⟩; have HN := Lib.hid hn; clear hn; have F := HN.out.f)
    | (go_at_call 16; (with_reducible refine (idom_nil _).mono ?_); rintro e w3 ⟨p3, c3, rfl, hb⟩; have H' := Lib.hid (HN.out.next hb); clear hb HN F; have HN := H'; clear H'; have F := HN.out.f)
    | (go_at_call 16; (with_reducible refine (idom_p0 _ _ _ HN.out.gs).mono ?_); rintro e w4 ⟨p4, c4, rfl, hn, hb⟩; have HRI := Lib.hid hn; have H' := Lib.hid (HN.out.next hb); clear hn hb HN F; have HN := H'; clear H'; have F := HN.out.f)
    | (go_at_call 19; (with_reducible refine (order_p0 _ _ _ HN.out.gs).mono ?_); rintro e w5 ⟨p5, c5, rfl, hn, hb⟩; have HRO := Lib.hid hn; have H' := Lib.hid (HN.out.next hb); clear hn hb HN F; have HN := H'; clear H'; have F := HN.out.f)
    | (go_at_call 10; (with_reducible refine (reach_p0 _ _ _ HN.out.gs).mono ?_); rintro e w6 ⟨p6, c6, rfl, hb⟩; have H' := Lib.hid (HN.out.next hb); clear hb HN F; have HN := H'; clear H'; have F := HN.out.f)
    | (go_at_call 11; (with_reducible refine (dom_p0 _ _ 0 3 true g0_dom03 (lit_wf (by decide) (by decide)) _ HN.out.gs).mono ?_); rintro e w7 ⟨rfl, hb⟩; have H' := Lib.hid (HN.out.next hb); clear hb HN F; have HN := H'; clear H'; have F := HN.out.f)
    | (go_at_call 11; (with_reducible refine (dom_p0 _ _ 1 3 false g0_dom13 (lit_wf (by decide) (by decide)) _ HN.out.gs).mono ?_); rintro e w8 ⟨rfl, hb⟩; have H' := Lib.hid (HN.out.next hb); clear hb HN F; have HN := H'; clear H'; have F := HN.out.f)
    | (go_at_call 15; (with_reducible refine (ints1 _ _ _ _ 3 _ (HN.out.n1.below b1) (nums1 _ _ 3)).mono ?_); rintro e w9 ⟨rfl, hb⟩; have H' := Lib.hid ((HN.out.next b1).next hb); clear hb HN F; have HN := H'; clear H'; have F := HN.out.f)
    | (go_at_call 15; (with_reducible refine (ints4 _ _ _ _ 0 2 1 3 _ (HRO.out.below b1) (nums4 _ _ 0 2 1 3)).mono ?_); rintro e w9 ⟨rfl, hb⟩; have H' := Lib.hid ((HN.out.next b1).next hb); clear hb HN F; have HN := H'; clear H'; have F := HN.out.f)
    | (go_at_call 15; (with_reducible refine (ints4 _ _ _ _ (-1) 0 0 0 _ (HRI.out.below b1) (nums4 _ _ (-1) 0 0 0)).mono ?_); rintro e w9 ⟨rfl, hb⟩; have H' := Lib.hid ((HN.out.next b1).next hb); clear hb HN F; have HN := H'; clear H'; have F := HN.out.f))
  go_ret
  exact ⟨rfl, HN.out.low⟩
end Go.Proofs.Ytgaacdnljkildaa
