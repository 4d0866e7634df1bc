/- What the laws ask at any rate comes true: plain facts, the calls that are made. -/
import Derived.Test.YthckkdkijajadaaDoorMQ
import Derived.Test.YthckkdkijajadaaDoorMI
namespace Go.Proofs.YthckkdkijajadaaDoor
open Go.RowKit M

def nH0 : List (List Int) := freshM (zOf 8 []) 2
def aH1 : Int := addrOf 1 0
def aH2 : Int := addrOf 2 0
def nH1 : List (List Int) := flM 8 false [] 0 nH0 aH2 (repL 513 2)
theorem hK1 : doK 5 [1, 2, 3] 8 false [] 0 nH0 = 5 := by decide +kernel
theorem hK2 : doK 4 [aH1, 8] 8 false [] 0 nH0 = 3 := by decide +kernel
theorem hK3 : doK 4 [aH2, 2] 8 false [] 0 nH0 = 5 := by decide +kernel
theorem hF0 : freshL 8 [] 0 = nH0 := by decide +kernel
theorem hL0 : nH0.length = 2 := by decide +kernel
theorem hL1 : nH1.length = 2 := by decide +kernel
theorem hR1 : (nH1.getD 1 []).length = 512 ∧ (nH1.getD 1 []).getD 1 0 = 2 := by decide +kernel
theorem hV1 : doV 5 [1, 2, 3] [4] 5 = 26 := by decide +kernel
theorem hT1 : doT 5 [1, 2, 3] 5 = [1, 2, 3] := by decide +kernel
theorem hR3 : doR 4 [aH2, 2] [513] 8 false [] 0 nH0 5 = nH1 := by decide +kernel
theorem hX3 : doV 4 [aH2, 2] [513] 5 = 513 ∧ doH 4 5 = 4 ∧ doT 4 [aH2, 2] 5 = [0, 2] ∧ doD 4 [aH2, 2] 8 false [] 0 nH0 5 = [] ∧ doE 5 = 0 := by decide +kernel
theorem hX2 : doV 4 [aH1, 8] [] 3 = 0 ∧ doR 4 [aH1, 8] [] 8 false [] 0 nH0 3 = [] ∧ doH 4 3 = 0 ∧ doT 4 [aH1, 8] 3 = [] ∧ doD 4 [aH1, 8] 8 false [] 0 nH0 3 = [] ∧ doE 3 = 50 := by decide +kernel
theorem hX1 : doR 5 [1, 2, 3] [4] 8 false [] 0 nH0 5 = nH0 ∧ doH 5 5 = 5 ∧ doD 5 [1, 2, 3] 8 false [] 0 nH0 5 = [] := by decide +kernel
theorem hbd1 : (0 ≤ aH1 ∧ aH1 < 18446744073709551616) ∧ (0 ≤ aH2 ∧ aH2 < 18446744073709551616) := by decide +kernel

theorem words_cells {W : World} {g : Nat} {xs : List Int} (hs : xs.length ≤ 17592186044154) (hb : ∀ j, j < xs.length → 0 ≤ xs.getD j 0 ∧ xs.getD j 0 < 18446744073709551616) (h : Box W g (wordsV xs)) : WordsAt W (some ⟨g, 0, none⟩) xs :=
  ⟨hs, fun j hj => ⟨g, 0, rfl, h.lt, by rw [Nat.zero_add]; exact h.cell j _ (by simp [wordsV, hj])⟩, hb⟩
theorem maps_nil (W : World) : MapsAt W none 0 [] := ⟨rfl, Nat.zero_le _, fun _ hi => absurd hi (Nat.not_lt_zero _)⟩

theorem MemAt.set1v {W : World} {mp : Option Addr} {Q : Nat → Option Addr} {C : Nat → Nat} {M : List (List Int)} (h : MemAt W mp Q C M) {a : Addr} {y : Value} (hc : W.cell? a = some y) (hy : ∀ x, y ≠ .int .u8 x) (hs : ∀ i, i < M.length → ∀ q c, y ≠ .slice q (M.getD i []).length c) (v : Value) : MemAt (W.setCell a v) mp Q C M :=
  ⟨h.small, h.rsmall, fun i hi => by
    obtain ⟨b, off, e, hl, h1, h2⟩ := h.cells i hi
    exact ⟨b, off, e, by simpa [World.setCell] using hl, (World.cell?_setCell_other _ _ _ _ (fun e' => by subst e'; exact hs i hi _ _ (Option.some.inj (hc.symm.trans h1)))).trans h1, h2⟩,
   fun i j hi hj => by
    obtain ⟨b, off, e, hl, h1⟩ := h.rows i j hi hj
    exact ⟨b, off, e, by simpa [World.setCell] using hl, (World.cell?_setCell_other _ _ _ _ (fun e' => by subst e'; exact hy _ (Option.some.inj (hc.symm.trans h1)))).trans h1⟩, h.byte⟩
theorem MemAt.set3v {W : World} {b : Nat} {mp : Option Addr} {Q : Nat → Option Addr} {C : Nat → Nat} {M : List (List Int)} (h : MemAt W mp Q C M) (r : Box W b [.int .i64 0, .slice none 0 0, .slice none 0 0]) (hs : ∀ i, i < M.length → (M.getD i []).length ≠ 0) (x y z : Value) : MemAt (((W.setCell ⟨b, 0, none⟩ x).setCell ⟨b, 1, none⟩ y).setCell ⟨b, 2, none⟩ z) mp Q C M := by
  have c1 : (W.setCell ⟨b, 0, none⟩ x).cell? ⟨b, 1, none⟩ = some (.slice none 0 0) := (World.cell?_setCell_other _ _ _ _ (by simp)).trans (r.cell 1 _ rfl)
  have c2 : ((W.setCell ⟨b, 0, none⟩ x).setCell ⟨b, 1, none⟩ y).cell? ⟨b, 2, none⟩ = some (.slice none 0 0) := (World.cell?_setCell_other _ _ _ _ (by simp)).trans ((World.cell?_setCell_other _ _ _ _ (by simp)).trans (r.cell 2 _ rfl))
  have ns : ∀ i, i < M.length → ∀ q c, (Value.slice none 0 0) ≠ .slice q (M.getD i []).length c := fun i hi q c e => by injection e with _ e _; exact hs i hi e.symm
  exact ((h.set1v (r.cell 0 _ rfl) (fun _ e => by cases e) (fun _ _ _ _ e => by cases e) x).set1v c1 (fun _ e => by cases e) ns y).set1v c2 (fun _ e => by cases e) ns z
theorem hS1 : ∀ i, i < nH1.length → (nH1.getD i []).length ≠ 0 := by rw [hL1]; intro i hi; match i, hi with | 0, _ => decide +kernel | 1, _ => decide +kernel
/-- a world behind the laws' heads' first operations: `u` is the world behind the first of them -/
structure HdW (s s' : Nat → Addr) (w u W : World) (mp : Option Addr) (Q : Nat → Option Addr) (C : Nat → Nat) : Prop where
  base : Below w.heap.size w u
  hs0 : HSent u s
  hS0 : Sent u s'
  lay0 : Box u w.heap.size [.int .i64 8, .bool false, .slice none 0 0]
  mem0 : MemAt u mp Q C nH0
  blw : Below u.heap.size u W
theorem HdW.below {s s' : Nat → Addr} {w u W : World} {mp : Option Addr} {Q : Nat → Option Addr} {C : Nat → Nat} (h : HdW s s' w u W mp Q C) : Below w.heap.size w W := below_next h.base h.blw
theorem HdW.hs {s s' : Nat → Addr} {w u W : World} {mp : Option Addr} {Q : Nat → Option Addr} {C : Nat → Nat} (h : HdW s s' w u W mp Q C) : HSent W s := h.hs0.below h.blw
theorem HdW.hS {s s' : Nat → Addr} {w u W : World} {mp : Option Addr} {Q : Nat → Option Addr} {C : Nat → Nat} (h : HdW s s' w u W mp Q C) : Sent W s' := h.hS0.below h.blw
theorem HdW.lay {s s' : Nat → Addr} {w u W : World} {mp : Option Addr} {Q : Nat → Option Addr} {C : Nat → Nat} (h : HdW s s' w u W mp Q C) : Box W w.heap.size [.int .i64 8, .bool false, .slice none 0 0] := h.lay0.next h.blw
theorem HdW.mem {s s' : Nat → Addr} {w u W : World} {mp : Option Addr} {Q : Nat → Option Addr} {C : Nat → Nat} (h : HdW s s' w u W mp Q C) : MemAt W mp Q C nH0 := h.mem0.below h.blw
theorem HdW.next {s s' : Nat → Addr} {w u W W' : World} {mp : Option Addr} {Q : Nat → Option Addr} {C : Nat → Nat} (h : HdW s s' w u W mp Q C) (hb : Below W.heap.size W W') : HdW s s' w u W' mp Q C :=
  ⟨h.base, h.hs0, h.hS0, h.lay0, h.mem0, below_next h.blw hb⟩
theorem HdW.alloc {s s' : Nat → Addr} {w u W : World} {mp : Option Addr} {Q : Nat → Option Addr} {C : Nat → Nat} (h : HdW s s' w u W mp Q C) (o : Obj) : HdW s s' w u (W.alloc o) mp Q C := h.next ((Below.refl _ _).alloc (Nat.le_refl _) o)
theorem HdW.drew {s s' : Nat → Addr} {w u W : World} {mp : Option Addr} {Q : Nat → Option Addr} {C : Nat → Nat} (h : HdW s s' w u W mp Q C) : HdW s s' w u W.drew mp Q C := h.next (Below.refl _ _).drew
theorem HdW.set3 {s s' : Nat → Addr} {w u W : World} {mp : Option Addr} {Q : Nat → Option Addr} {C : Nat → Nat} (h : HdW s s' w u W mp Q C) {b : Nat} (hb : u.heap.size ≤ b) (x y z : Value) : HdW s s' w u (((W.setCell ⟨b, 0, none⟩ x).setCell ⟨b, 1, none⟩ y).setCell ⟨b, 2, none⟩ z) mp Q C :=
  ⟨h.base, h.hs0, h.hS0, h.lay0, h.mem0, below_set3 h.blw hb x y z⟩
theorem Box.set3o {W : World} {b c : Nat} {cs : List Value} (h : Box W b cs) (hc : c ≠ b) (x y z : Value) : Box (((W.setCell ⟨c, 0, none⟩ x).setCell ⟨c, 1, none⟩ y).setCell ⟨c, 2, none⟩ z) b cs :=
  ((h.setOther (a := ⟨c, 0, none⟩) hc x).setOther (a := ⟨c, 1, none⟩) hc y).setOther (a := ⟨c, 2, none⟩) hc z
theorem bd3 {x y z : Int} (hx : 0 ≤ x ∧ x < 18446744073709551616) (hy : 0 ≤ y ∧ y < 18446744073709551616) (hz : 0 ≤ z ∧ z < 18446744073709551616) : ∀ j, j < [x, y, z].length → 0 ≤ [x, y, z].getD j 0 ∧ [x, y, z].getD j 0 < 18446744073709551616 := fun j hj => by
  match j, hj with
  | 0, _ => exact hx
  | 1, _ => exact hy
  | 2, _ => exact hz
theorem bd2 {x y : Int} (hx : 0 ≤ x ∧ x < 18446744073709551616) (hy : 0 ≤ y ∧ y < 18446744073709551616) : ∀ j, j < [x, y].length → 0 ≤ [x, y].getD j 0 ∧ [x, y].getD j 0 < 18446744073709551616 := fun j hj => by
  match j, hj with
  | 0, _ => exact hx
  | 1, _ => exact hy
theorem bd1 {x : Int} (hx : 0 ≤ x ∧ x < 18446744073709551616) : ∀ j, j < [x].length → 0 ≤ [x].getD j 0 ∧ [x].getD j 0 < 18446744073709551616 := fun j hj => by
  match j, hj with
  | 0, _ => exact hx
theorem hdo (s s' : Nat → Addr) {w u W : World} {mp : Option Addr} {Q : Nat → Option Addr} {C : Nat → Nat} (mc : Nat) (h : HdW s s' w u W mp Q C) (n : Int) (hn : (Lit.int .i64 n).wf = true) (q sq : Option Addr) (A S : List Int) (cc sc : Nat) (hcc : A.length ≤ cc) (hA : WordsAt W q A) (hSS : WordsAt W sq S) (k : Nat) (hk : doK n A 8 false [] 0 nH0 = k) :
    Calls Tryd.prog 9 #[.agg #[.int .i64 8, .bool false, .slice none 0 0], .slice mp 2 mc, .int .i64 n, .slice q A.length cc, .slice sq S.length sc] W (DoPost (doV n A S k) (doR n A S 8 false [] 0 nH0 k) (doH n k) (doT n A k) (doD n A 8 false [] 0 nH0 k) (doE k) W) := by
  have := do_any s s' 8 false none 0 0 [] mp mc Q C nH0 n q A cc sq S sc W h.hs h.hS (maps_nil W) h.mem hA hcc hSS hn k hk
  rw [hL0] at this
  exact this
set_option maxRecDepth 100000 in
theorem hdo1 (s s' : Nat → Addr) {w u W : World} {mp : Option Addr} {Q : Nat → Option Addr} {C : Nat → Nat} (mc : Nat) (h : HdW s s' w u W mp Q C) (g1 g2 : Nat) (h1 : Box W g1 [.int .u64 1, .int .u64 2, .int .u64 3]) (h2 : Box W g2 [.int .u64 4]) :
    Calls Tryd.prog 9 #[.agg #[.int .i64 8, .bool false, .slice none 0 0], .slice mp 2 mc, .int .i64 5, .slice (some ⟨g1, 0, none⟩) 3 3, .slice (some ⟨g2, 0, none⟩) 1 1] W (DoPost 26 nH0 5 [1, 2, 3] [] 0 W) := by
  have := hdo s s' mc h 5 (by decide) (some ⟨g1, 0, none⟩) (some ⟨g2, 0, none⟩) [1, 2, 3] [4] 3 1 (by decide) (words_cells (by decide) (bd3 (by decide) (by decide) (by decide)) h1) (words_cells (by decide) (bd1 (by decide)) h2) 5 hK1
  rw [hV1, hT1, hX1.1, hX1.2.1, hX1.2.2, hX3.2.2.2.2] at this
  exact this
set_option maxRecDepth 100000 in
theorem hdo2 (s s' : Nat → Addr) {w u W : World} {mp : Option Addr} {Q : Nat → Option Addr} {C : Nat → Nat} (mc : Nat) (h : HdW s s' w u W mp Q C) (g1 : Nat) (h1 : Box W g1 [.int .u64 aH1, .int .u64 8]) :
    Calls Tryd.prog 9 #[.agg #[.int .i64 8, .bool false, .slice none 0 0], .slice mp 2 mc, .int .i64 4, .slice (some ⟨g1, 0, none⟩) 2 2, .slice none 0 0] W (DoPost 0 [] 0 [] [] 50 W) := by
  have := hdo s s' mc h 4 (by decide) (some ⟨g1, 0, none⟩) none [aH1, 8] [] 2 0 (by decide) (words_cells (by decide) (bd2 hbd1.1 (by decide)) h1) (WordsAt.nil W none) 3 hK2
  rw [hX2.1, hX2.2.1, hX2.2.2.1, hX2.2.2.2.1, hX2.2.2.2.2.1, hX2.2.2.2.2.2] at this
  exact this
set_option maxRecDepth 100000 in
theorem hdo3 (s s' : Nat → Addr) {w u W : World} {mp : Option Addr} {Q : Nat → Option Addr} {C : Nat → Nat} (mc : Nat) (h : HdW s s' w u W mp Q C) (g1 g2 : Nat) (h1 : Box W g1 [.int .u64 aH2, .int .u64 2]) (h2 : Box W g2 [.int .u64 513]) :
    Calls Tryd.prog 9 #[.agg #[.int .i64 8, .bool false, .slice none 0 0], .slice mp 2 mc, .int .i64 4, .slice (some ⟨g1, 0, none⟩) 2 2, .slice (some ⟨g2, 0, none⟩) 1 1] W (DoPost 513 nH1 4 [0, 2] [] 0 W) := by
  have := hdo s s' mc h 4 (by decide) (some ⟨g1, 0, none⟩) (some ⟨g2, 0, none⟩) [aH2, 2] [513] 2 1 (by decide) (words_cells (by decide) (bd2 hbd1.2 (by decide)) h1) (words_cells (by decide) (bd1 (by decide)) h2) 5 hK3
  rw [hX3.1, hR3, hX3.2.1, hX3.2.2.1, hX3.2.2.2.1, hX3.2.2.2.2] at this
  exact this
end Go.Proofs.YthckkdkijajadaaDoor
