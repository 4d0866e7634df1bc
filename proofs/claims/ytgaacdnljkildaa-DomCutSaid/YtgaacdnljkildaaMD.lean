/- Dominance: package dom's own best. -/
import Derived.Test.YtgaacdnljkildaaMC
import Derived.Test.YtgaacdnljkildaaLE
import Derived.Test.YtgaacdnljkildaaLR
import Derived.Test.YtgaacdnljkildaaMR
import Derived.BigRegionIn
namespace Go.Proofs.Ytgaacdnljkildaa
open Go.RowKit
open Dm
variable {G : Dg} {hi : Nat → Nat}
attribute [local go_sem] Oper.semAt_some

/-- a forest in memory -/
structure Sb (base : Nat) (W : World) (f : Nat) (G : Dg) (hi : Nat → Nat) (s : Nat → Nat) (L : Nat) (up semi least way : List Int) (q : Nat → Option Addr) (c : Nat → Nat) : Prop where
  sr : Sr base W f FJ (fr up semi least way) q c
  fo : Fo G hi s L up least
  sl : semi.length = G.N
  sh : ∀ k, L ≤ k → k < G.N → semi.getD k 0 = (s k : Int)
  wl : way.length ≤ 1048576
theorem Sb.grown {base f L : Nat} {W W' : World} {s : Nat → Nat} {up semi least way : List Int} {q : Nat → Option Addr} {c : Nat → Nat} (h : Sb base W f G hi s L up semi least way q c) (hg : W.grownBy W' none) : Sb base W' f G hi s L up semi least way q c :=
  ⟨h.sr.grown hg (by simp) (fun _ _ _ e => by cases e), h.fo, h.sl, h.sh, h.wl⟩
/-- what 'best' reads -/
structure Sc (W : World) (f N : Nat) (up semi least : List Int) (c : Nat → Nat) (g0 g1 g2 : Nat) : Prop where
  d0 : W.cell? ⟨f, 0, none⟩ = some (.slice (some ⟨g0, 0, none⟩) N (c 0))
  d1 : W.cell? ⟨f, 1, none⟩ = some (.slice (some ⟨g1, 0, none⟩) N (c 1))
  d2 : W.cell? ⟨f, 2, none⟩ = some (.slice (some ⟨g2, 0, none⟩) N (c 2))
  k0 : ∀ k, k < N → W.cell? ⟨g0, k, none⟩ = some (.int .i64 (up.getD k 0))
  k1 : ∀ k, k < N → W.cell? ⟨g1, k, none⟩ = some (.int .i64 (semi.getD k 0))
  k2 : ∀ k, k < N → W.cell? ⟨g2, k, none⟩ = some (.int .i64 (least.getD k 0))
  f0 : ∀ k, W.frozen? ⟨g0, k, none⟩ = false
  f1 : ∀ k, W.frozen? ⟨g1, k, none⟩ = false
  f2 : ∀ k, W.frozen? ⟨g2, k, none⟩ = false
  l0 : g0 < W.heap.size
  l1 : g1 < W.heap.size
  l2 : g2 < W.heap.size
  lf : f < W.heap.size
  n0 : g0 ≠ f ∧ g1 ≠ f ∧ g2 ≠ f
  n1 : g0 ≠ g1 ∧ g0 ≠ g2 ∧ g1 ≠ g2
theorem Sb.cells {base f L : Nat} {W : World} {s : Nat → Nat} {up semi least way : List Int} {q : Nat → Option Addr} {c : Nat → Nat} (h : Sb base W f G hi s L up semi least way q c) (h0 : 0 < G.N) :
    ∃ g0 g1 g2, q 0 = some ⟨g0, 0, none⟩ ∧ q 1 = some ⟨g1, 0, none⟩ ∧ q 2 = some ⟨g2, 0, none⟩ ∧ Sc W f G.N up semi least c g0 g1 g2 ∧ base ≤ g0 ∧ base ≤ g1 ∧ base ≤ g2 := by
  have l0 := h.fo.l1
  have l2 := h.fo.l2
  obtain ⟨g0, q0, b0, s0, n0, f0, k0⟩ := h.sr.row (j := 0) (by decide) (by show 0 < up.length; omega)
  obtain ⟨g1, q1, b1', s1, n1, f1, k1⟩ := h.sr.row (j := 1) (by decide) (by show 0 < semi.length; rw [h.sl]; omega)
  obtain ⟨g2, q2, b2', s2, n2, f2, k2⟩ := h.sr.row (j := 2) (by decide) (by show 0 < least.length; omega)
  have ne : ∀ {a b ga gb : Nat}, a ∈ FJ → b ∈ FJ → a ≠ b → q a = some ⟨ga, 0, none⟩ → q b = some ⟨gb, 0, none⟩ → ga ≠ gb := fun ha hb hab ea eb e => by
    rcases h.sr.ap _ ha _ hb hab with d | d
    · rw [ea] at d; cases d
    · exact d (by rw [ea, eb, e])
  exact ⟨g0, g1, g2, q0, q1, q2, ⟨h.sr.clE (j := 0) (by decide) (l := up) rfl q0 rfl l0, h.sr.clE (j := 1) (by decide) (l := semi) rfl q1 rfl h.sl, h.sr.clE (j := 2) (by decide) (l := least) rfl q2 rfl l2,
    fun k hk => k0 k (by show k < up.length; omega), fun k hk => k1 k (by show k < semi.length; rw [h.sl]; omega), fun k hk => k2 k (by show k < least.length; omega), f0, f1, f2, s0, s1, s2, h.sr.bl, ⟨n0, n1, n2⟩,
    ⟨ne (by decide) (by decide) (by decide) q0 q1, ne (by decide) (by decide) (by decide) q0 q2, ne (by decide) (by decide) (by decide) q1 q2⟩⟩, b0, b1', b2'⟩
theorem Sb.cellsAt {base f L : Nat} {W : World} {s : Nat → Nat} {up semi least way : List Int} {q : Nat → Option Addr} {c : Nat → Nat} (h : Sb base W f G hi s L up semi least way q c) (h0 : 0 < G.N) {g0 g1 g2 : Nat} (q0 : q 0 = some ⟨g0, 0, none⟩) (q1 : q 1 = some ⟨g1, 0, none⟩) (q2 : q 2 = some ⟨g2, 0, none⟩) : Sc W f G.N up semi least c g0 g1 g2 := by
  obtain ⟨a0, a1, a2, e0, e1, e2, hc, _⟩ := h.cells h0
  rw [q0] at e0
  rw [q1] at e1
  rw [q2] at e2
  injection e0 with e0
  injection e1 with e1
  injection e2 with e2
  injection e0 with e0
  injection e1 with e1
  injection e2 with e2
  subst e0 e1 e2
  exact hc
/-- all but the row of the way lie where they lay -/
def Kp (q : Nat → Option Addr) (c : Nat → Nat) (q' : Nat → Option Addr) (c' : Nat → Nat) : Prop := ∀ j, j ≠ 3 → q' j = q j ∧ c' j = c j
theorem Kp.app {q q' : Nat → Option Addr} {c c' : Nat → Nat} (h : Kp q c q' c') (p : Option Addr) (n : Nat) : Kp q c (up1 q' 3 p) (up1 c' 3 n) := fun j hj => by
  rw [up1_ne _ _ _ hj, up1_ne _ _ _ hj]; exact h j hj
def BestP (W : World) (base f : Nat) (G : Dg) (hi : Nat → Nat) (s : Nat → Nat) (L i : Nat) (semi : List Int) (q : Nat → Option Addr) (c : Nat → Nat) (e : Ending) (w' : World) : Prop :=
  ∃ (b : Nat) (up' least' way' : List Int) (q' : Nat → Option Addr) (c' : Nat → Nat), e = .returned (.int .i64 (b : Int)) ∧ b < G.N ∧ Bst G hi s L i b ∧ Sb base w' f G hi s L up' semi least' way' q' c' ∧ Fk W w' f q q' ∧ Kp q c q' c'
set_option maxRecDepth 100000 in
set_option maxHeartbeats 1000000 in
/-- a root is its own best -/
theorem sbest_root {base f L i : Nat} {W : World} {s : Nat → Nat} {up semi least way : List Int} {q : Nat → Option Addr} {c : Nat → Nat} (h : Sb base W f G hi s L up semi least way q c) (hi' : i < G.N) (hL : i < L) (hN : G.N ≤ 1048576) :
    Calls Try.prog 35 #[.pointer (some ⟨f, 0, none⟩), .int .i64 (i : Int)] W (BestP W base f G hi s L i semi q c) := by
  obtain ⟨g0, g1, g2, q0, q1, q2, hc, _⟩ := h.cells (by omega)
  have d0 := hc.d0
  have k0 := hc.k0 i hi'
  have e0 := (h.fo.root hi').2 hL
  rw [e0] at k0
  have lf := hc.lf
  have l0 := hc.l0
  have HP : Hid (∀ W', W.grownBy W' none → BestP W base f G hi s L i semi q c (.returned (.int .i64 (i : Int))) W') := Lib.hid (fun W' hg => ⟨i, up, least, way, q, c, rfl, hi', ⟨fun _ => rfl, fun k => by omega⟩, h.grown hg, (Fk.refl W f q).no hg, fun _ _ => ⟨rfl, rfl⟩⟩)
  have HG : Hid (∀ o, W.grownBy (W.alloc o) none) := Lib.hid (fun o => al_grown W o)
  generalize BestP W base f G hi s L i semi q c = Q at *
  generalize G.N = N at *
  clear h hc q0 q1 q2 e0
  refine (callsIn_wide (n := 6)).1 (callsIn_of_wp_marks Try.func35 rfl trivial (wpIn_wide.2 ?_) rfl)
  simp only [Try.ntmps35, List.size_toArray, List.length_cons, List.length_nil, Nat.reduceAdd, Nat.reduceSub, Array.replicate_succ, Array.replicate_zero, List.push_toArray, List.append_toArray, List.nil_append, List.cons_append]
  go_wp2_with fail
  refine ⟨_, results_tmp rfl _ _ _, ?_⟩
  show Q (.returned (.int .i64 (i : Int))) _
  exact HP.out _ (HG.out _)
theorem Fk.pre {W w' : World} {o : Obj} {f : Nat} {q q' : Nat → Option Addr} (h : Fk (W.alloc o) w' f q q') : Fk W w' f q q' := by
  have sz : (W.alloc o).heap.size = W.heap.size + 1 := World.size_alloc ..
  refine ⟨⟨h.ch.os, h.ch.tape, h.ch.output, by have := h.ch.size; omega, fun k hk hx => (h.ch.block k (by omega) hx).trans (Below.heap_alloc W o k hk)⟩, fun j hj => ?_⟩
  rcases h.qs j hj with c | ⟨k, c1, c2⟩
  · exact .inl c
  · exact .inr ⟨k, c1, by omega⟩
/-- in the loop that goes up -/
structure Lq (W1 wr : World) (base f : Nat) (G : Dg) (hi : Nat → Nat) (s : Nat → Nat) (L i : Nat) (up semi least xs : List Int) (m : Nat) (q0 q : Nat → Option Addr) (c : Nat → Nat) : Prop where
  sb : Sb base wr f G hi s L up semi least xs q c
  fk : Fk W1 wr f q0 q
  ch : Ch up L i xs m
  mL : L ≤ m
  mN : m < G.N
theorem Fk.cell {W1 wr : World} {f : Nat} {q0 q : Nat → Option Addr} (h : Fk W1 wr f q0 q) {b : Nat} (hb : b < W1.heap.size) (hf : b ≠ f) (hq : ∀ j ∈ FJ, (q0 j).map Addr.block ≠ some b) (o : Nat) : wr.cell? ⟨b, o, none⟩ = W1.cell? ⟨b, o, none⟩ :=
  h.ch.cell hb (fun c => by
    rcases c with c | ⟨j, hj, e⟩
    · exact hf c
    · exact hq j hj e) o
/-- the row of the way has grown -/
theorem Sb.app {base f L : Nat} {W W' : World} {s : Nat → Nat} {up semi least way : List Int} {q : Nat → Option Addr} {c : Nat → Nat} (h : Sb base W f G hi s L up semi least way q c) {l k' c' : Nat} {q' : Option Addr} {x : Int} (ho : W'.ownsRow base 3 1 (.slice q' k' c') k' (intsV (way ++ [x]))) (hk : (way ++ [x]).length = k') (hg : W.grownBy W' (Value.slice (q 3) l (c 3)).ownBlock)
    (hb : (Value.slice q' k' c').ownBlock = (Value.slice (q 3) l (c 3)).ownBlock ∨ (Value.slice q' k' c').ownBlock = some W.heap.size) (hl : k' ≤ 1048576) : Sb base (W'.setCell ⟨f, 3, none⟩ (.slice q' k' c')) f G hi s L up semi least (way ++ [x]) (up1 q 3 q') (up1 c 3 c') := by
  have := h.sr.app (j := 3) (by decide) (by rw [hk]; exact ho) hk.symm hg hb
  rw [fr3] at this
  exact ⟨this, h.fo, h.sl, h.sh, by omega⟩
theorem Fk.app {W1 W W' : World} {f : Nat} {q0 q : Nat → Option Addr} {c : Nat → Nat} (h : Fk W1 W f q0 q) {l k' c' : Nat} {q' : Option Addr} (hg : W.grownBy W' (Value.slice (q 3) l (c 3)).ownBlock) (hb : (Value.slice q' k' c').ownBlock = (Value.slice (q 3) l (c 3)).ownBlock ∨ (Value.slice q' k' c').ownBlock = some W.heap.size) : Fk W1 (W'.setCell ⟨f, 3, none⟩ (.slice q' k' c')) f q0 (up1 q 3 q') := by
  rw [own_blk] at hg
  rw [own_blk, own_blk] at hb
  have hg' : Fk W1 W' f q0 q := by
    cases hq : (q 3).map Addr.block with
    | none => rw [hq] at hg; exact h.no hg
    | some k => rw [hq] at hg; exact h.own hg (.inr ⟨3, by decide, hq⟩)
  exact (hg'.own (set_grown W' ⟨f, 3, none⟩ _) (.inl rfl)).move h.ch.size hb
/-- while the way is made shorter: k of its numbers are done -/
structure Br (W1 : World) (base f bx : Nat) (G : Dg) (hi : Nat → Nat) (s : Nat → Nat) (L i : Nat) (semi xs : List Int) (q0 q : Nat → Option Addr) (c : Nat → Nat) (up least : List Int) (k : Nat) (W : World) : Prop where
  sb : Sb base W f G hi s L up semi least xs q c
  fk : Fk W1 W f q0 q
  bk : Bk G hi s L i up least (xs.take (xs.length - k))
  cl : W.cell? ⟨bx, 0, none⟩ = some (.slice (q 3) xs.length (c 3))
theorem Br.grown {W1 W W' : World} {base f bx L i k : Nat} {s : Nat → Nat} {semi xs up least : List Int} {q0 q : Nat → Option Addr} {c : Nat → Nat} (h : Br W1 base f bx G hi s L i semi xs q0 q c up least k W) {row : Option Nat} (hg : W.grownBy W' row) (hr : ∀ r, row = some r → bx < r) (hf : f < bx) (hq : ∀ j ∈ FJ, ∀ g, (q j).map Addr.block = some g → g < bx) (hB : W1.heap.size ≤ bx) (hbx : bx < W.heap.size) : Br W1 base f bx G hi s L i semi xs q0 q c up least k W' := by
  refine ⟨⟨h.sb.sr.grown hg (fun e => by have := hr f e; omega) (fun j hj k e e2 => by have := hr k e; have := hq j hj k e2; omega), h.sb.fo, h.sb.sl, h.sb.sh, h.sb.wl⟩, ⟨h.fk.ch.grown hg h.fk.ch.size (fun k e => .inl (by have := hr k e; omega)), h.fk.qs⟩, h.bk, ?_⟩
  exact (World.cell?_of_block (a := ⟨bx, 0, none⟩) (hg.block bx hbx (fun e => by have := hr bx e.symm; omega))).trans h.cl
/-- the numbers of one round -/
theorem Br.nums {par : Nat → Nat} {W1 W : World} {base f bx L i k : Nat} {s : Nat → Nat} {semi xs up least : List Int} {q0 q : Nat → Option Addr} {c : Nat → Nat} (T : Tr G par hi) (h : Br W1 base f bx G hi s L i semi xs q0 q c up least k W) (hi' : i < G.N) (hk : k < xs.length) :
    ∃ m a bn ba : Nat, xs.getD (xs.length - 1 - k) 0 = (m : Int) ∧ m < G.N ∧ a < G.N ∧ bn < G.N ∧ ba < G.N ∧ up.getD m 0 = (a : Int) ∧ least.getD m 0 = (bn : Int) ∧ least.getD a 0 = (ba : Int) ∧ semi.getD bn 0 = (s bn : Int) ∧ semi.getD ba 0 = (s ba : Int) ∧
      Bk G hi s L i (up.set m (up.getD a 0)) (if s ba < s bn then least.set m (ba : Int) else least) (xs.take (xs.length - (k + 1))) := by
  have e : xs.take (xs.length - k) = xs.take (xs.length - (k + 1)) ++ [xs.getD (xs.length - 1 - k) 0] := by
    have e1 : xs.length - k = (xs.length - 1 - k) + 1 := by omega
    have e2 : xs.length - (k + 1) = xs.length - 1 - k := by omega
    have hl : xs.length - 1 - k < xs.length := by omega
    rw [e1, e2, List.take_add_one, List.getD_eq_getElem?_getD, List.getElem?_eq_getElem hl]
    rfl
  have hb := h.bk
  rw [e] at hb
  obtain ⟨m, a, bn, ba, h1, h2, h3, h4, h5, h6, h7, h8, h9, h10, h11⟩ := hb.step T hi'
  exact ⟨m, a, bn, ba, h1, h2, h3, h4, h5, h8, h9, h10, h.sb.sh bn h6 h4, h.sb.sh ba h7 h5, h11⟩
/-- what 'least' keeps is written -/
theorem Br.put2 {W1 W : World} {base f bx g2 : Nat} {semi xs up least : List Int} {q0 q : Nat → Option Addr} {c : Nat → Nat} (h : Sr base W f FJ (fr up semi least xs) q c ∧ Fk W1 W f q0 q ∧ W.cell? ⟨bx, 0, none⟩ = some (.slice (q 3) xs.length (c 3))) (hq2 : q 2 = some ⟨g2, 0, none⟩) (hb : g2 ≠ bx) (m : Nat) (x : Int) :
    Sr base (W.setCell ⟨g2, m, none⟩ (.int .i64 x)) f FJ (fr up semi (least.set m x) xs) q c ∧ Fk W1 (W.setCell ⟨g2, m, none⟩ (.int .i64 x)) f q0 q ∧ (W.setCell ⟨g2, m, none⟩ (.int .i64 x)).cell? ⟨bx, 0, none⟩ = some (.slice (q 3) xs.length (c 3)) := by
  have := h.1.set (j := 2) (by decide) hq2 m x
  rw [fr2] at this
  exact ⟨this, h.2.1.own (set_grown W ⟨g2, m, none⟩ _) (.inr ⟨2, by decide, by rw [hq2]; rfl⟩), (World.cell?_setCell_other _ _ _ _ (fun e => hb (congrArg Addr.block e))).trans h.2.2⟩
theorem Br.put0 {W1 W : World} {base f bx g0 : Nat} {semi xs up least : List Int} {q0 q : Nat → Option Addr} {c : Nat → Nat} (h : Sr base W f FJ (fr up semi least xs) q c ∧ Fk W1 W f q0 q ∧ W.cell? ⟨bx, 0, none⟩ = some (.slice (q 3) xs.length (c 3))) (hq0 : q 0 = some ⟨g0, 0, none⟩) (hb : g0 ≠ bx) (m : Nat) (x : Int) :
    Sr base (W.setCell ⟨g0, m, none⟩ (.int .i64 x)) f FJ (fr (up.set m x) semi least xs) q c ∧ Fk W1 (W.setCell ⟨g0, m, none⟩ (.int .i64 x)) f q0 q ∧ (W.setCell ⟨g0, m, none⟩ (.int .i64 x)).cell? ⟨bx, 0, none⟩ = some (.slice (q 3) xs.length (c 3)) := by
  have := h.1.set (j := 0) (by decide) hq0 m x
  rw [fr0] at this
  exact ⟨this, h.2.1.own (set_grown W ⟨g0, m, none⟩ _) (.inr ⟨0, by decide, by rw [hq0]; rfl⟩), (World.cell?_setCell_other _ _ _ _ (fun e => hb (congrArg Addr.block e))).trans h.2.2⟩
/-- the three that hold in a round -/
def Bt (W1 : World) (base f bx : Nat) (semi xs : List Int) (q0 q : Nat → Option Addr) (c : Nat → Nat) (up least : List Int) (W : World) : Prop :=
  Sr base W f FJ (fr up semi least xs) q c ∧ Fk W1 W f q0 q ∧ W.cell? ⟨bx, 0, none⟩ = some (.slice (q 3) xs.length (c 3))
theorem Bt.drew {W1 W : World} {base f bx : Nat} {semi xs up least : List Int} {q0 q : Nat → Option Addr} {c : Nat → Nat} (h : Bt W1 base f bx semi xs q0 q c up least W) (n : Nat) : Bt W1 base f bx semi xs q0 q c up least (W.drewN n) :=
  ⟨h.1.grown (drew_grown W n) (by simp) (fun _ _ _ e => by cases e), h.2.1.no (drew_grown W n), h.2.2⟩
theorem Sr.atI {base b g : Nat} {W : World} {js : List Nat} {r : Nat → List Int} {q : Nat → Option Addr} {c : Nat → Nat} (h : Sr base W b js r q c) {j : Nat} (hj : j ∈ js) (hq : q j = some ⟨g, 0, none⟩) {l : List Int} (hr : r j = l) {i : Nat} (hi : i < l.length) : W.cell? ⟨g, i, none⟩ = some (.int .i64 (l.getD i 0)) ∧ W.frozen? ⟨g, i, none⟩ = false := by
  subst hr
  obtain ⟨g', e, _, _, _, h1, h2⟩ := h.row hj (by omega)
  rw [hq] at e
  injection e with e
  injection e with e
  subst e
  exact ⟨h2 i hi, h1 i⟩
set_option maxRecDepth 100000 in
set_option maxHeartbeats 4000000 in
theorem sbest_link {par : Nat → Nat} (T : Tr G par hi) {base f L i : Nat} {W : World} {s : Nat → Nat} {up semi least way : List Int} {q : Nat → Option Addr} {c : Nat → Nat} (h : Sb base W f G hi s L up semi least way q c) (hi' : i < G.N) (hL : L ≤ i) (hN : G.N ≤ 1048576) (hbase : base ≤ W.heap.size) :
    Calls Try.prog 35 #[.pointer (some ⟨f, 0, none⟩), .int .i64 (i : Int)] W (BestP W base f G hi s L i semi q c) := by
  obtain ⟨W1, hW1⟩ : ∃ W1, W.alloc (.cells #[.pointer (some ⟨f, 0, none⟩)] 51) = W1 := ⟨_, rfl⟩
  have hsz : W1.heap.size = W.heap.size + 1 := by rw [← hW1]; exact World.size_alloc ..
  have h1 : Sb base W1 f G hi s L up semi least way q c := by rw [← hW1]; exact h.grown (al_grown W _)
  have bx1 : W1.cell? ⟨W.heap.size, 0, none⟩ = some (.pointer (some ⟨f, 0, none⟩)) := by rw [← hW1]; exact cell_new W rfl
  have hbf : W.heap.size ≠ f := by have := h.sr.bl; omega
  have hbq : ∀ j ∈ FJ, (q j).map Addr.block ≠ some W.heap.size := fun j hj e => by have := (h.sr.blk hj e).2; omega
  have HBX : Hid (∀ wr q', Fk W1 wr f q q' → wr.cell? ⟨W.heap.size, 0, none⟩ = some (.pointer (some ⟨f, 0, none⟩))) := Lib.hid (fun wr q' hk => (hk.cell (by omega) hbf hbq 0).trans bx1)
  have HPRE : Hid (∀ wr q', Fk W1 wr f q q' → Fk W wr f q q') := Lib.hid (fun wr q' hk => by rw [← hW1] at hk; exact hk.pre)
  have HW1 := Lib.hid hW1
  have H1 := Lib.hid h1
  obtain ⟨g0, g1, g2, q0, q1, q2, hc, _⟩ := h1.cells (by omega)
  have d0 := hc.d0
  obtain ⟨a0, ea0, ha0⟩ := h.fo.upv hi' hL
  have k0 := hc.k0 i hi'
  rw [ea0] at k0
  have hb0 : ((a0 : Int) == -1) = false := by simp
  have d3 := h1.sr.clE (j := 3) (by decide) (l := way) rfl rfl rfl rfl
  have f3 := h1.sr.fz 3
  have lf := hc.lf
  have l0 := hc.l0
  have hsl1 : ∀ W, (Instr.sliceAt 27 (.slice (q 3) way.length (c 3)) none (some (.int .i64 0)) none).run Try.prog W = .ok (.slice (q 3) 0 (c 3)) W := fun W => (slice_headI (q 3) way.length (c 3) 0 (Nat.zero_le _) W).1
  have hsl2 : ∀ W, (Instr.slice 27 (.slice (q 3) way.length (c 3)) none (some (.int .i64 0)) none).run Try.prog W = .ok (.slice (q 3) 0 (c 3)) W := fun W => (slice_headI (q 3) way.length (c 3) 0 (Nat.zero_le _) W).2
  obtain ⟨c0, hc0⟩ : ∃ c0 : Nat → Nat, c0 = c := ⟨_, rfl⟩
  have HKP0 : Hid (Kp q c0 q c) := Lib.hid (fun _ _ => ⟨rfl, by rw [hc0]⟩)
  have HC0 : Hid (Lq W1 ((W1.setCell ⟨f, 3, none⟩ (.slice (q 3) 0 (c 3))).drew) base f G hi s L i up semi least [] i q q c) := Lib.hid (by
    have hs := h1.sr.cut (j := 3) (by decide)
    rw [fr3] at hs
    have hk := (Fk.refl W1 f q).own (set_grown W1 ⟨f, 3, none⟩ (.slice (q 3) 0 (c 3))) (.inl rfl)
    exact ⟨(Sb.mk hs h1.fo h1.sl h1.sh (Nat.zero_le _)).grown (drew_grown1 _), hk.no (drew_grown1 _), .nil, hL, hi'⟩)
  have HFO := Lib.hid h1.fo
  obtain ⟨wl, hwl⟩ : ∃ l, way.length = l := ⟨_, rfl⟩
  rw [hwl] at d3 hsl1 hsl2
  have HTR := Lib.hid T
  obtain ⟨N, hNd⟩ : ∃ N, G.N = N := ⟨_, rfl⟩
  have HND := Lib.hid hNd
  rw [hNd] at hN hi' d0
  have bx0 : (W.alloc (.cells #[.pointer (some ⟨f, 0, none⟩)] 51)).cell? ⟨W.heap.size, 0, none⟩ = some (.pointer (some ⟨f, 0, none⟩)) := cell_new W rfl
  obtain ⟨BP, hBP⟩ : ∃ R, BestP W base f G hi s L i semi q c = R := ⟨_, rfl⟩
  have HBP : Hid (∀ w' (b : Nat) (up' least' way' : List Int) (q' : Nat → Option Addr) (c' : Nat → Nat), b < G.N → Bst G hi s L i b → Sb base w' f G hi s L up' semi least' way' q' c' → Fk W w' f q q' → Kp q c0 q' c' → BP (.returned (.int .i64 (b : Int))) w') := Lib.hid (fun w' b up' least' way' q' c' h1 h2 h3 h4 h5 => by rw [← hBP]; rw [hc0] at h5; exact ⟨b, up', least', way', q', c', rfl, h1, h2, h3, h4, h5⟩)
  rw [hBP]
  clear hBP hc0
  clear h h1 hc q0 q1 q2 hwl hNd bx0 T
  refine (callsIn_wide (n := 6)).1 (callsIn_of_wp_marks Try.func35 rfl trivial (wpIn_wide.2 ?_) rfl)
  simp only [Try.ntmps35, List.size_toArray, List.length_cons, List.length_nil, Nat.reduceAdd, Nat.reduceSub, Array.replicate_succ, Array.replicate_zero, List.push_toArray, List.append_toArray, List.nil_append, List.cons_append]
  go_wp2_with fail
  go_region
  go_wp2_with fail
  clear d0 k0 d3 f3 hsl1 hsl2 l0 H1
  go_loopw [5] (fun v wr => ∃ (m : Nat) (xs : List Int) (q' : Nat → Option Addr) (c : Nat → Nat), v = .int .i64 (m : Int) ∧ Hid (Kp q c0 q' c) ∧ Lq W1 wr base f G hi s L i up semi least xs m q q' c) (fun v _ => (RowKit.intOf v).toNat)
  case atStart => exact ⟨i, [], q, c, rfl, HKP0, HC0.out⟩
  case round =>
    clear HC0 HKP0 bx1 hbq
    obtain ⟨m, xs, q', c, rfl, HKP, hl⟩ := hrel
    have HL := Lib.hid hl
    obtain ⟨g0, g1, g2, q0, q1, q2, hc, _⟩ := hl.sb.cells (by rw [HND.out]; omega)
    rw [HND.out] at hc
    have bx := HBX.out wr q' hl.fk
    have d0 := hc.d0
    have hmN := hl.mN
    rw [HND.out] at hmN
    obtain ⟨a, ea, ham⟩ := HFO.out.upv hl.mN hl.mL
    have k0 := hc.k0 m hmN
    rw [ea] at k0
    have haN : a < N := by omega
    have k1 := hc.k0 a haN
    have lf := hc.lf
    have l0 := hc.l0
    have HEA := Lib.hid ea
    by_cases haL : L ≤ a
    · obtain ⟨a2, ea2, ha2⟩ := HFO.out.upv (k := a) (by rw [HND.out]; exact haN) haL
      rw [ea2] at k1
      have HXL : Hid (xs.length + 1 ≤ 1048576) := Lib.hid (by have := hl.ch.le; omega)
      have d3 := hl.sb.sr.clE (j := 3) (by decide) (l := xs) rfl rfl rfl rfl
      have f3 := hl.sb.sr.fz 3
      obtain ⟨xl, hxl⟩ : ∃ l, xs.length = l := ⟨_, rfl⟩
      have HXE : Hid (xs.length = xl ∧ (xs ++ [(m : Int)]).length = xl + 1 ∧ xs.length + [(m : Int)].length ≤ 1099511627776) := Lib.hid ⟨hxl, by simp [hxl], by have := HXL.out; simp; omega⟩
      rw [hxl] at d3 HXL
      have HN9 := Lib.hid (fun (x : Int) (W : World) k (e : k = W.heap.size) => (e ▸ nums_new (k := .i64) W 3 [x] #[.int .i64 x] rfl (by simp) : NumsAt .i64 (W.alloc (.cells #[.int .i64 x] 3)) (some ⟨k, 0, none⟩) [x]).below ((Below.refl _ _).drew))
      clear hl hc q0 q1 q2 ea ea2
      go_wp2_with fail
      go_quiet (fail)
      go_wp2_with fail
      obtain ⟨wn, hwn⟩ : ∃ wn, wr.drewN nq = wn := ⟨_, rfl⟩
      rw [hwn]
      have HLn : Hid (Lq W1 wn base f G hi s L i up semi least xs m q q' c) := Lib.hid (by
        rw [← hwn]
        exact ⟨HL.out.sb.grown (drew_grown wr nq), HL.out.fk.no (drew_grown wr nq), HL.out.ch, HL.out.mL, HL.out.mN⟩)
      have bxn := HBX.out wn q' HLn.out.fk
      have d3n := HLn.out.sb.sr.clE (j := 3) (by decide) (l := xs) rfl rfl rfl HXE.out.1
      have f3n := HLn.out.sb.sr.fz 3
      have lfn := HLn.out.sb.sr.bl
      have lbx : W.heap.size < wn.heap.size := World.block_lt_of_cell? wn ⟨W.heap.size, 0, none⟩ bxn
      have HSA : Hid (Sb base (wn.alloc (.cells #[.int .i64 (m : Int)] 3)).drew f G hi s L up semi least xs q' c ∧ Fk W1 (wn.alloc (.cells #[.int .i64 (m : Int)] 3)).drew f q q') := Lib.hid ⟨HLn.out.sb.grown (al_drew_grown wn _), HLn.out.fk.no (al_drew_grown wn _)⟩
      have bxa := HBX.out _ q' HSA.out.2
      have hbW : base ≤ (wn.alloc (.cells #[.int .i64 (m : Int)] 3)).drew.heap.size := Nat.le_trans hbase (by simp; omega)
      clear hwn bx d0 k0 k1 lf l0 d3 f3 HL
      refine wp_region_noPanic ?_
      refine wp_region_held_drew (S := (fun W' => W'.cell? ⟨W.heap.size, 0, none⟩ = some (.pointer (some ⟨f, 0, none⟩)))) (by kernel_rfl) ?_ (fun hHeld => ?_)
      · (try dsimp only); first | exact bxn | exact bxa | exact bx8 | exact bx9
      refine held_take 0 (v := ?_) rfl (by kernel_rfl) (by kernel_rfl) (by kernel_rfl) (fun _ _ _ h => h) (Or.inl ⟨by rfl, ?_⟩) (by assumption) ?_
      rotate_left
      · (intro w hSw; (try dsimp only at hSw); go_simp; try with_reducible rfl)
      try simp only [Act.put, List.setIfInBounds_toArray, List.set_cons_zero, List.set_cons_succ]
      refine held_take 1 (v := ?_) rfl (by kernel_rfl) (by kernel_rfl) (by kernel_rfl) (fun _ _ _ h => h) (Or.inl ⟨by rfl, ?_⟩) (by assumption) ?_
      rotate_left
      · (intro w hSw; (try dsimp only at hSw); go_simp; try with_reducible rfl)
      try simp only [Act.put, List.setIfInBounds_toArray, List.set_cons_zero, List.set_cons_succ]
      refine held_take 2 (v := ?_) rfl (by kernel_rfl) (by kernel_rfl) (by kernel_rfl) (fun _ _ _ h => h) (Or.inl ⟨by rfl, ?_⟩) (by assumption) ?_
      rotate_left
      · (intro w hSw; (try dsimp only at hSw); go_simp; try with_reducible rfl)
      try simp only [Act.put, List.setIfInBounds_toArray, List.set_cons_zero, List.set_cons_succ]
      refine held_take 3 (v := ?_) rfl (by kernel_rfl) (by kernel_rfl) (by kernel_rfl) (fun _ _ _ h => h) (Or.inl ⟨by rfl, ?_⟩) (by assumption) ?_
      rotate_left
      · (intro w hSw; (try dsimp only at hSw); go_simp; try with_reducible rfl)
      try simp only [Act.put, List.setIfInBounds_toArray, List.set_cons_zero, List.set_cons_succ]
      refine held_take 5 (v := ?_) rfl (by kernel_rfl) (by kernel_rfl) (by kernel_rfl) (fun _ _ _ h => h) (Or.inl ⟨by rfl, ?_⟩) (by assumption) ?_
      rotate_left
      · (intro w hSw; (try dsimp only at hSw); go_simp; try with_reducible rfl)
      try simp only [Act.put, List.setIfInBounds_toArray, List.set_cons_zero, List.set_cons_succ]
      refine held_two 4 6 (by kernel_rfl) rfl rfl (fun K hK => ?_) (fun K hK => ?_)
      ·
        go_simp
        refine hK.out _ _ ?_ (fun hHeld => ?_)
        · (try dsimp only); first | exact bxn | exact bxa | exact bx8 | exact bx9
        clear hK K
        try simp only [Act.put, List.setIfInBounds_toArray, List.set_cons_zero, List.set_cons_succ]
        refine held_one 6 (by kernel_rfl) rfl (fun K hK => ?_)
        go_simp
        refine hK.out _ _ ?_ (fun hHeld => ?_)
        · (try dsimp only); first | exact bxn | exact bxa | exact bx8 | exact bx9
        clear hK K
        try simp only [Act.put, List.setIfInBounds_toArray, List.set_cons_zero, List.set_cons_succ]
        refine held_one 7 (by kernel_rfl) rfl (fun K hK => ?_)
        (refine step_app_ints rfl (.tmp 52) (.tmp 54) rfl rfl base _ [(m : Int)] xs (.slice (q' 3) xl (c 3)) 1 1 rfl (by simp [Act.eval]) (by simp [Act.eval]; rfl) (HSA.out.1.sr.ownE (j := 3) (by decide) rfl rfl rfl HXE.out.1.symm) (HN9.out _ _ _ (by simp)) hbW HXE.out.2.2 ?_; intro v8 w8 ho8 hg8 hb8; rw [HXE.out.2.1] at ho8; obtain ⟨q8, c8, rfl⟩ := own_form ho8; obtain ⟨e8, fz8, bl8⟩ := HSA.out.1.sr.mid (j := 3) (by decide) hg8; have e8' := e8.trans (congrArg (fun n => some (Value.slice (q' 3) n (c 3))) HXE.out.1); have HX := Lib.hid (HSA.out.1.app ho8 HXE.out.2.1 hg8 hb8 HXL.out); have HKX := Lib.hid (HSA.out.2.app hg8 hb8); have HKPX := Lib.hid (HKP.out.app q8 c8); have bx9 := HBX.out _ _ HKX.out; have bx8 := (World.cell?_setCell_other w8 ⟨f, 3, none⟩ ⟨W.heap.size, 0, none⟩ (.slice q8 (xl + 1) c8) (fun e => hbf (congrArg Addr.block e).symm)).symm.trans bx9; obtain ⟨x0, x1, x2, e0, _, _, hcx, _⟩ := HX.out.cells (by rw [HND.out]; omega); rw [HND.out] at hcx; have dx0 := hcx.d0; have kx0 := (hcx.k0 m hmN).trans (congrArg (fun x => some (Value.int .i64 x)) HEA.out); have lx := hcx.l0; have lfx := hcx.lf; clear hcx; clear ho8 hg8 hb8 e8)
        refine hK.out _ _ ?_ (fun hHeld => ?_)
        · (try dsimp only); first | exact bxn | exact bxa | exact bx8 | exact bx9
        clear hK K
        try simp only [Act.put, List.setIfInBounds_toArray, List.set_cons_zero, List.set_cons_succ]
        refine held_take 8 (v := ?_) rfl (by kernel_rfl) (by kernel_rfl) (by kernel_rfl) (fun _ _ _ h => h) (Or.inl ⟨by rfl, ?_⟩) (by assumption) ?_
        rotate_left
        · (intro w hSw; (try dsimp only at hSw); go_simp; try with_reducible rfl)
        try simp only [Act.put, List.setIfInBounds_toArray, List.set_cons_zero, List.set_cons_succ]
        refine held_take 9 (v := ?_) rfl (by kernel_rfl) (by kernel_rfl) (by kernel_rfl) (fun _ _ _ h => h) (Or.inl ⟨by rfl, ?_⟩) (by assumption) ?_
        rotate_left
        · (intro w hSw; (try dsimp only at hSw); go_simp; try with_reducible rfl)
        try simp only [Act.put, List.setIfInBounds_toArray, List.set_cons_zero, List.set_cons_succ]
        refine held_one 10 (by kernel_rfl) rfl (fun K hK => ?_)
        go_simp
        refine hK.out _ _ ?_ (fun hHeld => ?_)
        · (try dsimp only); first | exact bxn | exact bxa | exact bx8 | exact bx9
        clear hK K
        try simp only [Act.put, List.setIfInBounds_toArray, List.set_cons_zero, List.set_cons_succ]
        refine wpAnyH_done (by kernel_rfl) (NoPanic.normal ?_) _
        all_goals go_wp2_with fail
        all_goals go_roundw
        all_goals first
          | exact ⟨a, _, _, _, rfl, HKPX, HX.out, HKX.out, .snoc HLn.out.ch HLn.out.mL ham HEA.out haL, haL, by rw [HND.out]; exact haN⟩
          | (simp [RowKit.intOf]; omega)
      ·
        go_simp
        refine hK.out _ _ ?_ (fun hHeld => ?_)
        · (try dsimp only); first | exact bxn | exact bxa | exact bx8 | exact bx9
        clear hK K
        try simp only [Act.put, List.setIfInBounds_toArray, List.set_cons_zero, List.set_cons_succ]
        refine held_one 4 (by kernel_rfl) rfl (fun K hK => ?_)
        go_simp
        refine hK.out _ _ ?_ (fun hHeld => ?_)
        · (try dsimp only); first | exact bxn | exact bxa | exact bx8 | exact bx9
        clear hK K
        try simp only [Act.put, List.setIfInBounds_toArray, List.set_cons_zero, List.set_cons_succ]
        refine held_one 7 (by kernel_rfl) rfl (fun K hK => ?_)
        (refine step_app_ints rfl (.tmp 52) (.tmp 54) rfl rfl base _ [(m : Int)] xs (.slice (q' 3) xl (c 3)) 1 1 rfl (by simp [Act.eval]) (by simp [Act.eval]; rfl) (HSA.out.1.sr.ownE (j := 3) (by decide) rfl rfl rfl HXE.out.1.symm) (HN9.out _ _ _ (by simp)) hbW HXE.out.2.2 ?_; intro v8 w8 ho8 hg8 hb8; rw [HXE.out.2.1] at ho8; obtain ⟨q8, c8, rfl⟩ := own_form ho8; obtain ⟨e8, fz8, bl8⟩ := HSA.out.1.sr.mid (j := 3) (by decide) hg8; have e8' := e8.trans (congrArg (fun n => some (Value.slice (q' 3) n (c 3))) HXE.out.1); have HX := Lib.hid (HSA.out.1.app ho8 HXE.out.2.1 hg8 hb8 HXL.out); have HKX := Lib.hid (HSA.out.2.app hg8 hb8); have HKPX := Lib.hid (HKP.out.app q8 c8); have bx9 := HBX.out _ _ HKX.out; have bx8 := (World.cell?_setCell_other w8 ⟨f, 3, none⟩ ⟨W.heap.size, 0, none⟩ (.slice q8 (xl + 1) c8) (fun e => hbf (congrArg Addr.block e).symm)).symm.trans bx9; obtain ⟨x0, x1, x2, e0, _, _, hcx, _⟩ := HX.out.cells (by rw [HND.out]; omega); rw [HND.out] at hcx; have dx0 := hcx.d0; have kx0 := (hcx.k0 m hmN).trans (congrArg (fun x => some (Value.int .i64 x)) HEA.out); have lx := hcx.l0; have lfx := hcx.lf; clear hcx; clear ho8 hg8 hb8 e8)
        refine hK.out _ _ ?_ (fun hHeld => ?_)
        · (try dsimp only); first | exact bxn | exact bxa | exact bx8 | exact bx9
        clear hK K
        try simp only [Act.put, List.setIfInBounds_toArray, List.set_cons_zero, List.set_cons_succ]
        refine held_take 8 (v := ?_) rfl (by kernel_rfl) (by kernel_rfl) (by kernel_rfl) (fun _ _ _ h => h) (Or.inl ⟨by rfl, ?_⟩) (by assumption) ?_
        rotate_left
        · (intro w hSw; (try dsimp only at hSw); go_simp; try with_reducible rfl)
        try simp only [Act.put, List.setIfInBounds_toArray, List.set_cons_zero, List.set_cons_succ]
        refine held_take 9 (v := ?_) rfl (by kernel_rfl) (by kernel_rfl) (by kernel_rfl) (fun _ _ _ h => h) (Or.inl ⟨by rfl, ?_⟩) (by assumption) ?_
        rotate_left
        · (intro w hSw; (try dsimp only at hSw); go_simp; try with_reducible rfl)
        try simp only [Act.put, List.setIfInBounds_toArray, List.set_cons_zero, List.set_cons_succ]
        refine held_one 10 (by kernel_rfl) rfl (fun K hK => ?_)
        go_simp
        refine hK.out _ _ ?_ (fun hHeld => ?_)
        · (try dsimp only); first | exact bxn | exact bxa | exact bx8 | exact bx9
        clear hK K
        try simp only [Act.put, List.setIfInBounds_toArray, List.set_cons_zero, List.set_cons_succ]
        refine wpAnyH_done (by kernel_rfl) (NoPanic.normal ?_) _
        all_goals go_wp2_with fail
        all_goals go_roundw
        all_goals first
          | exact ⟨a, _, _, _, rfl, HKPX, HX.out, HKX.out, .snoc HLn.out.ch HLn.out.mL ham HEA.out haL, haL, by rw [HND.out]; exact haN⟩
          | (simp [RowKit.intOf]; omega)
    · have e1 := (HFO.out.lo a (by omega) (by rw [HND.out]; exact haN)).1
      have d3 := hl.sb.sr.clE (j := 3) (by decide) (l := xs) rfl rfl rfl rfl
      rw [e1] at k1
      have HBD : Hid (Bk G hi s L i up least xs) := Lib.hid ⟨HFO.out, m, hl.ch, hl.mL, hl.mN, by omega⟩
      clear hl hc q0 q1 q2 ea e1
      go_wp2_with fail
      go_quiet (fail)
      obtain ⟨wn, hwn⟩ : ∃ wn, wr.drewN nq = wn := ⟨_, rfl⟩
      rw [hwn]
      have HLn : Hid (Sb base wn f G hi s L up semi least xs q' c ∧ Fk W1 wn f q q') := Lib.hid (by
        rw [← hwn]
        exact ⟨HL.out.sb.grown (drew_grown wr nq), HL.out.fk.no (drew_grown wr nq)⟩)
      have bxn := HBX.out wn q' HLn.out.2
      obtain ⟨xl, hxl⟩ : ∃ l, xs.length = l := ⟨_, rfl⟩
      have HXE : Hid (xs.length = xl ∧ xs.length ≤ 1048576) := Lib.hid ⟨hxl, HL.out.sb.wl⟩
      have d3n := HLn.out.1.sr.clE (j := 3) (by decide) (l := xs) rfl rfl rfl hxl
      have lfn := HLn.out.1.sr.bl
      have HBW := Lib.hid (fun q n c W => backward_any q n c W)
      clear hwn bx d0 k0 k1 lf l0 d3 HL hxl
      go_wp2_with (go_at_call 37; (with_reducible refine (HBW.out _ _ _ _).mono ?_); rintro e w1 ⟨rfl, rfl⟩)
      go_outline
      rename_i KK hKK
      obtain ⟨w0, hw0⟩ : ∃ w0, wn.alloc (.cells #[.slice (q' 3) xl (c 3)] 27) = w0 := ⟨_, rfl⟩
      have hq3 : ∀ j ∈ FJ, ∀ g, (q' j).map Addr.block = some g → g < wn.heap.size := fun j hj g e => (HLn.out.1.sr.blk hj e).2
      have sz0 : w0.heap.size = wn.heap.size + 1 := by rw [← hw0]; exact World.size_alloc ..
      have szn : W1.heap.size ≤ wn.heap.size := HLn.out.2.ch.size
      have HB0 : Hid (Br W1 base f wn.heap.size G hi s L i semi xs q q' c up least 0 w0) := Lib.hid (by
        rw [← hw0]
        refine ⟨HLn.out.1.grown (al_grown wn _), HLn.out.2.no (al_grown wn _), by rw [Nat.sub_zero, List.take_length]; exact HBD.out, ?_⟩
        rw [HXE.out.1]
        exact cell_new wn rfl)
      rw [hw0]
      clear hw0 bxn d3n
      refine (wpIn_wide (n := 6)).1 ?_
      apply range_ord (gf := 40) (lb := #[.pointer (some ⟨wn.heap.size, 0, none⟩)]) rfl (enters_of Try.func40 (by kernel_rfl) rfl) xs.length (bes xs) (fun k => rfl) (fun k W2 => wn.heap.size < W2.heap.size ∧ ∃ up' least', Br W1 base f wn.heap.size G hi s L i semi xs q q' c up' least' k W2) ?own ⟨by omega, up, least, HB0.out⟩ _ ?assign ?body ?iter ?done
      case own =>
        rintro k W2 W3 row ⟨hz, up', least', hB⟩ hg hr
        exact ⟨Nat.lt_of_lt_of_le hz hg.size, up', least', hB.grown hg (fun r e => by have := (hr r e).1; omega) lfn hq3 szn hz⟩
      case iter =>
        intro l J W2 hJ hY h0
        exact back_it 5 l wn.heap.size (c 3) (q' 3) xs HXE.out.2 J W2 (fun k W3 hk => by
          obtain ⟨_, up', least', hB⟩ := hJ k W3 hk
          exact ⟨hB.cl, hB.sb.sr.nums (j := 3) (by decide) (Nat.le_trans HXE.out.2 (by omega))⟩) hY h0
      case assign =>
        intro l k W2 K hK
        show Code.wpIn _ _ _ _ _ _ _
        unfold bes
        gi_wp2
        exact hK
      case body =>
        rintro l k W2 hk ⟨hz, up', least', hB⟩
        obtain ⟨m, a, bn, ba, em, hm, ha, hbn, hba, e1, e2, e3, e4, e5, hbk⟩ := hB.nums HTR.out (by rw [HND.out]; exact hi') hk
        rw [List.getD_eq_getElem?_getD] at em
        rw [em]
        have HB := Lib.hid hB
        have HBK := Lib.hid hbk
        obtain ⟨b0, b1, b2, q0, q1, q2, hc, _⟩ := hB.sb.cells (by rw [HND.out]; omega)
        rw [HND.out] at hc hm ha hbn hba
        have bx := HBX.out W2 q' hB.fk
        have d0 := hc.d0
        have d1 := hc.d1
        have d2 := hc.d2
        have u1 := hc.k0 m hm
        have u2 := hc.k0 a ha
        have v1 := hc.k1 bn hbn
        have v2 := hc.k1 ba hba
        have x1 := hc.k2 m hm
        have x2 := hc.k2 a ha
        rw [e1] at u1
        rw [e4] at v1
        rw [e5] at v2
        rw [e2] at x1
        rw [e3] at x2
        have z0 := hc.f0 m
        have z2 := hc.f2 m
        have l0 := hc.l0
        have l2 := hc.l2
        have lf2 := hc.lf
        have HQ0 := Lib.hid q0
        have HQ1 := Lib.hid q1
        have HQ2 := Lib.hid q2
        have HE := Lib.hid (And.intro e1 (And.intro e2 e3))
        have HUL : Hid (up'.length = N) := Lib.hid (by rw [hB.sb.fo.l1]; exact HND.out)
        clear hB hbk hc q0 q1 q2 e1 e2 e3 e4 e5 em
        gi_wp2
        by_cases hlt : (s ba : Int) < (s bn : Int)
        · refine region_quiet_r (by kernel_rfl) (by kernel_rfl) (by kernel_rfl) (by kernel_rfl) ?_
          repeat (gi_big_quiet_step (fail))
          refine wpQuietIn_nil ?_
          intro w3 hw3
          have HB3 : Hid (Br W1 base f wn.heap.size G hi s L i semi xs q q' c up' least' k w3 ∧ KeepsOthers W2 w3) := Lib.hid (by obtain ⟨nq, rfl⟩ := hw3; exact ⟨HB.out.grown (drew_grown W2 nq) (fun _ e => by cases e) lfn hq3 szn hz, ⟨Nat.le_refl _, fun _ _ h _ => h⟩⟩)
          have hc3 := HB3.out.1.sb.cellsAt (by rw [HND.out]; omega) HQ0.out HQ1.out HQ2.out
          rw [HND.out] at hc3
          have bx3 := HBX.out w3 q' HB3.out.1.fk
          have d03 := hc3.d0
          have d23 := hc3.d2
          have u13 := (hc3.k0 m hm).trans (congrArg (fun x => some (Value.int .i64 x)) HE.out.1)
          have u23 := hc3.k0 a ha
          have x13 := (hc3.k2 m hm).trans (congrArg (fun x => some (Value.int .i64 x)) HE.out.2.1)
          have x23 := (hc3.k2 a ha).trans (congrArg (fun x => some (Value.int .i64 x)) HE.out.2.2)
          have z03 := hc3.f0 m
          have z23 := hc3.f2 m
          clear hc3 hw3 bx d0 d1 d2 u1 u2 v1 v2 x1 x2 z0 z2
          gi_wp2
          refine region_store_r (N := 13) (by kernel_rfl) rfl rfl (by kernel_rfl) (by kernel_rfl) (by kernel_rfl) (by kernel_rfl) (by kernel_rfl) (by kernel_rfl) ?_
          simp only [List.take_succ_cons, List.take_zero]
          repeat (gi_big_quiet_step (fail))
          refine wpQuietIn_nil ?_
          intro w4 hw4
          have HB4 : Hid (Br W1 base f wn.heap.size G hi s L i semi xs q q' c up' least' k w4 ∧ KeepsOthers W2 w4) := Lib.hid (by obtain ⟨nq, rfl⟩ := hw4; exact ⟨HB3.out.1.grown (drew_grown w3 nq) (fun _ e => by cases e) lfn hq3 szn (Nat.lt_of_lt_of_le hz HB3.out.2.size), HB3.out.2.trans ⟨Nat.le_refl _, fun _ _ h _ => h⟩⟩)
          have HT4 : Hid (Bt W1 base f wn.heap.size semi xs q q' c up' least' w4) := Lib.hid ⟨HB4.out.1.sb.sr, HB4.out.1.fk, HB4.out.1.cl⟩
          have x14 : w4.cell? ⟨b2, m, none⟩ = some (.int .i64 (bn : Int)) := by obtain ⟨nq, rfl⟩ := hw4; exact x13
          have z24 : w4.frozen? ⟨b2, m, none⟩ = false := by obtain ⟨nq, rfl⟩ := hw4; exact z23
          clear hw4 bx3 d03 d23 u13 u23 x13 x23 z03 z23
          gi_wp2
          obtain ⟨w5, hw5⟩ : ∃ w5, w4.setCell ⟨b2, m, none⟩ (.int .i64 (ba : Int)) = w5 := ⟨_, rfl⟩
          have HT5 : Hid (Bt W1 base f wn.heap.size semi xs q q' c up' (least'.set m (ba : Int)) w5) := Lib.hid (by rw [← hw5]; exact Br.put2 HT4.out HQ2.out (fun e => by have := hq3 2 (by decide) b2 (by rw [HQ2.out]; rfl); omega) m (ba : Int))
          have HK5 : Hid (KeepsOthers W2 w5) := Lib.hid (by rw [← hw5]; exact HB4.out.2.trans (KeepsOthers.setCell _ _ _))
          rw [hw5]
          clear hw5 x14 z24
          have t5 := HT5.out.1
          have bx5 := HBX.out w5 q' HT5.out.2.1
          have d05 := t5.clE (j := 0) (by decide) (l := up') rfl HQ0.out rfl HUL.out
          have u15 := ((t5.atI (j := 0) (by decide) HQ0.out (l := up') rfl (i := m) (by rw [HUL.out]; exact hm)).1).trans (congrArg (fun x => some (Value.int .i64 x)) HE.out.1)
          have z05 := (t5.atI (j := 0) (by decide) HQ0.out (l := up') rfl (i := m) (by rw [HUL.out]; exact hm)).2
          have u25 := (t5.atI (j := 0) (by decide) HQ0.out (l := up') rfl (i := a) (by rw [HUL.out]; exact ha)).1
          obtain ⟨ua, hua⟩ : ∃ x, up'.getD a 0 = x := ⟨_, rfl⟩
          rw [hua] at u25
          have HUA := Lib.hid hua
          clear t5 hua
          refine region_store_r (N := 13) (by kernel_rfl) rfl rfl (by kernel_rfl) (by kernel_rfl) (by kernel_rfl) (by kernel_rfl) (by kernel_rfl) (by kernel_rfl) ?_
          simp only [List.take_succ_cons, List.take_zero]
          repeat (gi_big_quiet_step (fail))
          refine wpQuietIn_nil ?_
          intro w6 hw6
          have HT6 : Hid (Bt W1 base f wn.heap.size semi xs q q' c up' (least'.set m (ba : Int)) w6 ∧ KeepsOthers W2 w6) := Lib.hid (by obtain ⟨nq, rfl⟩ := hw6; exact ⟨HT5.out.drew nq, HK5.out.trans ⟨Nat.le_refl _, fun _ _ h _ => h⟩⟩)
          have u16 : w6.cell? ⟨b0, m, none⟩ = some (.int .i64 (a : Int)) := by obtain ⟨nq, rfl⟩ := hw6; exact u15
          have z06 : w6.frozen? ⟨b0, m, none⟩ = false := by obtain ⟨nq, rfl⟩ := hw6; exact z05
          clear hw6 bx5 d05 u15 z05 u25
          gi_wp2
          have HT7 := Br.put0 HT6.out.1 HQ0.out (fun e => by have := hq3 0 (by decide) b0 (by rw [HQ0.out]; rfl); omega) m ua
          refine ⟨HT6.out.2.trans (KeepsOthers.setCell _ _ _), ?_, up'.set m ua, (least'.set m (ba : Int)), ?_⟩
          · have := HT7.2.1.ch.size
            have := HT6.out.2.size
            omega
          · have hbk := HBK.out
            rw [HUA.out, if_pos (by omega)] at hbk
            exact ⟨⟨HT7.1, hbk.fo, HB.out.sb.sl, HB.out.sb.sh, HB.out.sb.wl⟩, HT7.2.1, hbk, HT7.2.2⟩
        · refine region_quiet_r (by kernel_rfl) (by kernel_rfl) (by kernel_rfl) (by kernel_rfl) ?_
          repeat (gi_big_quiet_step (fail))
          refine wpQuietIn_nil ?_
          intro w3 hw3
          have HB3 : Hid (Br W1 base f wn.heap.size G hi s L i semi xs q q' c up' least' k w3 ∧ KeepsOthers W2 w3) := Lib.hid (by obtain ⟨nq, rfl⟩ := hw3; exact ⟨HB.out.grown (drew_grown W2 nq) (fun _ e => by cases e) lfn hq3 szn hz, ⟨Nat.le_refl _, fun _ _ h _ => h⟩⟩)
          have hc3 := HB3.out.1.sb.cellsAt (by rw [HND.out]; omega) HQ0.out HQ1.out HQ2.out
          rw [HND.out] at hc3
          have bx3 := HBX.out w3 q' HB3.out.1.fk
          have d03 := hc3.d0
          have d23 := hc3.d2
          have u13 := (hc3.k0 m hm).trans (congrArg (fun x => some (Value.int .i64 x)) HE.out.1)
          have u23 := hc3.k0 a ha
          have x13 := (hc3.k2 m hm).trans (congrArg (fun x => some (Value.int .i64 x)) HE.out.2.1)
          have x23 := (hc3.k2 a ha).trans (congrArg (fun x => some (Value.int .i64 x)) HE.out.2.2)
          have z03 := hc3.f0 m
          have z23 := hc3.f2 m
          clear hc3 hw3 bx d0 d1 d2 u1 u2 v1 v2 x1 x2 z0 z2
          gi_wp2
          have HT3 : Hid (Bt W1 base f wn.heap.size semi xs q q' c up' least' w3) := Lib.hid ⟨HB3.out.1.sb.sr, HB3.out.1.fk, HB3.out.1.cl⟩
          clear bx3 d03 d23 u13 u23 x13 x23 z03 z23
          obtain ⟨w5, hw5⟩ : ∃ w5, w3 = w5 := ⟨_, rfl⟩
          have HT5 : Hid (Bt W1 base f wn.heap.size semi xs q q' c up' least' w5) := Lib.hid (by rw [← hw5]; exact HT3.out)
          have HK5 : Hid (KeepsOthers W2 w5) := Lib.hid (by rw [← hw5]; exact HB3.out.2)
          rw [hw5]
          clear hw5
          have t5 := HT5.out.1
          have bx5 := HBX.out w5 q' HT5.out.2.1
          have d05 := t5.clE (j := 0) (by decide) (l := up') rfl HQ0.out rfl HUL.out
          have u15 := ((t5.atI (j := 0) (by decide) HQ0.out (l := up') rfl (i := m) (by rw [HUL.out]; exact hm)).1).trans (congrArg (fun x => some (Value.int .i64 x)) HE.out.1)
          have z05 := (t5.atI (j := 0) (by decide) HQ0.out (l := up') rfl (i := m) (by rw [HUL.out]; exact hm)).2
          have u25 := (t5.atI (j := 0) (by decide) HQ0.out (l := up') rfl (i := a) (by rw [HUL.out]; exact ha)).1
          obtain ⟨ua, hua⟩ : ∃ x, up'.getD a 0 = x := ⟨_, rfl⟩
          rw [hua] at u25
          have HUA := Lib.hid hua
          clear t5 hua
          refine region_store_r (N := 13) (by kernel_rfl) rfl rfl (by kernel_rfl) (by kernel_rfl) (by kernel_rfl) (by kernel_rfl) (by kernel_rfl) (by kernel_rfl) ?_
          simp only [List.take_succ_cons, List.take_zero]
          repeat (gi_big_quiet_step (fail))
          refine wpQuietIn_nil ?_
          intro w6 hw6
          have HT6 : Hid (Bt W1 base f wn.heap.size semi xs q q' c up' least' w6 ∧ KeepsOthers W2 w6) := Lib.hid (by obtain ⟨nq, rfl⟩ := hw6; exact ⟨HT5.out.drew nq, HK5.out.trans ⟨Nat.le_refl _, fun _ _ h _ => h⟩⟩)
          have u16 : w6.cell? ⟨b0, m, none⟩ = some (.int .i64 (a : Int)) := by obtain ⟨nq, rfl⟩ := hw6; exact u15
          have z06 : w6.frozen? ⟨b0, m, none⟩ = false := by obtain ⟨nq, rfl⟩ := hw6; exact z05
          clear hw6 bx5 d05 u15 z05 u25
          gi_wp2
          have HT7 := Br.put0 HT6.out.1 HQ0.out (fun e => by have := hq3 0 (by decide) b0 (by rw [HQ0.out]; rfl); omega) m ua
          refine ⟨HT6.out.2.trans (KeepsOthers.setCell _ _ _), ?_, up'.set m ua, least', ?_⟩
          · have := HT7.2.1.ch.size
            have := HT6.out.2.size
            omega
          · have hbk := HBK.out
            rw [HUA.out, if_neg (by omega)] at hbk
            exact ⟨⟨HT7.1, hbk.fo, HB.out.sb.sl, HB.out.sb.sh, HB.out.sb.wl⟩, HT7.2.1, hbk, HT7.2.2⟩
      case done =>
        intro D W2 hD hI hdef
        obtain ⟨hz, up', least', hB⟩ := hI
        refine hKK _ _ ?_
        have hcn : Bk G hi s L i up' least' [] := by have := hB.bk; rwa [Nat.sub_self, List.take_zero] at this
        obtain ⟨b, eb, hb1, hb2, hb3⟩ := hcn.done
        have hbN : b < G.N := by rw [HND.out]; have := hb2; unfold Anc at this; omega
        obtain ⟨b0, b1, b2, q0, q1, q2, hc, _⟩ := hB.sb.cells (by omega)
        rw [HND.out] at hc
        have bx := HBX.out W2 q' hB.fk
        have d2 := hc.d2
        have x1 := hc.k2 i hi'
        rw [eb] at x1
        have HE : Hid (BP (.returned (.int .i64 (b : Int))) (W2.putObj D (.deferred none))) := Lib.hid (by
          have hB3 := hB.grown (grownBy_putObj' W2 D (.deferred none)) (fun r e => by cases e; omega) lfn hq3 szn hz
          exact HBP.out _ b up' least' xs q' c hbN ⟨fun c => by omega, fun _ => ⟨hb1, hb2, hb3⟩⟩ hB3.sb (HPRE.out _ _ hB3.fk) HKP.out)
        clear hB hc q0 q1 q2 hcn eb
        go_wp2_with fail
        refine ⟨by simp, .inl ⟨_, _, rfl, run_takeDeferred hdef, ?_⟩⟩
        refine ⟨_, results_tmp rfl _ _ _, ?_⟩
        show BP (.returned (.int .i64 (b : Int))) _
        exact HE.out
theorem sbest_any {par : Nat → Nat} (T : Tr G par hi) {base f L i : Nat} {W : World} {s : Nat → Nat} {up semi least way : List Int} {q : Nat → Option Addr} {c : Nat → Nat} (h : Sb base W f G hi s L up semi least way q c) (hi' : i < G.N) (hN : G.N ≤ 1048576) (hbase : base ≤ W.heap.size) :
    Calls Try.prog 35 #[.pointer (some ⟨f, 0, none⟩), .int .i64 (i : Int)] W (BestP W base f G hi s L i semi q c) := by
  by_cases hL : i < L
  · exact sbest_root h hi' hL hN
  · exact sbest_link T h hi' (by omega) hN hbase
end Go.Proofs.Ytgaacdnljkildaa
