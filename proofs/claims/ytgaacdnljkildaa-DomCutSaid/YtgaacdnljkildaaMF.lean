/- Dominance: package dom's own above: how it begins, and what its loops keep. -/
import Derived.Test.YtgaacdnljkildaaME
import Derived.Test.YtgaacdnljkildaaLJ
import Derived.Deep.DeepCutAuto
namespace Go.Proofs.Ytgaacdnljkildaa
open Go.RowKit
open Dm
variable {G : Dg} {par hi : Nat → Nat}

theorem getD_memI {l : List Int} {i : Nat} (h : i < l.length) : l.getD i 0 ∈ l := by
  rw [List.getD_eq_getElem?_getD, List.getElem?_eq_getElem h]; exact List.getElem_mem h
/-- the rows that wait, as a list -/
def wt (N : Nat) (rw : Nat → List Int) : List (List Int) := (List.range N).map rw
theorem wt_get {N f : Nat} {rw : Nat → List Int} (h : f < N) : (wt N rw).getD f [] = rw f := by
  unfold wt
  rw [List.getD_eq_getElem?_getD, List.getElem?_map, List.getElem?_range h]
  rfl
theorem wt_set {N j : Nat} {rw : Nat → List Int} {l : List Int} : (wt N rw).set j l = wt N (up1 rw j l) := by
  unfold wt
  refine List.ext_getElem? fun i => ?_
  rw [List.getElem?_set, List.getElem?_map, List.getElem?_map]
  by_cases e : j = i
  · subst e
    rw [if_pos rfl]
    by_cases c : j < N
    · simp [c, up1]
    · simp [c]
  · rw [if_neg e]
    by_cases c : i < N
    · rw [List.getElem?_range c]
      simp [up1, Ne.symm e]
    · simp [c]
theorem wt_nil (N : Nat) : wt N (fun _ => []) = List.replicate N [] := by
  unfold wt
  refine List.ext_getElem? fun i => ?_
  rw [List.getElem?_map, List.getElem?_replicate]
  by_cases c : i < N
  · rw [List.getElem?_range c, if_pos c]; rfl
  · rw [if_neg c, List.getElem?_eq_none (by simpa using c)]; rfl
/-- where it begins -/
theorem Mm.start {w w1 w2 : World} {fb gr N : Nat} {semi up least : List Int} {q : Nat → Option Addr} {c : Nat → Nat} (hf : w.heap.size ≤ fb) (hs : Sr w.heap.size w1 fb FJ (fr up semi least []) q c) (hb1 : Below w.heap.size w w1) (hb2 : Below w1.heap.size w1 w2) (hgr : w1.heap.size ≤ gr) (hr : w2.heap[gr]? = some (.cells (rpc (-1) N N).toArray 3 (0, 0))) (hN : N ≤ 1048576) :
    Mm w (w2.alloc (.cells (madeCells #[.slice none 0 0] N) 27)) fb w2.heap.size gr N semi up least [] q c (fun _ => []) (fun _ => none) (fun _ => 0) (List.replicate N (-1)) := by
  have hs2 := (hs.next hb2).grown (al_grown w2 (.cells (madeCells #[.slice none 0 0] N) 27)) (by simp) (fun _ _ _ e => by cases e)
  have hlt : gr < w2.heap.size := (Array.getElem?_eq_some_iff.1 hr).1
  have l1 := hs.bl
  have s1 := hb1.size
  have s2 := hb2.size
  have ho := own_heap (W := w2) (base := w.heap.size) (l := List.replicate N (-1)) (by omega) hr (by rw [rpc_ints]) (by simp) hN
  rw [List.length_replicate] at ho
  exact ⟨hs2, Sr.rows w.heap.size w2 N, ho.alloc _, hf, by omega, by omega, by omega, by omega, fun j hj k e => by have := (hs.blk hj e).2; omega, fun j _ k e => by simp at e, fun i _ j _ k _ => by simp, (hb1.trans (hb2.mono s1)).trans ((b1 (w := w2)).mono (by omega))⟩
/-- what above answers -/
def AbQ (w : World) (G : Dg) (e : Ending) (w' : World) : Prop :=
  ∃ gr res, e = .returned (.slice (some ⟨gr, 0, none⟩) G.N G.N) ∧ w'.ownsRow w.heap.size 3 1 (.slice (some ⟨gr, 0, none⟩) G.N G.N) G.N (intsV res) ∧ res.length = G.N ∧ (∀ n, n < G.N → G.Up n (res.getD n 0)) ∧ Below w.heap.size w w'
/-- the outer loop: all from L on are done -/
structure A1 (w W : World) (fb gw gr : Nat) (G : Dg) (par hi : Nat → Nat) (L : Nat) (semi up least way : List Int) (q : Nat → Option Addr) (c : Nat → Nat) (rw : Nat → List Int) (qw : Nat → Option Addr) (cw : Nat → Nat) (res : List Int) : Prop where
  mm : Mm w W fb gw gr G.N semi up least way q c rw qw cw res
  ab : Ab G par hi L semi up least res (wt G.N rw)
  ln : ∀ j, (rw j).length ≤ G.N - L
  wl : way.length ≤ 1048576
/-- the one whose own number is looked for: v -/
structure A2 (w W : World) (fb gw gr : Nat) (G : Dg) (par hi : Nat → Nat) (v m : Nat) (done : List Int) (semi up least way : List Int) (q : Nat → Option Addr) (c : Nat → Nat) (rw : Nat → List Int) (qw : Nat → Option Addr) (cw : Nat → Nat) (res : List Int) : Prop where
  mm : Mm w W fb gw gr G.N (semi.set v (m : Int)) up least way q c rw qw cw res
  ab : Ab G par hi (v + 1) semi up least res (wt G.N rw)
  mn : Mn G hi v m done
  ln : ∀ j, (rw j).length ≤ G.N - (v + 1)
  wl : way.length ≤ 1048576
section
variable {w W W' : World} {fb gw gr v m : Nat} {semi up least way done : List Int} {q : Nat → Option Addr} {c : Nat → Nat} {rw : Nat → List Int} {qw : Nat → Option Addr} {cw : Nat → Nat} {res : List Int}
theorem A2.grown (h : A2 w W fb gw gr G par hi v m done semi up least way q c rw qw cw res) (hg : W.grownBy W' none) : A2 w W' fb gw gr G par hi v m done semi up least way q c rw qw cw res :=
  ⟨h.mm.grown hg, h.ab, h.mn, h.ln, h.wl⟩
theorem A2.sem (h : A2 w W fb gw gr G par hi v m done semi up least way q c rw qw cw res) {k : Nat} (hk : v < k) (hkN : k < G.N) : (semi.set v (m : Int)).getD k 0 = (sdv G k : Int) := by
  rw [getD_set_i, if_neg (fun e => by omega)]
  exact h.ab.shi k hk hkN
/-- the forest that best is asked of -/
theorem A2.sb (h : A2 w W fb gw gr G par hi v m done semi up least way q c rw qw cw res) : Sb w.heap.size W fb G hi (sdv G) (v + 1) up (semi.set v (m : Int)) least way q c :=
  ⟨h.mm.sf, h.ab.fo, by simp [h.ab.sl], fun k hk hkN => h.sem (by omega) hkN, h.wl⟩
theorem A2.best (h : A2 w W fb gw gr G par hi v m done semi up least way q c rw qw cw res) {up' least' way' : List Int} {q' : Nat → Option Addr} {c' : Nat → Nat} (hs : Sb w.heap.size W' fb G hi (sdv G) (v + 1) up' (semi.set v (m : Int)) least' way' q' c') (hk : Fk W W' fb q q') : A2 w W' fb gw gr G par hi v m done semi up' least' way' q' c' rw qw cw res :=
  ⟨h.mm.best hk hs.sr, ⟨hs.fo, h.ab.sl, h.ab.rl, h.ab.wl, h.ab.slo, h.ab.shi, h.ab.ws, h.ab.rlo, h.ab.rhi⟩, h.mn, h.ln, hs.wl⟩
theorem A1.open (h : A1 w W fb gw gr G par hi (v + 1) semi up least way q c rw qw cw res) (hv : v < G.N) : A2 w W fb gw gr G par hi v v [] semi up least way q c rw qw cw res := by
  refine ⟨?_, h.ab, Mn.start v, h.ln, h.wl⟩
  have : semi.set v (v : Int) = semi := by
    refine List.ext_getElem? fun i => ?_
    rw [List.getElem?_set]
    by_cases e : v = i
    · subst e
      have h1 := h.ab.slo v (by omega) hv
      have hl : v < semi.length := by rw [h.ab.sl]; exact hv
      rw [List.getD_eq_getElem?_getD, List.getElem?_eq_getElem hl] at h1
      rw [if_pos rfl, if_pos hl, List.getElem?_eq_getElem hl]
      simpa using h1.symm
    · rw [if_neg e]
  rw [this]
  exact h.mm
/-- one that leads there was looked at -/
theorem A2.step (T : Tr G par hi) (h : A2 w W fb gw gr G par hi v m done semi up least way q c rw qw cw res) (hv : v < G.N) {p b g : Nat} (he : G.e p v) (hb : Bst G hi (sdv G) (v + 1) p b) (hbN : b < G.N) (hq : q 1 = some ⟨g, 0, none⟩) :
    ∃ m', A2 w (W.setCell ⟨g, v, none⟩ (.int .i64 (min (m : Int) ((semi.set v (m : Int)).getD b 0)))) fb gw gr G par hi v m' (done ++ [(p : Int)]) semi up least way q c rw qw cw res := by
  have hl : v < semi.length := by rw [h.ab.sl]; exact hv
  obtain ⟨u, hu, h1, h2, h3⟩ : ∃ u : Nat, (semi.set v (m : Int)).getD b 0 = (u : Int) ∧ (b < v → u = b) ∧ (b = v → u = m) ∧ (v < b → u = sdv G b) := by
    rcases Nat.lt_trichotomy b v with e | e | e
    · exact ⟨b, by rw [getD_set_i, if_neg (fun c => by omega)]; exact h.ab.slo b (by omega) hbN, fun _ => rfl, fun c => by omega, fun c => by omega⟩
    · exact ⟨m, by rw [getD_set_i, if_pos ⟨e, hl⟩], fun c => by omega, fun _ => rfl, fun c => by omega⟩
    · exact ⟨sdv G b, h.sem e hbN, fun c => by omega, fun c => by omega, fun _ => rfl⟩
  refine ⟨min m u, ?_, h.ab, h.mn.step T he hb h1 h2 h3, h.ln, h.wl⟩
  have hc : min (m : Int) (u : Int) = ((min m u : Nat) : Int) := by omega
  rw [hu, hc]
  have hs := h.mm.setF (j := 1) (by decide) hq v ((min m u : Nat) : Int) (fr1 _ _ _ _ _)
  have e2 : (fr up (semi.set v (m : Int)) least way 1).set v ((min m u : Nat) : Int) = semi.set v ((min m u : Nat) : Int) := by
    show (semi.set v (m : Int)).set v _ = _
    rw [List.set_set]
  rw [e2] at hs
  exact hs
theorem A2.num (T : Tr G par hi) (h : A2 w W fb gw gr G par hi v m done semi up least way q c rw qw cw res) (h0 : 0 < v) (hv : v < G.N) (hall : ∀ p : Nat, G.e p v → (p : Int) ∈ done) : m = sdv G v ∧ m < v :=
  have e := h.mn.done T h0 hv hall
  ⟨e, by rw [e]; exact (T.sdv v h0 hv).lt T h0 hv⟩
end
/-- the one that is put under its par: v -/
structure A3 (w W : World) (fb gw gr : Nat) (G : Dg) (par hi : Nat → Nat) (v : Nat) (done : List Int) (semi up least way : List Int) (q : Nat → Option Addr) (c : Nat → Nat) (rw : Nat → List Int) (qw : Nat → Option Addr) (cw : Nat → Nat) (res : List Int) : Prop where
  mm : Mm w W fb gw gr G.N semi up least way q c rw qw cw res
  aw : Aw G par hi v semi up least res (wt G.N rw) done
  ln : ∀ j, (rw j).length ≤ G.N - v
  wl : way.length ≤ 1048576
section
variable {w W W' : World} {fb gw gr v m : Nat} {semi up least way done : List Int} {q : Nat → Option Addr} {c : Nat → Nat} {rw : Nat → List Int} {qw : Nat → Option Addr} {cw : Nat → Nat} {res : List Int}
theorem A3.of (T : Tr G par hi) {semi' : List Int} (h : A2 w W' fb gw gr G par hi v m done semi' up least way q c rw qw cw res) (h0 : 0 < v) (hv : v < G.N) (hm : m = sdv G v) {qw' : Nat → Option Addr} {cw' : Nat → Nat} (hm2 : Mm w W fb gw gr G.N (semi'.set v (m : Int)) (up.set v (par v : Int)) least way q c (up1 rw m (rw m ++ [(v : Int)])) qw' cw' res) : A3 w W fb gw gr G par hi v [] (semi'.set v (m : Int)) (up.set v (par v : Int)) least way q c (up1 rw m (rw m ++ [(v : Int)])) qw' cw' res := by
  have hmN : m < G.N := by have := (T.sdv v h0 hv).lt T h0 hv; omega
  refine ⟨hm2, ?_, fun j => ?_, h.wl⟩
  · have := h.ab.put T h0 hv (by rw [hm] : semi'.set v (m : Int) = semi'.set v (sdv G v : Int))
    rw [← hm, wt_get hmN, wt_set] at this
    exact this
  · unfold up1
    have := h.ln j
    split
    · rename_i e; subst e; simp; omega
    · omega
theorem A3.grown (h : A3 w W fb gw gr G par hi v done semi up least way q c rw qw cw res) (hg : W.grownBy W' none) : A3 w W' fb gw gr G par hi v done semi up least way q c rw qw cw res :=
  ⟨h.mm.grown hg, h.aw, h.ln, h.wl⟩
/-- one that waits is told -/
theorem A3.sb (h : A3 w W fb gw gr G par hi v done semi up least way q c rw qw cw res) (n : Nat) (x : Int) : Sb w.heap.size (W.setCell ⟨gr, n, none⟩ (.int .i64 x)) fb G hi (sdv G) v up semi least way q c :=
  ⟨(h.mm.setR n x).sf, h.aw.fo, h.aw.sl, fun k hk hkN => h.aw.shi k hk hkN, h.wl⟩
theorem A3.wait (h : A3 w W fb gw gr G par hi v done semi up least way q c rw qw cw res) {f : Nat} (hf : f < G.N) {x : Int} (hx : x ∈ rw f) : ∃ n : Nat, x = (n : Int) ∧ v ≤ n ∧ n < G.N := by
  obtain ⟨n, h1, h2, h3, _⟩ := h.aw.ws f hf x (by rw [wt_get hf]; exact hx)
  exact ⟨n, h1, h2, h3⟩
theorem A3.tell (T : Tr G par hi) (h : A3 w W fb gw gr G par hi v done semi up least way q c rw qw cw res) (h0 : 0 < v) (hv : v < G.N) {n b : Nat} (hx : (n : Int) ∈ rw (par v)) {up' least' way' : List Int} {q' : Nat → Option Addr} {c' : Nat → Nat} (hs : Sb w.heap.size W' fb G hi (sdv G) v up' semi least' way' q' c') (hk : Fk (W.setCell ⟨gr, n, none⟩ (.int .i64 (par v : Int))) W' fb q q') (hb : Bst G hi (sdv G) v n b) :
    (sdv G b < par v → A3 w (W'.setCell ⟨gr, n, none⟩ (.int .i64 (b : Int))) fb gw gr G par hi v (done ++ [(n : Int)]) semi up' least' way' q' c' rw qw cw ((res.set n (par v : Int)).set n (b : Int))) ∧
    (¬ sdv G b < par v → A3 w W' fb gw gr G par hi v (done ++ [(n : Int)]) semi up' least' way' q' c' rw qw cw (res.set n (par v : Int))) := by
  have hp := (T.up v h0 hv).1
  have hm := (h.mm.setR n (par v : Int)).best hk hs.sr
  have ht := h.aw.tell T h0 hv (by rw [wt_get (by omega)]; exact hx) hs.fo hb
  refine ⟨fun e => ?_, fun e => ?_⟩
  · rw [if_pos e] at ht
    exact ⟨hm.setR n (b : Int), ht, h.ln, hs.wl⟩
  · rw [if_neg e, List.set_set] at ht
    exact ⟨hm, ht, h.ln, hs.wl⟩
theorem A3.close (T : Tr G par hi) (h : A3 w W fb gw gr G par hi v (rw (par v)) semi up least way q c rw qw cw res) (h0 : 0 < v) (hv : v < G.N) : A1 w (W.setCell ⟨gw, par v, none⟩ (.slice none 0 0)) fb gw gr G par hi v semi up least way q c (up1 rw (par v) []) (up1 qw (par v) none) (up1 cw (par v) 0) res := by
  have hp := (T.up v h0 hv).1
  have ha := h.aw
  rw [← wt_get (N := G.N) (rw := rw) (f := par v) (by omega)] at ha
  have hd := ha.done T h0 hv
  rw [wt_set] at hd
  refine ⟨h.mm.drop (par v), hd, fun j => ?_, h.wl⟩
  unfold up1
  split
  · exact Nat.zero_le _
  · exact h.ln j
end
end Go.Proofs.Ytgaacdnljkildaa
