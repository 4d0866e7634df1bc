/- Dominance: package dom's own plant. -/
import Derived.Test.YtgaacdnljkildaaLK
import Derived.Test.YtgaacdnljkildaaGK
import Derived.Deep.DeepCutAuto
import Derived.Deep.RegionHeld3
namespace Go.Proofs.Ytgaacdnljkildaa
open Go.RowKit
open Dm

/-- the rows of a forest -/
def fr (up semi least way : List Int) : Nat → List Int := fun j => if j = 0 then up else if j = 1 then semi else if j = 2 then least else if j = 3 then way else []
abbrev FJ : List Nat := [0, 1, 2, 3]
theorem fr0 (u s l y : List Int) (x : List Int) : up1 (fr u s l y) 0 x = fr x s l y := by
  funext k; unfold up1 fr; by_cases h : k = 0 <;> simp [h]
theorem fr1 (u s l y : List Int) (x : List Int) : up1 (fr u s l y) 1 x = fr u x l y := by
  funext k; unfold up1 fr
  by_cases h : k = 1
  · subst h; simp
  · simp [h]
theorem fr2 (u s l y : List Int) (x : List Int) : up1 (fr u s l y) 2 x = fr u s x y := by
  funext k; unfold up1 fr
  by_cases h : k = 2
  · subst h; simp
  · simp [h]
theorem fr3 (u s l y : List Int) (x : List Int) : up1 (fr u s l y) 3 x = fr u s l x := by
  funext k; unfold up1 fr
  by_cases h : k = 3
  · subst h; simp
  · simp [h]
/-- a row of one's own, just made -/
theorem own_heap {W : World} {base g N : Nat} {l : List Int} {cur : Array Value} (hg : base ≤ g) (h : W.heap[g]? = some (.cells cur 3 (0, 0))) (hc : cur.toList = intsV l) (hl : l.length = N) (hN : N ≤ 1048576) : W.ownsRow base 3 1 (.slice (some ⟨g, 0, none⟩) N N) l.length (intsV l) := by
  have e : cur.size = N := by rw [← Array.length_toList, hc]; simp [intsV, hl]
  rw [hl]
  exact ⟨by simp [intsV, hl], .inr ⟨g, N, cur, rfl, hg, h, Nat.le_refl _, by unfold maxLen; omega, by omega, by rw [Nat.mul_one, List.take_of_length_le (by rw [hc]; simp [intsV, hl]), hc]⟩⟩
theorem rpc_ints (x : Int) (N : Nat) : (rpc x N N).toArray.toList = intsV (List.replicate N x) := by simp [rpc, intsV]
theorem mk_ints (N : Nat) : (madeCells #[Value.int .i64 0] N).toList = intsV (List.replicate N 0) := by rw [toList_madeCells_one]; simp [intsV]
/-- a forest is boxed -/
theorem plant_box {w W : World} {gu gs gl N : Nat} (hb : Below w.heap.size w W) (hN : N ≤ 1048576) (hu : W.heap[gu]? = some (.cells (rpc (-1) N N).toArray 3 (0, 0))) (hs : W.heap[gs]? = some (.cells (madeCells #[.int .i64 0] N) 3 (0, 0))) (hl : W.heap[gl]? = some (.cells (madeCells #[.int .i64 0] N) 3 (0, 0)))
    (d1 : w.heap.size ≤ gu) (d2 : w.heap.size ≤ gs) (d3 : w.heap.size ≤ gl) (n1 : gu ≠ gs) (n2 : gu ≠ gl) (n3 : gs ≠ gl) :
    ∃ q c, Sr w.heap.size (W.alloc (.cells #[.slice (some ⟨gu, 0, none⟩) N N, .slice (some ⟨gs, 0, none⟩) N N, .slice (some ⟨gl, 0, none⟩) N N, .slice none 0 0] 54)) W.heap.size FJ (fr (List.replicate N (-1)) (List.replicate N 0) (List.replicate N 0) []) q c ∧ Below w.heap.size w (W.alloc (.cells #[.slice (some ⟨gu, 0, none⟩) N N, .slice (some ⟨gs, 0, none⟩) N N, .slice (some ⟨gl, 0, none⟩) N N, .slice none 0 0] 54)) := by
  have lu := (Array.getElem?_eq_some_iff.1 hu).1
  have ls := (Array.getElem?_eq_some_iff.1 hs).1
  have ll := (Array.getElem?_eq_some_iff.1 hl).1
  refine ⟨fun j => if j = 0 then some ⟨gu, 0, none⟩ else if j = 1 then some ⟨gs, 0, none⟩ else if j = 2 then some ⟨gl, 0, none⟩ else none, fun j => if j = 3 then 0 else N, ⟨by simp, fun j => World.frozen?_alloc_new _ _ _ j, fun j hj => ?_, fun j hj => ?_, fun j hj => ?_, fun j hj k hk hjk => ?_⟩, hb.trans (b1.mono hb.size)⟩
  · refine cell_new W ?_
    rcases hj with _ | ⟨_, _ | ⟨_, _ | ⟨_, _ | ⟨_, h⟩⟩⟩⟩
    · simp [fr]
    · simp [fr]
    · simp [fr]
    · simp [fr]
    · cases h
  · have hold : ∀ {k o}, W.heap[k]? = some o → ∀ o', (W.alloc o').heap[k]? = some o := fun {k o} e o' => (Below.heap_alloc W o' k (Array.getElem?_eq_some_iff.1 e).1).trans e
    rcases hj with _ | ⟨_, _ | ⟨_, _ | ⟨_, _ | ⟨_, h⟩⟩⟩⟩
    · have := own_heap d1 (hold hu (.cells #[.slice (some ⟨gu, 0, none⟩) N N, .slice (some ⟨gs, 0, none⟩) N N, .slice (some ⟨gl, 0, none⟩) N N, .slice none 0 0] 54)) (rpc_ints (-1) N) (by simp) hN
      simpa [fr] using this
    · have := own_heap d2 (hold hs (.cells #[.slice (some ⟨gu, 0, none⟩) N N, .slice (some ⟨gs, 0, none⟩) N N, .slice (some ⟨gl, 0, none⟩) N N, .slice none 0 0] 54)) (mk_ints N) (by simp) hN
      simpa [fr] using this
    · have := own_heap d3 (hold hl (.cells #[.slice (some ⟨gu, 0, none⟩) N N, .slice (some ⟨gs, 0, none⟩) N N, .slice (some ⟨gl, 0, none⟩) N N, .slice none 0 0] 54)) (mk_ints N) (by simp) hN
      simpa [fr] using this
    · simpa [fr, intsV] using World.ownsRow_nil _ _ _ _
    · cases h
  · rcases hj with _ | ⟨_, _ | ⟨_, _ | ⟨_, _ | ⟨_, h⟩⟩⟩⟩
    · simp; omega
    · simp; omega
    · simp; omega
    · simp
    · cases h
  · rcases hj with _ | ⟨_, _ | ⟨_, _ | ⟨_, _ | ⟨_, h⟩⟩⟩⟩ <;> rcases hk with _ | ⟨_, _ | ⟨_, _ | ⟨_, _ | ⟨_, h'⟩⟩⟩⟩ <;> first | (exact absurd rfl hjk) | cases h | cases h' | (simp; done) | (simp; omega)
def skn (N k : Nat) : List Int := (List.range N).map fun j => if j < k then (j : Int) else 0
theorem skn_len (N k : Nat) : (skn N k).length = N := by simp [skn]
theorem skn_zero (N : Nat) : skn N 0 = List.replicate N 0 := by
  refine ext_getI (by simp [skn]) fun i hi => ?_
  rw [skn_len] at hi
  rw [rep_getI _ _ _ hi]
  unfold skn
  rw [getD_map_range _ _ _ _ hi]; rfl
theorem skn_all (N : Nat) : skn N N = (List.range N).map Int.ofNat := by
  refine ext_getI (by simp [skn]) fun i hi => ?_
  rw [skn_len] at hi
  rw [range_getI _ _ hi]
  unfold skn
  rw [getD_map_range _ _ _ _ hi, if_pos hi]
theorem skn_succ {N k : Nat} (hk : k < N) : (skn N k).set k (k : Int) = skn N (k + 1) := by
  refine ext_getI (by simp [skn]) fun i hi => ?_
  rw [List.length_set, skn_len] at hi
  rw [getD_set_i, skn_len]
  unfold skn
  rw [getD_map_range _ _ _ _ hi, getD_map_range _ _ _ _ hi]
  by_cases e : i = k
  · subst e; rw [if_pos ⟨rfl, hk⟩, if_pos (by omega)]
  · rw [if_neg (fun c => e c.1)]
    by_cases c : i < k
    · rw [if_pos c, if_pos (by omega)]
    · rw [if_neg c, if_neg (by omega)]
theorem plant_fin {w W : World} {gu gs gl N f : Nat} (hb : Below w.heap.size w W) (hN : N ≤ 1048576) (hu : W.heap[gu]? = some (.cells (rpc (-1) N N).toArray 3 (0, 0))) (hs : W.heap[gs]? = some (.cells (madeCells #[.int .i64 0] N) 3 (0, 0))) (hl : W.heap[gl]? = some (.cells (madeCells #[.int .i64 0] N) 3 (0, 0)))
    (hd : w.heap.size ≤ gu ∧ w.heap.size ≤ gs ∧ w.heap.size ≤ gl ∧ gu ≠ gs ∧ gu ≠ gl ∧ gs ≠ gl) (hf : W.heap.size = f) :
    ∃ f' q c, Value.pointer (some ⟨f, 0, none⟩) = Value.pointer (some ⟨f', 0, none⟩) ∧ w.heap.size ≤ f' ∧ Sr w.heap.size (W.alloc (.cells #[.slice (some ⟨gu, 0, none⟩) N N, .slice (some ⟨gs, 0, none⟩) N N, .slice (some ⟨gl, 0, none⟩) N N, .slice none 0 0] 54)) f' FJ (fr (List.replicate N (-1)) (List.replicate N 0) (List.replicate N 0) []) q c ∧ Below w.heap.size w (W.alloc (.cells #[.slice (some ⟨gu, 0, none⟩) N N, .slice (some ⟨gs, 0, none⟩) N N, .slice (some ⟨gl, 0, none⟩) N N, .slice none 0 0] 54)) := by
  subst hf
  obtain ⟨d1, d2, d3, n1, n2, n3⟩ := hd
  obtain ⟨q, c, h1, h2⟩ := plant_box hb hN hu hs hl d1 d2 d3 n1 n2 n3
  exact ⟨_, q, c, rfl, hb.size, h1, h2⟩
theorem below_heap {P w1 : World} (hb : Below P.heap.size P w1) {k : Nat} {o : Obj} (e : P.heap[k]? = some o) : w1.heap[k]? = some o := (hb.block k (Array.getElem?_eq_some_iff.1 e).1).trans e
set_option maxRecDepth 100000 in
set_option maxHeartbeats 4000000 in
theorem splant_any (N : Nat) (w : World) (hN : N ≤ 1048576) : Calls Try.prog 34 #[.int .i64 (N : Int)] w fun e w' => ∃ f q c, e = .returned (.pointer (some ⟨f, 0, none⟩)) ∧ w.heap.size ≤ f ∧ Sr w.heap.size w' f FJ (fr (List.replicate N (-1)) ((List.range N).map Int.ofNat) ((List.range N).map Int.ofNat) []) q c ∧ Below w.heap.size w w' := by
  have hmk := fun W => run_make_row' (P := Try.prog) 27 3 (.int .i64 0) 8 Try.underlying27 infoInt rfl .i64 .i64 N (by omega) (by omega) W
  go_enter Try.func34, Try.ntmps34
  go_wp2_with fail
  have HREP : Hid (∀ (k : Nat) (W : World), W.heap[k]? = some (.cells #[.int .i64 (-1)] 3 (0, 0)) → Calls Try.prog 25 #[.slice (some ⟨k, 0, none⟩) 1 1, .int .i64 (N : Int)] W fun e w' => ∃ g, e = .returned (.slice (some ⟨g, 0, none⟩) N N) ∧ W.heap.size ≤ g ∧ w'.heap[g]? = some (.cells (rpc (-1) N N).toArray 3 (0, 0)) ∧ Below W.heap.size W w') := Lib.hid (fun k W h => rep_any _ 1 (-1) N W hN ⟨by simp, fun i hi => ⟨k, 0, rfl, (Array.getElem?_eq_some_iff.1 h).1, by
    have : i = 0 := by simpa using hi
    subst this
    simp [World.cell?, h]⟩⟩)
  have HREP2 : Hid (∀ (k : Nat) (W : World), W.heap[k]? = some (.cells #[.int .i64 (-1)] 3 (0, 0)) → Calls Try.prog 25 #[.slice (some ⟨k, 0, none⟩) 1 1, .int .i64 (N : Int)] W.drew fun e w' => ∃ g, e = .returned (.slice (some ⟨g, 0, none⟩) N N) ∧ W.heap.size ≤ g ∧ w'.heap[g]? = some (.cells (rpc (-1) N N).toArray 3 (0, 0)) ∧ Below W.heap.size W w') := Lib.hid (fun k W h => Calls.mono (HREP.out k W.drew h) (fun e w' ⟨g, h1, h2, h3, h4⟩ => ⟨g, h1, h2, h3, ⟨h4.os, h4.tape, h4.output, h4.size, h4.block⟩⟩))
  have hn : ∀ {W : World} {k : Nat} {o : Obj}, W.heap.size = k → (W.alloc o).heap[k]? = some o := fun {W k o} e => by subst e; exact heap_new _ _
  have hk : ∀ {W : World} {k : Nat} {o : Obj}, W.heap[k]? = some o → ∀ {o' : Obj}, (W.alloc o').heap[k]? = some o := fun {W k o} e {o'} => (Below.heap_alloc W o' k (Array.getElem?_eq_some_iff.1 e).1).trans e
  go_cut [3] (fun s3 wx => ∃ f q c, s3 = .pointer (some ⟨f, 0, none⟩) ∧ w.heap.size ≤ f ∧ Sr w.heap.size wx f FJ (fr (List.replicate N (-1)) (List.replicate N 0) (List.replicate N 0) []) q c ∧ Below w.heap.size w wx)
  case first =>
    go_region_with (go_at_call 25; (with_reducible refine (HREP2.out _ _ (by first | exact hn (by simp) | exact hk (hn (by simp)) | exact hk (hk (hn (by simp))))).mono ?_); rintro e w1 ⟨gu, rfl, hgu, hu, hb⟩)
    all_goals (go_wp2_with fail; go_meet)
    all_goals
      have hlu := (Array.getElem?_eq_some_iff.1 hu).1
      have hsz := hb.size
      have hbw : Below w.heap.size w w1 := by
        first
          | exact (b1 : Below w.heap.size w _).trans (hb.mono (by simp))
          | exact ((b1 : Below w.heap.size w _).alloc (by simp) _).trans (hb.mono (by simp; omega))
          | exact (((b1 : Below w.heap.size w _).alloc (by simp) _).alloc (by simp; omega) _).trans (hb.mono (by simp; omega))
      have hbs := hbw.size
      refine plant_fin ?p1 hN ?p2 ?p3 ?p4 ?p5 ?p6
      case p1 => first | exact hbw | exact hbw.alloc hbs _ | exact (hbw.alloc hbs _).alloc (by simp; omega) _
      case p2 => first | exact hu | exact hk hu | exact hk (hk hu)
      case p3 => first | (refine hn ?_; simp; done) | (refine hk (hn ?_); simp; done) | (refine below_heap hb (hn ?_); simp; done) | (refine below_heap hb (hk (hn ?_)); simp; done) | (refine below_heap hb (hk (hk (hn ?_))); simp; done) | (refine hk (below_heap hb (hn ?_)); simp; done) | (refine hk (below_heap hb (hk (hn ?_))); simp; done)
      case p4 => first | (refine hn ?_; simp; done) | (refine hk (hn ?_); simp; done) | (refine below_heap hb (hn ?_); simp; done) | (refine below_heap hb (hk (hn ?_)); simp; done) | (refine below_heap hb (hk (hk (hn ?_))); simp; done) | (refine hk (below_heap hb (hn ?_)); simp; done) | (refine hk (below_heap hb (hk (hn ?_))); simp; done)
      case p5 => simp at hgu hsz; omega
      case p6 => simp
  case rest =>
    obtain ⟨f, q, c, rfl, hwf, hsr, hb⟩ := hcut
    have HWF := Lib.hid hwf
    obtain ⟨U, hU⟩ : ∃ U, List.replicate N (-1 : Int) = U := ⟨_, rfl⟩
    rw [hU] at hsr
    have HS := Lib.hid hsr
    have HB := Lib.hid hb
    have HFIN : Hid (∀ W q c, Sr w.heap.size W f FJ (fr U (skn N N) (skn N N) []) q c → Below w.heap.size w W → ∃ f' q c, Ending.returned (.pointer (some ⟨f, 0, none⟩)) = .returned (.pointer (some ⟨f', 0, none⟩)) ∧ w.heap.size ≤ f' ∧ Sr w.heap.size W f' FJ (fr (List.replicate N (-1)) ((List.range N).map Int.ofNat) ((List.range N).map Int.ofNat) []) q c ∧ Below w.heap.size w W) := Lib.hid (fun W q c h1 h2 => by
      rw [skn_all, ← hU] at h1
      exact ⟨f, q, c, rfl, HWF.out, h1, h2⟩)
    have HK0 := Lib.hid (skn_zero N)
    have HKS := Lib.hid (fun k (hk : k < N) => skn_succ hk)
    have HKL := Lib.hid (fun k => skn_len N k)
    generalize skn N = K at *
    clear hsr hb hwf hn hk HREP HREP2 hmk hU
    go_wp2_with fail
    go_loopw [15] (fun v wr => ∃ k : Nat, k ≤ N ∧ v = .int .i64 (k : Int) ∧ Hid (Sr w.heap.size wr f FJ (fr U (K k) (K k) []) q c) ∧ Below w.heap.size w wr) (fun v _ => N - (RowKit.intOf v).toNat)
    case atStart => exact ⟨0, Nat.zero_le _, rfl, by rw [HK0.out]; exact HS, HB.out⟩
    case round =>
      clear HS HB
      obtain ⟨k, hk, rfl, HS, hb⟩ := hrel
      have HB := Lib.hid hb
      by_cases hkN : k < N
      · have hl := HKL.out k
        obtain ⟨g1, q1, b1', l1, n1, f1, k1⟩ := HS.out.row (j := 1) (by decide) (by show 0 < (K k).length; omega)
        obtain ⟨g2, q2, b2', l2, n2, f2, k2⟩ := HS.out.row (j := 2) (by decide) (by show 0 < (K k).length; omega)
        have d1 := HS.out.clE (j := 1) (by decide) (l := K k) rfl q1 rfl hl
        have d2 := HS.out.clE (j := 2) (by decide) (l := K k) rfl q2 rfl hl
        have dl := HS.out.bl
        have c1 := k1 k (by show k < (K k).length; omega)
        have c2 := k2 k (by show k < (K k).length; omega)
        have n12 : g1 ≠ g2 := fun e => by
          rcases HS.out.ap 1 (by decide) 2 (by decide) (by decide) with d | d
          · rw [q1] at d; cases d
          · exact d (by rw [q1, q2, e])
        have HA : Hid (Sr w.heap.size ((wr.setCell ⟨g1, k, none⟩ (.int .i64 (k : Int))).setCell ⟨g2, k, none⟩ (.int .i64 (k : Int))) f FJ (fr U (K (k + 1)) (K (k + 1)) []) q c) := Lib.hid (by
          have := (HS.out.set (j := 1) (by decide) q1 k (k : Int)).set (j := 2) (by decide) q2 k (k : Int)
          rw [fr1, fr2] at this
          rw [← HKS.out k hkN]; exact this)
        have HA2 : Hid (Sr w.heap.size ((wr.setCell ⟨g2, k, none⟩ (.int .i64 (k : Int))).setCell ⟨g1, k, none⟩ (.int .i64 (k : Int))) f FJ (fr U (K (k + 1)) (K (k + 1)) []) q c) := Lib.hid (by
          have := (HS.out.set (j := 2) (by decide) q2 k (k : Int)).set (j := 1) (by decide) q1 k (k : Int)
          rw [fr2, fr1] at this
          rw [← HKS.out k hkN]; exact this)
        have HBA : Hid (Below w.heap.size w ((wr.setCell ⟨g1, k, none⟩ (.int .i64 (k : Int))).setCell ⟨g2, k, none⟩ (.int .i64 (k : Int)))) := Lib.hid ((hb.setCell (p := ⟨g1, k, none⟩) b1' _).setCell (p := ⟨g2, k, none⟩) b2' _)
        have HBA2 : Hid (Below w.heap.size w ((wr.setCell ⟨g2, k, none⟩ (.int .i64 (k : Int))).setCell ⟨g1, k, none⟩ (.int .i64 (k : Int)))) := Lib.hid ((hb.setCell (p := ⟨g2, k, none⟩) b2' _).setCell (p := ⟨g1, k, none⟩) b1' _)
        have m1 : (wr.setCell ⟨g1, k, none⟩ (.int .i64 (k : Int))).drew.cell? ⟨g2, k, none⟩ = some (.int .i64 ((fr U (K k) (K k) [] 2).getD k 0)) := (World.cell?_setCell_other _ _ _ _ (fun e => n12 (congrArg Addr.block e))).trans c2
        have m2 : (wr.setCell ⟨g2, k, none⟩ (.int .i64 (k : Int))).drew.cell? ⟨g1, k, none⟩ = some (.int .i64 ((fr U (K k) (K k) [] 1).getD k 0)) := (World.cell?_setCell_other _ _ _ _ (fun e => n12 (congrArg Addr.block e).symm)).trans c1
        have f1k := f1 k
        have f2k := f2 k
        clear hb hl k1 k2 q1 q2 f1 f2
        go_wp2_with fail
        go_region
        all_goals go_wp2_with fail
        all_goals first
          | exact ⟨⟨k + 1, by omega, rfl, Lib.hid (HA.out.next (Below.refl _ _).drew), HBA.out.drew⟩, by simp [RowKit.intOf]; omega⟩
          | exact ⟨⟨k + 1, by omega, rfl, Lib.hid (HA2.out.next (Below.refl _ _).drew), HBA2.out.drew⟩, by simp [RowKit.intOf]; omega⟩
      · obtain rfl : N = k := by omega
        clear hb
        go_wp2_with fail
        go_ret
        exact HFIN.out _ _ _ HS.out HB.out
end Go.Proofs.Ytgaacdnljkildaa
