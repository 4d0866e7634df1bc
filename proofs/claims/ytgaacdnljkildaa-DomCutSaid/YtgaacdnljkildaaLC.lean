/- Dominance: package dom's own meet. -/
import Derived.Test.YtgaacdnljkildaaLB
namespace Go.Proofs.Ytgaacdnljkildaa
open Go.RowKit
open Dm

/-- while a tour is changed -/
structure Tm (w W : World) (b m n : Nat) (r : Nat → List Int) (f : Int → Option Int) (q : Nat → Option Addr) (c : Nat → Nat) : Prop where
  ch : Chg w.heap.size (fun k => k = b ∨ k = m) w W
  sr : Sr w.heap.size W b TJ r q c
  c0 : W.cell? ⟨b, 0, none⟩ = some (.map (some m))
  mp : Mp W m n f
  bw : b < w.heap.size
  mw : m < w.heap.size
  bm : m ≠ b
theorem Tm.grown {w W W' : World} {b m n : Nat} {r : Nat → List Int} {f : Int → Option Int} {q : Nat → Option Addr} {c : Nat → Nat} (h : Tm w W b m n r f q c) (hg : W.grownBy W' none) : Tm w W' b m n r f q c :=
  ⟨h.ch.grown hg h.ch.size (fun k e => by cases e), h.sr.grown hg (by simp) (fun _ _ _ e => by cases e), hg.cell h.c0 (by simp), h.mp.grown hg (by simp), h.bw, h.mw, h.bm⟩
theorem Tm.al {w W : World} {b m n : Nat} {r : Nat → List Int} {f : Int → Option Int} {q : Nat → Option Addr} {c : Nat → Nat} (h : Tm w W b m n r f q c) (o : Obj) : Tm w (W.alloc o) b m n r f q c := h.grown (below_grown b1)
theorem To.tm {w W : World} {b m : Nat} {S : Ws} {dn : List Int} {f : Int → Option Int} {q : Nat → Option Addr} {c : Nat → Nat} (h : To w W b m S dn f q c) : Tm w W b m S.nodes.length (rws S dn) f q c := ⟨h.ch, h.sr, h.c0, h.mp, h.bw, h.mw, h.bm⟩
/-- the map is written -/
theorem Tm.num {w W W' : World} {b m n n' : Nat} {r : Nat → List Int} {f f' : Int → Option Int} {q : Nat → Option Addr} {c : Nat → Nat} (h : Tm w W b m n r f q c) (hg : W.grownBy W' (some m)) (hm : Mp W' m n' f') : Tm w W' b m n' r f' q c :=
  ⟨h.ch.grown hg h.ch.size (fun k e => by injection e with e; exact .inr (.inr e.symm)), h.sr.grown hg (fun e => by injection e with e; exact h.bm e) (fun j hj k e e2 => by injection e with e; have := (h.sr.blk hj e2).1; have := h.mw; omega), hg.cell h.c0 (fun e => by injection e with e; exact h.bm e.symm), hm, h.bw, h.mw, h.bm⟩
/-- a number of a row is written -/
theorem Tm.set {w W : World} {b m n g : Nat} {r : Nat → List Int} {f : Int → Option Int} {q : Nat → Option Addr} {c : Nat → Nat} (h : Tm w W b m n r f q c) {j : Nat} (hj : j ∈ TJ) (hq : q j = some ⟨g, 0, none⟩) (i : Nat) (x : Int) : Tm w (W.setCell ⟨g, i, none⟩ (.int .i64 x)) b m n (up1 r j ((r j).set i x)) f q c := by
  have hg := set_grown W ⟨g, i, none⟩ (.int .i64 x)
  have hb := h.sr.blk hj (k := g) (by rw [hq]; rfl)
  have := h.bw
  have := h.mw
  exact ⟨h.ch.grown hg h.ch.size (fun k e => by injection e with e; exact .inl (by rw [← e]; exact hb.1)), h.sr.set hj hq i x, hg.cell h.c0 (fun e => by injection e with e; have : b = g := e; omega), h.mp.grown hg (fun e => by injection e with e; have : g = m := e; omega), h.bw, h.mw, h.bm⟩
/-- between an append and its store -/
theorem Tm.mid0 {w W W' : World} {b m n l : Nat} {r : Nat → List Int} {f : Int → Option Int} {q : Nat → Option Addr} {c : Nat → Nat} (h : Tm w W b m n r f q c) {j : Nat} (hj : j ∈ TJ) (hg : W.grownBy W' (Value.slice (q j) l (c j)).ownBlock) : (∀ k, W'.cell? ⟨b, k, none⟩ = W.cell? ⟨b, k, none⟩) ∧ (∀ k, W'.frozen? ⟨b, k, none⟩ = false) ∧ b < W'.heap.size := by
  rw [own_blk] at hg
  have e := hg.block b h.sr.bl (fun e => h.sr.ne j hj e.symm)
  exact ⟨fun k => World.cell?_of_block (a := ⟨b, k, none⟩) e, fun k => (World.frozen?_of_block (a := ⟨b, k, none⟩) e).trans (h.sr.fz k), Nat.lt_of_lt_of_le h.sr.bl hg.size⟩
theorem Tm.mid {w W W' : World} {b m n l : Nat} {r : Nat → List Int} {f : Int → Option Int} {q : Nat → Option Addr} {c : Nat → Nat} (h : Tm w W b m n r f q c) {j : Nat} (hj : j ∈ TJ) {o : Obj} (hg : (W.alloc o).grownBy W' (Value.slice (q j) l (c j)).ownBlock) : (∀ k, W'.cell? ⟨b, k, none⟩ = W.cell? ⟨b, k, none⟩) ∧ (∀ k, W'.frozen? ⟨b, k, none⟩ = false) ∧ b < W'.heap.size := by
  obtain ⟨h1, h2, h3⟩ := (h.al o).mid0 hj hg
  have e2 : (W.alloc o).heap[b]? = W.heap[b]? := (below_grown (b1 (w := W) (o := o))).block b h.sr.bl (by simp)
  exact ⟨fun k => (h1 k).trans (World.cell?_of_block (a := ⟨b, k, none⟩) e2), h2, h3⟩
theorem Tm.chg0 {w W W' : World} {b m n l : Nat} {r : Nat → List Int} {f : Int → Option Int} {q : Nat → Option Addr} {c : Nat → Nat} (h : Tm w W b m n r f q c) {j : Nat} (hj : j ∈ TJ) (hg : W.grownBy W' (Value.slice (q j) l (c j)).ownBlock) : Chg w.heap.size (fun k => k = b ∨ k = m) w W' := by
  rw [own_blk] at hg
  exact h.ch.grown hg h.ch.size (fun k e => .inl (h.sr.blk hj e).1)
theorem Tm.oth0 {w W W' : World} {b m n l g : Nat} {r : Nat → List Int} {f : Int → Option Int} {q : Nat → Option Addr} {c : Nat → Nat} (h : Tm w W b m n r f q c) {j k : Nat} (hj : j ∈ TJ) (hk : k ∈ TJ) (hkj : k ≠ j) (hq : q k = some ⟨g, 0, none⟩) (hg : W.grownBy W' (Value.slice (q j) l (c j)).ownBlock) (o : Nat) : W'.cell? ⟨g, o, none⟩ = W.cell? ⟨g, o, none⟩ := by
  rw [own_blk] at hg
  have hb := h.sr.blk hk (k := g) (by rw [hq]; rfl)
  refine World.cell?_of_block (a := ⟨g, o, none⟩) (hg.block g hb.2 (fun e => ?_))
  rcases h.sr.ap k hk j hj hkj with d | d
  · rw [hq] at d; cases d
  · exact d (by rw [← e, hq]; rfl)
/-- a row has grown -/
theorem Tm.app0 {w W W' : World} {b m n l k' c' : Nat} {r : Nat → List Int} {f : Int → Option Int} {q : Nat → Option Addr} {c : Nat → Nat} {q' : Option Addr} {L : List Int} (h1 : Tm w W b m n r f q c) {j : Nat} (hj : j ∈ TJ) (ho : W'.ownsRow w.heap.size 3 1 (.slice q' k' c') k' (intsV L)) (hk : L.length = k')
    (hg : W.grownBy W' (Value.slice (q j) l (c j)).ownBlock) (hb : (Value.slice q' k' c').ownBlock = (Value.slice (q j) l (c j)).ownBlock ∨ (Value.slice q' k' c').ownBlock = some W.heap.size) :
    Tm w (W'.setCell ⟨b, j, none⟩ (.slice q' k' c')) b m n (up1 r j L) f (up1 q j q') (up1 c j c') := by
  have hs := h1.sr.app hj (by rw [hk]; exact ho) hk.symm hg hb
  have hch := app_chg h1.sr hj hg h1.ch h1.ch.size (fun k hk => .inl hk) (.inr (.inl rfl)) (.slice q' k' c')
  have hbw := h1.bw
  have hmw := h1.mw
  have hmid := h1.mid0 hj hg
  rw [own_blk] at hg
  have hne : ∀ k, (q j).map Addr.block = some k → w.heap.size ≤ k := fun k e => (h1.sr.blk hj e).1
  refine ⟨hch, hs, ?_, ?_, hbw, hmw, h1.bm⟩
  · refine (World.cell?_setCell_other _ _ _ _ (fun e => ?_)).trans ((hmid.1 0).trans h1.c0)
    have : j = 0 := congrArg Addr.off e
    subst this; exact absurd hj (by decide)
  · exact ((h1.mp.grown hg (fun e => by have := hne m e; omega))).other (a := ⟨b, j, none⟩) (fun e => h1.bm e.symm) _
theorem Tm.app {w W W' : World} {b m n l k' c' : Nat} {r : Nat → List Int} {f : Int → Option Int} {q : Nat → Option Addr} {c : Nat → Nat} {q' : Option Addr} {L : List Int} (h : Tm w W b m n r f q c) {j : Nat} (hj : j ∈ TJ) {o : Obj} (ho : W'.ownsRow w.heap.size 3 1 (.slice q' k' c') k' (intsV L)) (hk : L.length = k')
    (hg : (W.alloc o).grownBy W' (Value.slice (q j) l (c j)).ownBlock) (hb : (Value.slice q' k' c').ownBlock = (Value.slice (q j) l (c j)).ownBlock ∨ (Value.slice q' k' c').ownBlock = some (W.alloc o).heap.size) :
    Tm w (W'.setCell ⟨b, j, none⟩ (.slice q' k' c')) b m n (up1 r j L) f (up1 q j q') (up1 c j c') := (h.al o).app0 hj ho hk hg hb
/-- what meet answers -/
def MeetQ (w : World) (b m : Nat) (S : Ws) (dn : List Int) (x : Nat) (i : Int) (e : Ending) (w' : World) : Prop :=
  e = .returned (.int .i64 (S.nodes.length : Int)) ∧ ∃ f q c, To w w' b m (S.meet x i) (dn ++ [0]) f q c
theorem rws_meet (S : Ws) (dn : List Int) (x : Nat) (i : Int) : up1 (up1 (up1 (rws S dn) 1 (S.nodes.map Int.ofNat ++ [(x : Int)])) 2 (S.frm ++ [i])) 3 (dn ++ [0]) = rws (S.meet x i) (dn ++ [0]) := by
  funext k
  unfold up1 rws
  by_cases h1 : k = 1
  · subst h1; simp [Ws.meet]
  · by_cases h2 : k = 2
    · subst h2; simp [Ws.meet]
    · by_cases h3 : k = 3
      · subst h3; simp
      · by_cases h4 : k = 4
        · subst h4; simp [Ws.meet]
        · simp [h1, h2, h3, h4]
set_option maxRecDepth 100000 in
set_option maxHeartbeats 2000000 in
theorem smeet_any {w W : World} {b m : Nat} {S : Ws} {dn : List Int} {f : Int → Option Int} {q : Nat → Option Addr} {c : Nat → Nat} (h : To w W b m S dn f q c) (x : Nat) (i : Int) (hx : x ∉ S.nodes) (hx2 : x < 1048576) (hl1 : S.frm.length = S.nodes.length) (hl2 : dn.length = S.nodes.length) (hl : S.nodes.length < 1048576) :
    Calls Try.prog 33 #[.pointer (some ⟨b, 0, none⟩), .int .i64 (x : Int), .int .i64 i] W (MeetQ w b m S dn x i) := by
  have HQ : Hid (∀ W q c, Tm w W b m (S.nodes.length + 1) (up1 (up1 (up1 (rws S dn) 1 (S.nodes.map Int.ofNat ++ [(x : Int)])) 2 (S.frm ++ [i])) 3 (dn ++ [0])) (mput f (x : Int) (S.nodes.length : Int)) q c → MeetQ w b m S dn x i (.returned (.int .i64 (S.nodes.length : Int))) W) := Lib.hid (fun W q c h1 => by
    rw [rws_meet] at h1
    exact ⟨rfl, _, q, c, h1.ch, h1.sr, h1.c0, by simpa [Ws.meet] using h1.mp, h.nf.meet hx, h.bw, h.mw, h.bm⟩)
  generalize MeetQ w b m S dn x i = Q at *
  have H := Lib.hid h.tm
  have HB := Lib.hid (show w.heap.size ≤ W.heap.size from h.ch.size)
  have c0 := h.c0
  have c1 := h.sr.clE (j := 1) (by decide) (l := S.nodes.map Int.ofNat) rfl rfl rfl (List.length_map ..)
  have bl := h.sr.bl
  obtain ⟨n, hn⟩ : ∃ n, S.nodes.length = n := ⟨_, rfl⟩
  have HN : Hid (S.nodes.length = n ∧ S.frm.length = n ∧ dn.length = n ∧ (S.nodes.map Int.ofNat).length = n ∧ (S.nodes.map Int.ofNat ++ [(x : Int)]).length = n + 1 ∧ (S.frm ++ [i]).length = n + 1 ∧ (dn ++ [0]).length = n + 1) := Lib.hid ⟨hn, hl1.trans hn, hl2.trans hn, (List.length_map ..).trans hn, by simp [hn], by simp [hl1, hn], by simp [hl2, hn]⟩
  rw [hn] at hl hl1 hl2 c1 HQ H
  have HN9 := Lib.hid (fun (x : Int) (W : World) k (e : k = W.heap.size) => e ▸ nums_new (k := .i64) W 3 [x] #[.int .i64 x] rfl (by simp))
  clear h hn hl1 hl2
  go_enter Try.func33, Try.ntmps33
  have HX := Lib.hid True.intro
  go_wp2_with (first
    | (at_mapUpdate; refine wpList_mp_put rfl (.tmp 16) (.tmp 17) (.tmp 18) rfl m n f (x : Int) (n : Int) rfl rfl rfl H.out.mp (by omega) (lit_wf (by omega) (by omega)) (lit_wf (by omega) (by omega)) ?_; intro w1 hm1 hg1; have HX' := Lib.hid (H.out.num hg1 hm1); clear HX; have HX := HX'; clear HX'; have c1 := HX.out.sr.clE (j := 1) (by decide) (l := S.nodes.map Int.ofNat) rfl rfl rfl HN.out.2.2.2.1; have bl := HX.out.sr.bl; have fz := HX.out.sr.fz 1; clear hm1 hg1)
    | (at_builtin; refine wpList_app_ints rfl (.tmp 23) (.tmp 25) rfl rfl w.heap.size _ [(x : Int)] (S.nodes.map Int.ofNat) (.slice (q 1) n (c 1)) 1 1 rfl rfl rfl ((HX.out.al _).sr.ownE (j := 1) (by decide) rfl rfl rfl HN.out.2.2.2.1.symm) (HN9.out _ _ _ (by simp)) (HX.out.al _).ch.size (by have := HN.out.1; simp; omega) ?_; intro v8 w8 ho8 hg8 hb8; rw [HN.out.2.2.2.2.1] at ho8; obtain ⟨q8, c8, rfl⟩ := own_form ho8; have HY := Lib.hid (HX.out.app (j := 1) (by decide) ho8 HN.out.2.2.2.2.1 hg8 hb8); obtain ⟨e1, fz, bl⟩ := HX.out.mid (j := 1) (by decide) hg8; have c1 := (e1 1).trans (HX.out.sr.clE (j := 1) (by decide) (l := S.nodes.map Int.ofNat) rfl rfl rfl HN.out.2.2.2.1); have c2 := (e1 2).trans (HX.out.sr.clE (j := 2) (by decide) (l := S.frm) rfl rfl rfl HN.out.2.1); clear HX e1 ho8 hg8 hb8)
    | (at_builtin; refine wpList_app_ints rfl (.tmp 33) (.tmp 35) rfl rfl w.heap.size _ [i] S.frm (.slice (q 2) n (c 2)) 1 1 rfl rfl rfl ((HY.out.al _).sr.ownE (j := 2) (by decide) rfl rfl rfl HN.out.2.1.symm) (HN9.out _ _ _ (by simp [World.setCell])) (HY.out.al _).ch.size (by have := HN.out.2.1; simp; omega) ?_; intro v9 w9 ho8 hg8 hb8; rw [HN.out.2.2.2.2.2.1] at ho8; obtain ⟨q9, c9, rfl⟩ := own_form ho8; have HZ := Lib.hid (HY.out.app (j := 2) (by decide) ho8 HN.out.2.2.2.2.2.1 hg8 hb8); obtain ⟨e1, fz', bl'⟩ := HY.out.mid (j := 2) (by decide) hg8; have c2' := (e1 2).trans (HY.out.sr.clE (j := 2) (by decide) (l := S.frm) rfl rfl rfl HN.out.2.1); have c3 := (e1 3).trans (HY.out.sr.clE (j := 3) (by decide) (l := dn) rfl rfl rfl HN.out.2.2.1); clear HY e1 ho8 hg8 hb8)
    | (at_builtin; refine wpList_app_ints rfl (.tmp 43) (.tmp 44) rfl rfl w.heap.size _ [0] dn (.slice (q 3) n (c 3)) 1 1 rfl rfl rfl ((HZ.out.al _).sr.ownE (j := 3) (by decide) rfl rfl rfl HN.out.2.2.1.symm) (HN9.out _ _ _ (by simp [World.setCell])) (HZ.out.al _).ch.size (by have := HN.out.2.2.1; simp; omega) ?_; intro v7 w7 ho8 hg8 hb8; rw [HN.out.2.2.2.2.2.2] at ho8; obtain ⟨q7, c7, rfl⟩ := own_form ho8; have HV := Lib.hid (HZ.out.app (j := 3) (by decide) ho8 HN.out.2.2.2.2.2.2 hg8 hb8); obtain ⟨e1, fz3, bl3⟩ := HZ.out.mid (j := 3) (by decide) hg8; have c3' := (e1 3).trans (HZ.out.sr.clE (j := 3) (by decide) (l := dn) rfl rfl rfl HN.out.2.2.1); clear HZ e1 ho8 hg8 hb8))
  exact HQ.out _ _ _ HV.out
end Go.Proofs.Ytgaacdnljkildaa
