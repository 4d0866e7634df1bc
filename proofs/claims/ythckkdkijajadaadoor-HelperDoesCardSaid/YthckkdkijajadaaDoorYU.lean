/- Contracts of the document's own Do: the calls that it refuses. -/
import Derived.Test.YthckkdkijajadaaDoorMQ
namespace Go.Proofs.YthckkdkijajadaaDoor
open Go.RowKit M

/-- a world behind the first operations of the document's Do: the boxes of the layout, of what is told, and of the two spans -/
structure RdW (w W : World) (b : Nat) (ls s14 s15 : List Value) : Prop where
  below : Below w.heap.size w W
  le : w.heap.size + 1 < b
  size : b + 1 < W.heap.size
  lay : Box W w.heap.size ls
  res : Box W (w.heap.size + 1) [.int .i64 0, .slice none 0 0, .slice none 0 0]
  rd : Box W b s14
  wr : Box W (b + 1) s15
theorem RdW.next {w W W' : World} {b : Nat} {ls s14 s15 : List Value} (h : RdW w W b ls s14 s15) (hb : Below W.heap.size W W') : RdW w W' b ls s14 s15 :=
  ⟨below_next h.below hb, h.le, Nat.lt_of_lt_of_le h.size hb.size, h.lay.next hb, h.res.next hb, h.rd.next hb, h.wr.next hb⟩
theorem RdW.alloc {w W : World} {b : Nat} {ls s14 s15 : List Value} (h : RdW w W b ls s14 s15) (o : Obj) : RdW w (W.alloc o) b ls s14 s15 := h.next ((Below.refl _ _).alloc (Nat.le_refl _) o)
theorem RdW.drew {w W : World} {b : Nat} {ls s14 s15 : List Value} (h : RdW w W b ls s14 s15) : RdW w W.drew b ls s14 s15 := h.next (Below.refl _ _).drew
theorem RdW.first {w w1 : World} {ls s14 s15 : List Value} {t1 t2 t3 : TypeId} (hb : Below ((w.alloc (.cells ls.toArray t1)).alloc (.cells #[.int .i64 0, .slice none 0 0, .slice none 0 0] t2)).heap.size ((w.alloc (.cells ls.toArray t1)).alloc (.cells #[.int .i64 0, .slice none 0 0, .slice none 0 0] t2)) w1) :
    RdW w ((w1.alloc (.cells s14.toArray t3)).alloc (.cells s15.toArray t3)) w1.heap.size ls s14 s15 := by
  obtain ⟨z1, z2⟩ := two_in hb
  have b0 : Below w1.heap.size w1 ((w1.alloc (.cells s14.toArray t3)).alloc (.cells s15.toArray t3)) := ((Below.refl _ _).alloc (Nat.le_refl _) _).alloc (by simp) _
  exact ⟨below_next (below2 hb) b0, z2, by simp, (((Box.new w ls t1 rfl).alloc _).next hb).next b0, ((Box.new (w.alloc (.cells ls.toArray t1)) _ t2 (by simp)).next hb).next b0, (Box.new w1 s14 t3 rfl).alloc _, Box.new (w1.alloc (.cells s14.toArray t3)) s15 t3 (by simp)⟩
set_option maxRecDepth 100000 in
set_option maxHeartbeats 2000000 in
theorem rdo_args (c : Int) (cw : Bool) (p : Option Addr) (len cap : Nat) (mp : Option Addr) (mn mc : Nat) (n : Int) (q : Option Addr) (al cc : Nat) (sq : Option Addr) (sl sc : Nat) (w : World)
    (HSP : Hid (∀ W, Below w.heap.size w W → Calls Tryd.prog 14 #[.int .i64 n, .slice q al cc] W fun e w' => e = .returned (.tuple #[.agg #[.int .u64 0, .int .i64 0], .agg #[.int .u64 0, .int .i64 0], .bool false]) ∧ Below W.heap.size W w')) :
    Calls Tryd.prog 17 #[.agg #[.int .i64 c, .bool cw, .slice p len cap], .slice mp mn mc, .int .i64 n, .slice q al cc, .slice sq sl sc] w (DoPost 0 [] 0 [] [] 50 w) := by
  go_enter Tryd.func17, Tryd.ntmps17
  go_wp2_with (go_at_call 14; refine (HSP.out _ (below3_two w _ _)).mono ?_; rintro e w1 ⟨rfl, hb⟩; obtain ⟨hc, hf⟩ := bcell hb; obtain ⟨z1, z2⟩ := two_in hb)
  obtain ⟨y, y0, y1, y2⟩ := lay_in hb
  refine bodyPost_ret (v := .tuple #[.int .u64 0, .slice none 0 0, .agg #[.int .i64 0, .slice none 0 0, .slice none 0 0], .int .i64 50]) (by simp [results, Tryd.results17, go_sem, y0, y1, y2, z1, z2]) rfl (DoPost.bad (below_one (below_one (below_set3 (below2 hb) (Nat.le_succ _) _ _ _) _) _))
set_option maxRecDepth 100000 in
set_option maxHeartbeats 2000000 in
theorem rdo_size3 (c : Int) (cw : Bool) (p : Option Addr) (len cap : Nat) (mp : Option Addr) (mn mc : Nat) (b o : Nat) (al cc : Nat) (sq : Option Addr) (sl sc : Nat) (x0 x1 sz : Int) (w : World) (hb0 : b < w.heap.size) (hal : al ≤ 17592186044154) (hl : 2 ≤ al) (c1 : w.cell? ⟨b, o + 1, none⟩ = some (.int .u64 x1)) (hbad : x1 < 1 ∨ 64 < x1)
    (HSP : Hid (∀ W, Below w.heap.size w W → Calls Tryd.prog 14 #[.int .i64 3, .slice (some ⟨b, o, none⟩) al cc] W fun e w' => e = .returned (.tuple #[.agg #[.int .u64 x0, .int .i64 sz], .agg #[.int .u64 0, .int .i64 0], .bool true]) ∧ Below W.heap.size W w')) :
    Calls Tryd.prog 17 #[.agg #[.int .i64 c, .bool cw, .slice p len cap], .slice mp mn mc, .int .i64 3, .slice (some ⟨b, o, none⟩) al cc, .slice sq sl sc] w (DoPost 0 [] 0 [] [] 50 w) := by
  have i1 : (1 : Int) < (al : Int) := by omega
  have i1' : 1 < al := by omega
  have HC := Lib.hid c1
  clear c1
  go_enter Tryd.func17, Tryd.ntmps17
  rcases hbad with hbad | hbad
  all_goals
    go_wp2_with (go_at_call 14; refine (HSP.out _ (below3_two w _ _)).mono ?_; rintro e w1 ⟨rfl, hb⟩; have d1 := fun o1 o2 => ((below_one (below_one (below2 hb) o1) o2).cell (p := ⟨b, o + 1, none⟩) hb0).trans HC.out; obtain ⟨hc, hf⟩ := bcell hb; obtain ⟨z1, z2⟩ := two_in hb)
    obtain ⟨y, y0, y1, y2⟩ := lay_in hb
    refine bodyPost_ret (v := .tuple #[.int .u64 0, .slice none 0 0, .agg #[.int .i64 0, .slice none 0 0, .slice none 0 0], .int .i64 50]) (by simp [results, Tryd.results17, go_sem, y0, y1, y2, z1, z2]) rfl (DoPost.bad (below_one (below_one (below_set3 (below2 hb) (Nat.le_succ _) _ _ _) _) _))
set_option maxRecDepth 100000 in
set_option maxHeartbeats 2000000 in
theorem rdo_size4 (c : Int) (cw : Bool) (p : Option Addr) (len cap : Nat) (mp : Option Addr) (mn mc : Nat) (b o : Nat) (al cc : Nat) (sq : Option Addr) (sl sc : Nat) (x0 x1 sz : Int) (w : World) (hb0 : b < w.heap.size) (hal : al ≤ 17592186044154) (hl : 2 ≤ al) (c1 : w.cell? ⟨b, o + 1, none⟩ = some (.int .u64 x1)) (hbad : x1 < 1 ∨ 64 < x1)
    (HSP : Hid (∀ W, Below w.heap.size w W → Calls Tryd.prog 14 #[.int .i64 4, .slice (some ⟨b, o, none⟩) al cc] W fun e w' => e = .returned (.tuple #[.agg #[.int .u64 0, .int .i64 0], .agg #[.int .u64 x0, .int .i64 sz], .bool true]) ∧ Below W.heap.size W w')) :
    Calls Tryd.prog 17 #[.agg #[.int .i64 c, .bool cw, .slice p len cap], .slice mp mn mc, .int .i64 4, .slice (some ⟨b, o, none⟩) al cc, .slice sq sl sc] w (DoPost 0 [] 0 [] [] 50 w) := by
  have i1 : (1 : Int) < (al : Int) := by omega
  have i1' : 1 < al := by omega
  have HC := Lib.hid c1
  clear c1
  go_enter Tryd.func17, Tryd.ntmps17
  rcases hbad with hbad | hbad
  all_goals
    go_wp2_with (go_at_call 14; refine (HSP.out _ (below3_two w _ _)).mono ?_; rintro e w1 ⟨rfl, hb⟩; have d1 := fun o1 o2 => ((below_one (below_one (below2 hb) o1) o2).cell (p := ⟨b, o + 1, none⟩) hb0).trans HC.out; obtain ⟨hc, hf⟩ := bcell hb; obtain ⟨z1, z2⟩ := two_in hb)
    obtain ⟨y, y0, y1, y2⟩ := lay_in hb
    refine bodyPost_ret (v := .tuple #[.int .u64 0, .slice none 0 0, .agg #[.int .i64 0, .slice none 0 0, .slice none 0 0], .int .i64 50]) (by simp [results, Tryd.results17, go_sem, y0, y1, y2, z1, z2]) rfl (DoPost.bad (below_one (below_one (below_set3 (below2 hb) (Nat.le_succ _) _ _ _) _) _))
end Go.Proofs.YthckkdkijajadaaDoor
