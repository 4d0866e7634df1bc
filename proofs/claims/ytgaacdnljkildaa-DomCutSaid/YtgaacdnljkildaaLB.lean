/- Dominance: a map of numbers of one's own; package dom's own met and meet. -/
import Derived.Test.YtgaacdnljkildaaLA
import Derived.Maps.OwnSet
import Derived.Maps.OwnOps
namespace Go.Proofs.Ytgaacdnljkildaa
open Go.RowKit
open Dm

def lit (n : Int) : Lit := .int .i64 n
theorem lit_ne {n k : Int} (h : n ≠ k) : lit n ≠ lit k := fun e => h (by injection e)
theorem lit_key (n : Int) : WideAt.IsKeyLit (lit n) := by simp [WideAt.IsKeyLit, lit]
theorem keyLaw : Maps.Keyed Try.prog 3 := Maps.int_keyed Try.underlying3
set_option maxRecDepth 100000 in
theorem zeroI (w : World) : (zeroValue 3).run Try.prog w = .ok (.int .i64 0) w := by kernel_rfl
theorem lit_wf {k : Int} (h0 : -9223372036854775808 ≤ k) (h1 : k ≤ 9223372036854775807) : (lit k).wf = true := by
  show (decide (IntKind.i64.min ≤ k) && decide (k ≤ IntKind.i64.max)) = true
  rw [show IntKind.i64.min = -9223372036854775808 from rfl, show IntKind.i64.max = 9223372036854775807 from rfl]
  simp
  omega
/-- a map in block b: at k stands what m says -/
def Mp (W : World) (b n : Nat) (m : Int → Option Int) : Prop :=
  ∃ D : DataW Unit, W.ownsMap Try.prog 3 (plainElem Try.prog 3) b n D ∧ (∀ k, Maps.has D (lit k) = (m k).isSome) ∧ ∀ k x z, m k = some x → D.atKey (lit k) z = .lit (lit x)
def mput (m : Int → Option Int) (k x : Int) : Int → Option Int := fun j => if j = k then some x else m j
theorem Mp.made (W : World) : Mp (W.alloc (.map #[] 0)) W.heap.size 0 (fun _ => none) :=
  ⟨.map [], World.ownsMap_made _ _ _ _, fun _ => rfl, fun _ _ _ h => by cases h⟩
theorem Mp.lt {W : World} {b n : Nat} {m : Int → Option Int} (h : Mp W b n m) : b < W.heap.size := by
  obtain ⟨D, h, _⟩ := h; exact h.lt
theorem Mp.mono {W : World} {b n k : Nat} {m : Int → Option Int} (h : Mp W b n m) (hn : n ≤ k) : Mp W b k m := by
  obtain ⟨D, h, r⟩ := h; exact ⟨D, h.mono hn, r⟩
theorem Mp.kept {W W' : World} {b n : Nat} {m : Int → Option Int} {row : Option Nat} (h : Mp W b n m) (hg : W.grownBy W' row) (hb : some b ≠ row) : Mp W' b n m := by
  obtain ⟨D, h, r⟩ := h; exact ⟨D, h.kept hg hb, r⟩
theorem Mp.next {W W' : World} {b n : Nat} {m : Int → Option Int} (h : Mp W b n m) (hb : Below W.heap.size W W') : Mp W' b n m := by
  obtain ⟨D, h, r⟩ := h
  have hl := h.lt
  obtain ⟨es, clock, he, F, hs, hD⟩ := h
  exact ⟨D, ⟨es, clock, (hb.block b hl).trans he, F, hs, hD⟩, r⟩
theorem Mp.other {W : World} {b n : Nat} {m : Int → Option Int} (h : Mp W b n m) {a : Addr} (ha : a.block ≠ b) (v : Value) : Mp (W.setCell a v) b n m := by
  obtain ⟨D, h, r⟩ := h
  exact ⟨D, h.setCell (fun e => ha e.symm) v, r⟩
theorem Mp.update {W : World} {b n : Nat} {m : Int → Option Int} (h : Mp W b n m) (hn : n < 1048576) {k x : Int} (hk : (lit k).wf = true) (hx : (lit x).wf = true) :
    ∃ W', (Instr.mapUpdate 32 (.map (some b)) (.int .i64 k) (.int .i64 x)).run Try.prog W = .ok () W' ∧ Mp W' b (n + 1) (mput m k x) ∧ W.grownBy W' (some b) := by
  obtain ⟨D, h, h1, h2⟩ := h
  obtain ⟨W', r, o, g⟩ := h.update keyLaw Try.underlying32 (by unfold maxLen; omega) (Maps.keyOf_int_mk Try.underlying3 hk) (plainElem_int Try.underlying3 hx)
  refine ⟨W', r, ⟨_, o, fun j => ?_, fun j y z hj => ?_⟩, g⟩
  · unfold mput
    by_cases e : j = k
    · subst e; rw [if_pos rfl]; exact Maps.has_put_same h.isMap (lit_key j) _
    · rw [if_neg e]; exact (Maps.has_put_other (lit_ne e) _).trans (h1 j)
  · unfold mput at hj
    by_cases e : j = k
    · subst e; rw [if_pos rfl] at hj; cases hj; exact Maps.atKey_put_same h.isMap (lit_key j) _ _
    · rw [if_neg e] at hj; exact (Maps.atKey_put_other (lit_ne e) _ _).trans (h2 j y z hj)
theorem wpList_mp_put {w : World} {ops : Array Oper} {rest : List Oper} {o : Oper} {a : Act} {Q : Exit → Act → World → Prop} (hg : o.guard = none) (m x v : Operand) (hop : o.op = Op.mapUpdate 32 m x v)
    (b n : Nat) (f : Int → Option Int) (k y : Int) (hm : a.eval m = .map (some b)) (hx : a.eval x = .int .i64 k) (hv : a.eval v = .int .i64 y) (h : Mp w b n f) (hn : n < 1048576) (hk : (lit k).wf = true) (hy : (lit y).wf = true)
    (hK : ∀ w', Mp w' b (n + 1) (mput f k y) → w.grownBy w' (some b) → wpList Try.prog ops Q rest (a.put o.dst undef) w') : wpList Try.prog ops Q (o :: rest) a w := by
  refine wpList_plain hg fun K' hK' => ?_
  obtain ⟨w', hrun, r1, r2⟩ := h.update hn hk hy
  unfold Oper.wp
  simp [execOp, hop, hm, hx, hv, hrun, Result.andThen]
  exact hK' _ _ (hK w' r1 r2)
/-- looked up where something stands -/
theorem wpList_mp_look {w : World} {ops : Array Oper} {rest : List Oper} {o : Oper} {a : Act} {Q : Exit → Act → World → Prop} (hg : o.guard = none) (m x : Operand) (hop : o.op = Op.lookup 32 m x false)
    (b n : Nat) (f : Int → Option Int) (k y : Int) (hm : a.eval m = .map (some b)) (hx : a.eval x = .int .i64 k) (h : Mp w b n f) (hk : (lit k).wf = true) (hy : f k = some y)
    (hK : wpList Try.prog ops Q rest (a.put o.dst (.int .i64 y)) w) : wpList Try.prog ops Q (o :: rest) a w := by
  obtain ⟨D, h, h1, h2⟩ := h
  refine wpList_lookup_own_int w hg m x 32 hop 3 3 .i64 keyLaw Try.underlying32 Try.underlying3 (zeroI w) b n D hm h (.int .i64 k) (lit k) hx (Maps.keyOf_int_mk Try.underlying3 hk) (fun c hat _ => ?_)
  have e := (h2 k y _ hy).symm.trans hat
  have e2 : y = c := by injection e with e; injection e
  rw [← e2]; exact hK
theorem wpList_mp_look_ok {w : World} {ops : Array Oper} {rest : List Oper} {o : Oper} {a : Act} {Q : Exit → Act → World → Prop} (hg : o.guard = none) (m x : Operand) (hop : o.op = Op.lookup 32 m x true)
    (b n : Nat) (f : Int → Option Int) (k y : Int) (hm : a.eval m = .map (some b)) (hx : a.eval x = .int .i64 k) (h : Mp w b n f) (hk : (lit k).wf = true) (hy : f k = some y)
    (hK : wpList Try.prog ops Q rest (a.put o.dst (.tuple #[.int .i64 y, .bool true])) w) : wpList Try.prog ops Q (o :: rest) a w := by
  obtain ⟨D, h, h1, h2⟩ := h
  refine wpList_lookup_own_ok_int w hg m x 32 hop 3 3 .i64 keyLaw Try.underlying32 Try.underlying3 (zeroI w) b n D hm h (.int .i64 k) (lit k) hx (Maps.keyOf_int_mk Try.underlying3 hk) (fun c hat _ => ?_)
  have e := (h2 k y _ hy).symm.trans hat
  have e2 : y = c := by injection e with e; injection e
  have e3 : Maps.has D (lit k) = true := by rw [h1 k, hy]; rfl
  rw [← e2, e3]; exact hK
theorem wpList_mp_look_no {w : World} {ops : Array Oper} {rest : List Oper} {o : Oper} {a : Act} {Q : Exit → Act → World → Prop} (hg : o.guard = none) (m x : Operand) (hop : o.op = Op.lookup 32 m x true)
    (b n : Nat) (f : Int → Option Int) (k : Int) (hm : a.eval m = .map (some b)) (hx : a.eval x = .int .i64 k) (h : Mp w b n f) (hk : (lit k).wf = true) (hy : f k = none)
    (hK : ∀ c : Int, wpList Try.prog ops Q rest (a.put o.dst (.tuple #[.int .i64 c, .bool false])) w) : wpList Try.prog ops Q (o :: rest) a w := by
  obtain ⟨D, h, h1, h2⟩ := h
  refine wpList_lookup_own_ok_int w hg m x 32 hop 3 3 .i64 keyLaw Try.underlying32 Try.underlying3 (zeroI w) b n D hm h (.int .i64 k) (lit k) hx (Maps.keyOf_int_mk Try.underlying3 hk) (fun c hat _ => ?_)
  have e3 : Maps.has D (lit k) = false := by rw [h1 k, hy]; rfl
  rw [e3]; exact hK c
theorem Mp.grown {W W' : World} {b n : Nat} {m : Int → Option Int} {row : Option Nat} (h : Mp W b n m) (hg : W.grownBy W' row) (hb : row ≠ some b) : Mp W' b n m := h.kept hg (fun e => hb e.symm)
/-- the numbers of nodes, as a map -/
structure NumF (f : Int → Option Int) (l : List Nat) : Prop where
  is : ∀ k, k < l.length → f ((l.getD k 0 : Nat) : Int) = some (k : Int)
  no : ∀ x, (∀ k, k < l.length → ((l.getD k 0 : Nat) : Int) ≠ x) → f x = none
theorem NumF.nil : NumF (fun _ => none) [] := ⟨fun _ hk => absurd hk (Nat.not_lt_zero _), fun _ _ => rfl⟩
theorem NumF.some_iff {f : Int → Option Int} {l : List Nat} (h : NumF f l) {x y : Int} (e : f x = some y) : ∃ k, k < l.length ∧ ((l.getD k 0 : Nat) : Int) = x ∧ y = (k : Int) := by
  by_cases c : ∃ k, k < l.length ∧ ((l.getD k 0 : Nat) : Int) = x
  · obtain ⟨k, hk, rfl⟩ := c
    rw [h.is k hk] at e
    injection e with e
    exact ⟨k, hk, rfl, e.symm⟩
  · rw [h.no x (fun k hk e2 => c ⟨k, hk, e2⟩)] at e; cases e
theorem NumF.meet {f : Int → Option Int} {l : List Nat} (h : NumF f l) {x : Nat} (hx : x ∉ l) : NumF (mput f (x : Int) (l.length : Int)) (l ++ [x]) := by
  refine ⟨fun k hk => ?_, fun y hy => ?_⟩
  · unfold mput
    by_cases c : k < l.length
    · rw [getD_app_l _ _ _ c, if_neg, h.is k c]
      intro e
      have : l.getD k 0 = x := by omega
      exact hx (by rw [← this]; exact getD_memN c)
    · have : k = l.length := by simp at hk; omega
      subst this
      rw [getD_app_e, if_pos rfl]
  · unfold mput
    rw [if_neg, h.no y (fun k hk => by
      have := hy k (by simp; omega)
      rwa [getD_app_l _ _ _ hk] at this)]
    intro e
    have := hy l.length (by simp)
    rw [getD_app_e] at this
    exact this e.symm
/-- the rows of a tour -/
def rws (S : Ws) (dn : List Int) : Nat → List Int := fun j => if j = 1 then S.nodes.map Int.ofNat else if j = 2 then S.frm else if j = 3 then dn else if j = 4 then S.left.map Int.ofNat else []
abbrev TJ : List Nat := [1, 2, 3, 4]
/-- a tour in block b, its map in block m; w: what was there ahead of it -/
structure To (w W : World) (b m : Nat) (S : Ws) (dn : List Int) (f : Int → Option Int) (q : Nat → Option Addr) (c : Nat → Nat) : Prop where
  ch : Chg w.heap.size (fun k => k = b ∨ k = m) w W
  sr : Sr w.heap.size W b TJ (rws S dn) q c
  c0 : W.cell? ⟨b, 0, none⟩ = some (.map (some m))
  mp : Mp W m S.nodes.length f
  nf : NumF f S.nodes
  bw : b < w.heap.size
  mw : m < w.heap.size
  bm : m ≠ b
theorem To.grown {w W W' : World} {b m : Nat} {S : Ws} {dn : List Int} {f : Int → Option Int} {q : Nat → Option Addr} {c : Nat → Nat} (h : To w W b m S dn f q c) (hg : W.grownBy W' none) : To w W' b m S dn f q c :=
  ⟨h.ch.grown hg h.ch.size (fun k e => by cases e), h.sr.grown hg (by simp) (fun _ _ _ e => by cases e), hg.cell h.c0 (by simp), h.mp.grown hg (by simp), h.nf, h.bw, h.mw, h.bm⟩
theorem To.next {w W W' : World} {b m : Nat} {S : Ws} {dn : List Int} {f : Int → Option Int} {q : Nat → Option Addr} {c : Nat → Nat} (h : To w W b m S dn f q c) (hb : Below W.heap.size W W') : To w W' b m S dn f q c := h.grown (below_grown hb)
theorem To.mz {w W : World} {b m : Nat} {S : Ws} {dn : List Int} {f : Int → Option Int} {q : Nat → Option Addr} {c : Nat → Nat} (h : To w W b m S dn f q c) : ∀ j ∈ TJ, ∀ k, (q j).map Addr.block = some k → k ≠ m ∧ k ≠ b := fun j hj k hk => by
  have := (h.sr.blk hj hk).1
  have := h.mw
  have := h.bw
  omega
/-- the map is written -/
theorem To.num {w W W' : World} {b m : Nat} {S : Ws} {dn : List Int} {f : Int → Option Int} {q : Nat → Option Addr} {c : Nat → Nat} (h : To w W b m S dn f q c) (hg : W.grownBy W' (some m)) : Chg w.heap.size (fun k => k = b ∨ k = m) w W' ∧ Sr w.heap.size W' b TJ (rws S dn) q c ∧ W'.cell? ⟨b, 0, none⟩ = some (.map (some m)) :=
  ⟨h.ch.grown hg h.ch.size (fun k e => by injection e with e; exact .inr (.inr e.symm)), h.sr.grown hg (fun e => by injection e with e; exact h.bm e) (fun j hj k e e2 => by injection e with e; exact (h.mz j hj k e2).1 e.symm), hg.cell h.c0 (fun e => by injection e with e; exact h.bm e.symm)⟩
set_option maxRecDepth 100000 in
theorem smet_any {w W : World} {b m : Nat} {S : Ws} {dn : List Int} {f : Int → Option Int} {q : Nat → Option Addr} {c : Nat → Nat} (h : To w W b m S dn f q c) (x : Int) (hx : (lit x).wf = true) : Calls Try.prog 22 #[.pointer (some ⟨b, 0, none⟩), .int .i64 x] W fun e w' => e = .returned (.bool (f x).isSome) ∧ W = w' := by
  have c0 := h.c0
  have hbl := h.sr.bl
  have HM := Lib.hid h.mp
  clear h
  cases hf : f x with
  | none =>
    go_enter Try.func22, Try.ntmps22
    go_wp2_with (at_lookup; refine wpList_mp_look_no rfl _ _ rfl m S.nodes.length f x rfl rfl HM.out hx hf ?_; intro c1)
    go_ret
    exact ⟨rfl, rfl⟩
  | some y =>
    go_enter Try.func22, Try.ntmps22
    go_wp2_with (at_lookup; refine wpList_mp_look_ok rfl _ _ rfl m S.nodes.length f x y rfl rfl HM.out hx hf ?_)
    go_ret
    exact ⟨rfl, rfl⟩
end Go.Proofs.Ytgaacdnljkildaa
