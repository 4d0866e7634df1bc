/- Dominance: package dom's own walk: what a visit keeps. -/
import Derived.Test.YtgaacdnljkildaaLD
import Derived.Deep.RegionLaw
namespace Go.Proofs.Ytgaacdnljkildaa
open Go.RowKit
open Dm

theorem drew_grown (w : World) (n : Nat) : w.grownBy (w.drewN n) none := ⟨rfl, rfl, rfl, Nat.le_refl _, fun _ _ _ => rfl⟩
theorem drew_grown1 (w : World) : w.grownBy w.drew none := ⟨rfl, rfl, rfl, Nat.le_refl _, fun _ _ _ => rfl⟩
theorem grown_none {a b c : World} (h : a.grownBy b none) (k : b.grownBy c none) : a.grownBy c none :=
  ⟨k.os.trans h.os, k.tape.trans h.tape, k.output.trans h.output, Nat.le_trans h.size k.size, fun i hi _ => (k.block i (Nat.lt_of_lt_of_le hi h.size) (by simp)).trans (h.block i hi (by simp))⟩
theorem al_grown (w : World) (o : Obj) : w.grownBy (w.alloc o) none := below_grown b1
theorem drew_al_grown (w : World) (o : Obj) : w.grownBy (w.drew.alloc o) none := grown_none (drew_grown1 w) (al_grown _ o)
theorem al_drew_grown (w : World) (o : Obj) : w.grownBy (w.alloc o).drew none := grown_none (al_grown w o) (drew_grown1 _)
/-- numbers appended to a row of one's own, in a region that draws -/
theorem step_app_ints {w : World} {ops : Array Oper} {o : Oper} {a : Act} {K : Act → World → Prop} {Q : Exit → Act → World → Prop} {E : Prop} (hg : o.guard = none) (s x : Operand) (hop : o.op = Op.call { callee := Callee.builtin Builtin.append, args := #[s, x], argTypes := #[27, 27] }) (hty : o.type = 27)
    (base : Nat) (q : Option Addr) (xs l : List Int) (v : Value) (n c : Nat) (hn : xs.length = n) (hs : a.eval s = v) (hx : a.eval x = .slice q n c) (h1 : w.ownsRow base 3 1 v l.length (intsV l)) (hN : NumsAt .i64 w q xs) (hb : base ≤ w.heap.size) (hm : l.length + xs.length ≤ 1099511627776)
    (hK : ∀ v' w', w'.ownsRow base 3 1 v' (l ++ xs).length (intsV (l ++ xs)) → w.grownBy w' v.ownBlock → (v'.ownBlock = v.ownBlock ∨ v'.ownBlock = some w.heap.size) → K (a.put o.dst v') w') :
    if Region.wanted o (yielded ops a.tmps) = true then Oper.wp Try.prog o a w K Q else E := by
  subst hn
  have hw : Region.wanted o (yielded ops a.tmps) = true := by simp [Region.wanted, hg]
  rw [if_pos hw]
  obtain ⟨v', w', hrun, r1, r2, r3⟩ := app_ints h1 hN hb hm c
  unfold Oper.wp
  simp [execOp, hop, resolve, invoke, builtin, hs, hx, hty, hrun, Result.andThen]
  exact hK v' w' r1 r2 r3
theorem rws_bump (S : Ws) (dn : List Int) (i : Nat) (x : Int) : up1 (rws S dn) 3 ((rws S dn 3).set i x) = rws S (dn.set i x) := by
  funext k
  unfold up1 rws
  by_cases h3 : k = 3
  · subst h3; simp
  · simp [h3]
theorem rws_leave (S : Ws) (dn : List Int) (x : Nat) : up1 (rws S dn) 4 (S.left.map Int.ofNat ++ [(x : Int)]) = rws (S.leave x) dn := by
  funext k
  unfold up1 rws
  by_cases h4 : k = 4
  · subst h4; simp [Ws.leave]
  · by_cases h1 : k = 1
    · subst h1; simp [Ws.leave]
    · by_cases h2 : k = 2
      · subst h2; simp [Ws.leave]
      · by_cases h3 : k = 3
        · subst h3; simp
        · simp [h1, h2, h3, h4]
/-- a number of 'done' is written -/
theorem To.bump {w W : World} {b m g : Nat} {S : Ws} {dn : List Int} {f : Int → Option Int} {q : Nat → Option Addr} {c : Nat → Nat} (h : To w W b m S dn f q c) (hq : q 3 = some ⟨g, 0, none⟩) (i : Nat) (x : Int) : To w (W.setCell ⟨g, i, none⟩ (.int .i64 x)) b m S (dn.set i x) f q c := by
  have k := h.tm.set (j := 3) (by decide) hq i x
  have e := k.sr
  rw [rws_bump] at e
  exact ⟨k.ch, e, k.c0, k.mp, h.nf, h.bw, h.mw, h.bm⟩
theorem Tm.leave {w W : World} {b m : Nat} {S : Ws} {dn : List Int} {f : Int → Option Int} {q : Nat → Option Addr} {c : Nat → Nat} {x : Nat} (h : Tm w W b m S.nodes.length (up1 (rws S dn) 4 (S.left.map Int.ofNat ++ [(x : Int)])) f q c) (hf : NumF f S.nodes) : To w W b m (S.leave x) dn f q c := by
  rw [rws_leave] at h
  exact ⟨h.ch, h.sr, h.c0, h.mp, hf, h.bw, h.mw, h.bm⟩
/-- how far the row of number i was gone through, read off the world -/
def dnAt (W : World) (b i : Nat) : Nat := match W.cell? ⟨b, 3, none⟩ with
  | some (.slice (some a) _ _) => (match W.cell? ⟨a.block, i, none⟩ with
    | some v => (RowKit.intOf v).toNat
    | none => 0)
  | _ => 0
theorem To.dnAt {w W : World} {b m : Nat} {S : Ws} {dn : List Int} {f : Int → Option Int} {q : Nat → Option Addr} {c : Nat → Nat} (h : To w W b m S dn f q c) {i : Nat} (hi : i < dn.length) : Go.Proofs.Ytgaacdnljkildaa.dnAt W b i = (dn.getD i 0).toNat := by
  obtain ⟨g, e, _, _, _, _, hc⟩ := h.sr.row (j := 3) (by decide) (by show 0 < dn.length; omega)
  have h3 := h.sr.cl 3 (by decide)
  unfold Go.Proofs.Ytgaacdnljkildaa.dnAt
  rw [h3, e]
  have hc' := hc i hi
  simp only [hc']
  rfl
/-- left ones are fewer than met ones -/
theorem vz_left (N : Nat) (cl : Int) (su : Nat → List Int) : ∀ (f : Nat) (S : Ws) (i : Nat), (vz N cl su f S i).left.length + S.nodes.length ≤ S.left.length + (vz N cl su f S i).nodes.length + 1
  | 0, S, i => by unfold vz; omega
  | f + 1, S, i => by
    have fold : ∀ (xs : List Int) (T : Ws), (xs.foldl (vzs N cl su f i) T).left.length + T.nodes.length ≤ T.left.length + (xs.foldl (vzs N cl su f i) T).nodes.length := by
      intro xs
      induction xs with
      | nil => intro T; exact Nat.le_refl _
      | cons x xs ih =>
        intro T
        rw [List.foldl_cons]
        have h1 := ih (vzs N cl su f i T x)
        have h2 : (vzs N cl su f i T x).left.length + T.nodes.length ≤ T.left.length + (vzs N cl su f i T x).nodes.length := by
          unfold vzs
          split
          · have := vz_left N cl su f (T.meet x.toNat i) T.nodes.length
            have e : (T.meet x.toNat (i : Int)).nodes.length = T.nodes.length + 1 := by simp [Ws.meet]
            have e2 : (T.meet x.toNat (i : Int)).left = T.left := rfl
            rw [e, e2] at this
            omega
          · omega
        omega
    rw [vz_succ]
    have := fold (su (S.nodes.getD i 0)) S
    show (_ ++ [_] : List Nat).length + _ ≤ _
    simp only [List.length_append, List.length_singleton]
    show _ ≤ _ + (List.foldl (vzs N cl su f i) S (su (S.nodes.getD i 0))).nodes.length + 1
    omega
theorem fold_left (N : Nat) (cl : Int) (su : Nat → List Int) (f i : Nat) : ∀ (xs : List Int) (T : Ws), (xs.foldl (vzs N cl su f i) T).left.length + T.nodes.length ≤ T.left.length + (xs.foldl (vzs N cl su f i) T).nodes.length
  | [], T => Nat.le_refl _
  | x :: xs, T => by
    rw [List.foldl_cons]
    have h1 := fold_left N cl su f i xs (vzs N cl su f i T x)
    have h2 : (vzs N cl su f i T x).left.length + T.nodes.length ≤ T.left.length + (vzs N cl su f i T x).nodes.length := by
      unfold vzs
      split
      · have := vz_left N cl su f (T.meet x.toNat i) T.nodes.length
        have e : (T.meet x.toNat (i : Int)).nodes.length = T.nodes.length + 1 := by simp [Ws.meet]
        have e2 : (T.meet x.toNat (i : Int)).left = T.left := rfl
        rw [e, e2] at this
        omega
      · omega
    omega
/-- a state, part of a row gone through -/
structure Fs (N : Nat) (cl : Int) (S T : Ws) : Prop where
  wf : Wf N cl T
  pn : ∃ l, T.nodes = S.nodes ++ l
  lf : T.left.length + S.nodes.length ≤ S.left.length + T.nodes.length
theorem Fs.refl {N : Nat} {cl : Int} {S : Ws} (h : Wf N cl S) : Fs N cl S S := ⟨h, ⟨[], by simp⟩, Nat.le_refl _⟩
theorem Fs.step {N : Nat} {cl : Int} {su : Nat → List Int} {f i : Nat} {S T : Ws} {x : Int} (h : Fs N cl S T) (hf : N ≤ T.nodes.length + f) : Fs N cl S (vzs N cl su f i T x) := by
  have hl := fold_left N cl su f i [x] T
  have hl' : (vzs N cl su f i T x).left.length + T.nodes.length ≤ T.left.length + (vzs N cl su f i T x).nodes.length := hl
  refine ⟨?_, ?_, by have := h.lf; omega⟩
  · unfold vzs
    split
    · rename_i ho
      have hm := Wf.meet (i := (i : Int)) h.wf ho
      have e : (T.meet x.toNat (i : Int)).nodes.length = T.nodes.length + 1 := by simp [Ws.meet]
      exact (vz_len hm (by omega) (by omega)).2
    · exact h.wf
  · unfold vzs
    split
    · rename_i ho
      have hm := Wf.meet (i := (i : Int)) h.wf ho
      have e : (T.meet x.toNat (i : Int)).nodes.length = T.nodes.length + 1 := by simp [Ws.meet]
      obtain ⟨hi, k, _⟩ := vz_ok N cl su f _ T.nodes.length hm (by omega) (by omega)
      obtain ⟨l, e1⟩ := h.pn
      obtain ⟨l', e2⟩ := k.pn
      exact ⟨l ++ ([x.toNat] ++ l'), by rw [e2]; show T.nodes ++ [x.toNat] ++ l' = _; rw [e1]; simp⟩
    · exact h.pn
end Go.Proofs.Ytgaacdnljkildaa
