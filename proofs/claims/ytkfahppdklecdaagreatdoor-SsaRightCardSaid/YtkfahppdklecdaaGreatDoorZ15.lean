import Derived.Test.YtkfahppdklecdaaGreatDoorZ13
import Derived.Maps.OwnSet
import Derived.Maps.OwnOps
import Derived.Deep.RegionLaw
set_option maxRecDepth 100000
set_option maxHeartbeats 16000000
namespace Go.Proofs.YtkfahppdklecdaaGreatDoor.J
open Go.RowKit
open Dm
theorem below_grown{W W':World}(h:Below W.heap.size W W'):W.grownBy W' none:=⟨h.os,h.tape,h.output,h.size,λ k hk _=>h.block k hk⟩
theorem bC(W:World)(a:Addr)(v:Value):W.grownBy (W.setCell a v) (some a.block) :=
 ⟨rfl,rfl,rfl,by simp[World.setCell],λ k _ hk=>Below.heap_setCell W a v k (λ e=>hk (by rw[e]))⟩
structure Chg(B:Nat)(X:Nat->Prop)(w W:World):Prop where
 os:W.os=w.os
 tape:W.tape=w.tape
 output:W.output=w.output
 size:w.heap.size<=W.heap.size
 block:∀ k,k<B->¬ X k->W.heap[k]?=w.heap[k]?
theorem Chg.refl(B:Nat)(X:Nat->Prop)(w:World):Chg B X w w:=⟨rfl,rfl,rfl,Nat.le_refl _,λ _ _ _=>rfl⟩
theorem Chg.grown{B:Nat}{X:Nat->Prop}{w W W':World}{row:Option Nat}(h:Chg B X w W)(hg:W.grownBy W' row)(hB:B<=W.heap.size)(hr:∀ k,row=some k->B<=k∨X k):Chg B X w W':=by
 refine⟨hg.os.trans h.os,hg.tape.trans h.tape,hg.output.trans h.output,Nat.le_trans h.size hg.size,λ k hk hx=>(hg.block k (by omega) (λ e=>?_)).trans (h.block k hk hx)⟩;rcases hr k e.symm with c|c
 ·omega
 ·exact hx c
theorem Chg.trans{B:Nat}{X:Nat->Prop}{a b c:World}(h:Chg B X a b)(k:Chg B X b c):Chg B X a c :=
 ⟨k.os.trans h.os,k.tape.trans h.tape,k.output.trans h.output,Nat.le_trans h.size k.size,λ i hi hx=>(k.block i hi hx).trans (h.block i hi hx)⟩
theorem Chg.below{B:Nat}{X:Nat->Prop}{w W:World}(h:Chg B X w W){A:Nat}(hA:A<=B)(hX:∀ k,X k->A<=k):Below A w W :=
 ⟨h.os,h.tape,h.output,h.size,λ k hk=>h.block k (by omega) (λ c=>by have:=hX k c;omega)⟩
theorem Chg.cell{B:Nat}{X:Nat->Prop}{w W:World}(h:Chg B X w W){k:Nat}(hk:k<B)(hx:¬ X k)(o:Nat):W.cell? ⟨k,o,none⟩=w.cell? ⟨k,o,none⟩:=World.cell?_of_block (a:=⟨k,o,none⟩) (h.block k hk hx)
theorem Chg.fz{B:Nat}{X:Nat->Prop}{w W:World}(h:Chg B X w W){k:Nat}(hk:k<B)(hx:¬ X k)(o:Nat):W.frozen? ⟨k,o,none⟩=w.frozen? ⟨k,o,none⟩:=World.frozen?_of_block (a:=⟨k,o,none⟩) (h.block k hk hx)
structure Sr(base:Nat)(W:World)(b:Nat)(js:List Nat)(r:Nat->List Int)(q:Nat->Option Addr)(c:Nat->Nat):Prop where
 bl:b<W.heap.size
 fz:∀ j,W.frozen? ⟨b,j,none⟩=false
 cl:∀ j∈js,W.cell? ⟨b,j,none⟩=some (.slice (q j) (r j).length (c j))
 own:∀ j∈js,W.ownsRow base 3 1 (.slice (q j) (r j).length (c j)) (r j).length (aX (r j))
 ne:∀ j∈js,(q j).map Addr.block≠some b
 ap:∀ j∈js,∀ k∈js,j≠k->q j=none∨(q j).map Addr.block≠(q k).map Addr.block
def up1{α:Type}(r:Nat->α)(j:Nat)(v:α):Nat->α:=λ k=>if k=j then v else r k
theorem cC{α:Type}(r:Nat->α)(j:Nat)(v:α):up1 r j v j=v:=if_pos rfl
theorem bW{α:Type}(r:Nat->α)(j:Nat)(v:α){k:Nat}(h:k≠j):up1 r j v k=r k:=if_neg h
theorem Sr.grown{base b:Nat}{W W':World}{js:List Nat}{r:Nat->List Int}{q:Nat->Option Addr}{c:Nat->Nat}{row:Option Nat}(h:Sr base W b js r q c)(hg:W.grownBy W' row)(h1:row≠some b)(h2:∀ j∈js,∀ k,row=some k->(q j).map Addr.block≠some k):Sr base W' b js r q c:=by
 have hb:=hg.block b h.bl (λ e=>h1 e.symm);refine⟨Nat.lt_of_lt_of_le h.bl hg.size,λ j=>(World.frozen?_of_block (a:=⟨b,j,none⟩) hb).trans (h.fz j),λ j hj=>(World.cell?_of_block (a:=⟨b,j,none⟩) hb).trans (h.cl j hj),λ j hj=>(h.own j hj).kept hg ?_,h.ne,h.ap⟩;rw[aH];cases hq:(q j).map Addr.block with
 | none=>exact .inl rfl
 | some k=>exact .inr (λ e=>h2 j hj k e.symm hq)
theorem Sr.next{base b:Nat}{W W':World}{js:List Nat}{r:Nat->List Int}{q:Nat->Option Addr}{c:Nat->Nat}(h:Sr base W b js r q c)(hb:Below W.heap.size W W'):Sr base W' b js r q c :=
 h.grown (below_grown hb) (by simp) (λ _ _ _ e=>by cases e)
theorem Sr.nums{base b:Nat}{W:World}{js:List Nat}{r:Nat->List Int}{q:Nat->Option Addr}{c:Nat->Nat}(h:Sr base W b js r q c){j:Nat}(hj:j∈js)(hs:(r j).length<=140737488351232):NumsAt .i64 W (q j) (r j):=cA (h.own j hj) hs
theorem Sr.blk{base b:Nat}{W:World}{js:List Nat}{r:Nat->List Int}{q:Nat->Option Addr}{c:Nat->Nat}(h:Sr base W b js r q c){j k:Nat}(hj:j∈js)(hk:(q j).map Addr.block=some k):base<=k/\k<W.heap.size:=(h.own j hj).lt k (by rw[aH];exact hk)
theorem Sr.row{base b:Nat}{W:World}{js:List Nat}{r:Nat->List Int}{q:Nat->Option Addr}{c:Nat->Nat}(h:Sr base W b js r q c){j:Nat}(hj:j∈js)(hi:0<(r j).length) :
  ∃ g,q j=some ⟨g,0,none⟩/\base<=g/\g<W.heap.size/\g≠b/\(∀ o,W.frozen? ⟨g,o,none⟩=false)/\∀ i,i<(r j).length->W.cell? ⟨g,i,none⟩=some (.int .i64 ((r j).getD i 0)):=by
 have ho:=h.own j hj;obtain⟨g,cap,e,hb,hgl⟩:=dZ ho hi;injection e with e1 e2 e3
 have hne:g≠b:=λ e=>h.ne j hj (by rw[e1,e];rfl)
 rw[e1]at ho;exact⟨g,e1,hb,hgl,hne,λ o=>ho.frozenAt o,λ i hi=>by rw[ho.cellAt i (by omega)];exact cD hi⟩
theorem intsV_set(l:List Int)(i:Nat)(x:Int):(aX l).set i (.int .i64 x)=aX (l.set i x):=by
 unfold aX;rw[List.map_set]
theorem Sr.set{base b g:Nat}{W:World}{js:List Nat}{r:Nat->List Int}{q:Nat->Option Addr}{c:Nat->Nat}(h:Sr base W b js r q c){j:Nat}(hj:j∈js)(hq:q j=some ⟨g,0,none⟩)(i:Nat)(x:Int) :
  Sr base (W.setCell ⟨g,i,none⟩ (.int .i64 x)) b js (up1 r j ((r j).set i x)) q c:=by
 have hne:g≠b:=λ e=>h.ne j hj (by rw[hq,e];rfl)
 have hl:∀ k,(up1 r j ((r j).set i x) k).length=(r k).length:=λ k=>by unfold up1;split <;> simp_all
 refine⟨by simpa[World.setCell]using h.bl,λ o=>(World.frozen?_setCell ..).trans (h.fz o),λ k hk=>?_,λ k hk=>?_,h.ne,h.ap⟩
 ·rw[hl]
  exact(World.cell?_setCell_other _ _ _ _ (λ e=>hne (congrArg Addr.block e))).trans (h.cl k hk)
 ·rw[hl]
  by_cases e:k=j
  ·subst e
   rw[cC,hq,<- intsV_set];have ho:=h.own k hk;rw[hq]at ho;exact(ho.stored i _).1
  ·rw[bW _ _ _ e]
   refine aP (a:=⟨g,i,none⟩) (h.own k hk) ?_;rw[aH];intro e2;rcases h.ap k hk j hj e with d|d
   ·rw[d]at e2;cases e2
   ·exact d (by rw[e2,hq];rfl)
theorem Sr.ownE{base b:Nat}{W:World}{js:List Nat}{r:Nat->List Int}{q:Nat->Option Addr}{c:Nat->Nat}(h:Sr base W b js r q c){j:Nat}(hj:j∈js){l:List Int}{qq:Option Addr}{n cc:Nat}(e1:r j=l)(e2:q j=qq)(e3:c j=cc)(hn:n=l.length):W.ownsRow base 3 1 (.slice qq n cc) l.length (aX l):=by
 subst e1 e2 e3 hn;exact h.own j hj
theorem Sr.clE{base b:Nat}{W:World}{js:List Nat}{r:Nat->List Int}{q:Nat->Option Addr}{c:Nat->Nat}(h:Sr base W b js r q c){j:Nat}(hj:j∈js){l:List Int}{qq:Option Addr}{n cc:Nat}(e1:r j=l)(e2:q j=qq)(e3:c j=cc)(hn:l.length=n):W.cell? ⟨b,j,none⟩=some (.slice qq n cc):=by
 subst e1 e2 e3 hn;exact h.cl j hj
theorem Sr.mid{base b n:Nat}{W W':World}{js:List Nat}{r:Nat->List Int}{q:Nat->Option Addr}{c:Nat->Nat}(h:Sr base W b js r q c){j:Nat}(hj:j∈js)(hg:W.grownBy W' (Value.slice (q j) n (c j)).ownBlock) :
  W'.cell? ⟨b,j,none⟩=some (.slice (q j) (r j).length (c j))/\W'.frozen? ⟨b,j,none⟩=false/\b<W'.heap.size:=by
 rw[aH]at hg;have hgg:=hg.block b h.bl (λ e=>h.ne j hj e.symm);exact⟨(World.cell?_of_block (a:=⟨b,j,none⟩) hgg).trans (h.cl j hj),(World.frozen?_of_block (a:=⟨b,j,none⟩) hgg).trans (h.fz j),Nat.lt_of_lt_of_le h.bl hg.size⟩
theorem Sr.app{base b n m c':Nat}{W W':World}{js:List Nat}{r:Nat->List Int}{q:Nat->Option Addr}{c:Nat->Nat}{q':Option Addr}{l:List Int}(h:Sr base W b js r q c){j:Nat}(hj:j∈js)(ho:W'.ownsRow base 3 1 (.slice q' m c') l.length (aX l))(hm:m=l.length)
  (hg:W.grownBy W' (Value.slice (q j) n (c j)).ownBlock) (hb:(Value.slice q' m c').ownBlock=(Value.slice (q j) n (c j)).ownBlock∨(Value.slice q' m c').ownBlock=some W.heap.size) :
  Sr base (W'.setCell ⟨b,j,none⟩ (.slice q' m c')) b js (up1 r j l) (up1 q j q') (up1 c j c'):=by
 subst hm;have hmid:=h.mid hj hg;rw[aH]at hg;rw[aH,aH]at hb
 have hnew:∀ k∈js,k≠j->q k=none∨(q k).map Addr.block≠q'.map Addr.block:=λ k hk hkj=>by
  rcases hb with e|e
  ·rw[e];exact h.ap k hk j hj hkj
  ·rw[e]
   refine .inr λ e2=>?_
   have:=(h.blk hk e2).2;omega
 have hne':q'.map Addr.block≠some b:=by
  rcases hb with e|e
  ·rw[e];exact h.ne j hj
  ·rw[e];intro e2;injection e2 with e2;have:=h.bl;omega
 have hgb:=hg.block b h.bl (λ e=>h.ne j hj e.symm);refine⟨by simpa[World.setCell]using hmid.2.2,λ o=>(World.frozen?_setCell ..).trans ((World.frozen?_of_block (a:=⟨b,o,none⟩) hgb).trans (h.fz o)),λ k hk=>?_,λ k hk=>?_,λ k hk=>?_,λ k hk k' hk' hkk=>?_⟩
 ·by_cases e:k=j
  ·subst e
   rw[cC,cC,cC];exact World.cell?_setCell_same _ _ _ hmid.1
  ·rw[bW _ _ _ e,bW _ _ _ e,bW _ _ _ e]
   refine(World.cell?_setCell_other _ _ _ _ (λ e2=>e ?_)).trans ((World.cell?_of_block (a:=⟨b,k,none⟩) hgb).trans (h.cl k hk));have:=congrArg Addr.off e2;simpa using this.symm
 ·by_cases e:k=j
  ·subst e
   rw[cC,cC,cC];exact aP (a:=⟨b,k,none⟩) ho (by rw[aH];exact hne')
  ·rw[bW _ _ _ e,bW _ _ _ e,bW _ _ _ e]
   refine aP (a:=⟨b,j,none⟩) ((h.own k hk).kept hg ?_) (by rw[aH];exact h.ne k hk);rw[aH];rcases h.ap k hk j hj e with d|d
   ·rw[d];exact .inl rfl
   ·exact .inr d
 ·by_cases e:k=j
  ·subst e;rw[cC];exact hne'
  ·rw[bW _ _ _ e];exact h.ne k hk
 ·by_cases e:k=j
  ·subst e
   rw[cC,bW _ _ _ (λ e=>hkk e.symm)];rcases hnew k' hk' (λ e=>hkk e.symm)with d|d
   ·cases hq':q' with
    | none=>exact .inl rfl
    | some ad=>rw[d];exact .inr (by simp)
   ·exact .inr (λ e=>d e.symm)
  ·rw[bW _ _ _ e]
   by_cases e2:k'=j
   ·subst e2;rw[cC];exact hnew k hk e
   ·rw[bW _ _ _ e2];exact h.ap k hk k' hk' hkk
theorem app_chg{base b n:Nat}{W W':World}{js:List Nat}{r:Nat->List Int}{q:Nat->Option Addr}{c:Nat->Nat}(h:Sr base W b js r q c){j:Nat}(hj:j∈js)(hg:W.grownBy W' (Value.slice (q j) n (c j)).ownBlock){B:Nat}{X:Nat->Prop}{w:World}(hc:Chg B X w W)(hB:B<=W.heap.size)(hX:∀ k,base<=k->B<=k∨X k)(hb:B<=b∨X b)(v:Value):Chg B X w (W'.setCell ⟨b,j,none⟩ v):=by
 rw[aH]at hg;exact(hc.grown hg hB (λ k e=>hX k (h.blk hj e).1)).grown (bC _ _ _) (by have:=hg.size;omega) (λ k e=>by injection e with e;rw[<- e];exact hb)
def lit(n:Int):Lit:=.int .i64 n
theorem lit_ne{n k:Int}(h:n≠k):lit n≠lit k:=λ e=>h (by injection e)
theorem lit_key(n:Int):WideAt.IsKeyLit (lit n):=by simp[WideAt.IsKeyLit,lit]
theorem keyLaw:Maps.Keyed Tryz.prog 3:=Maps.int_keyed Tryz.underlying3
theorem zeroI(w:World):(zeroValue 3).run Tryz.prog w=.ok (.int .i64 0) w:=by kernel_rfl
theorem dK{k:Int}(h0:-9223372036854775808<=k)(h1:k<=9223372036854775807):(lit k).wf=true:=by
 show(decide (IntKind.i64.min<=k) && decide (k<=IntKind.i64.max))=true;rw[show IntKind.i64.min = -9223372036854775808 from rfl,show IntKind.i64.max=9223372036854775807 from rfl];simp;omega
def Mp(W:World)(b n:Nat)(m:Int->Option Int):Prop :=
 ∃ D:DataW Unit,W.ownsMap Tryz.prog 3 (plainElem Tryz.prog 3) b n D/\(∀ k,Maps.has D (lit k)=(m k).isSome)/\∀ k x z,m k=some x->D.atKey (lit k) z=.lit (lit x)
def mput(m:Int->Option Int)(k x:Int):Int->Option Int:=λ j=>if j=k then some x else m j
theorem Mp.made(W:World):Mp (W.alloc (.map #[] 0)) W.heap.size 0 (λ _=>none) :=
 ⟨.map [],World.ownsMap_made _ _ _ _,λ _=>rfl,λ _ _ _ h=>by cases h⟩
theorem Mp.kept{W W':World}{b n:Nat}{m:Int->Option Int}{row:Option Nat}(h:Mp W b n m)(hg:W.grownBy W' row)(hb:some b≠row):Mp W' b n m:=by
 obtain⟨D,h,r⟩:=h;exact⟨D,h.kept hg hb,r⟩
theorem Mp.next{W W':World}{b n:Nat}{m:Int->Option Int}(h:Mp W b n m)(hb:Below W.heap.size W W'):Mp W' b n m:=by
 obtain⟨D,h,r⟩:=h;have hl:=h.lt;obtain⟨es,clock,he,F,hs,hD⟩:=h;exact⟨D,⟨es,clock,(hb.block b hl).trans he,F,hs,hD⟩,r⟩
theorem Mp.other{W:World}{b n:Nat}{m:Int->Option Int}(h:Mp W b n m){a:Addr}(ha:a.block≠b)(v:Value):Mp (W.setCell a v) b n m:=by
 obtain⟨D,h,r⟩:=h;exact⟨D,h.setCell (λ e=>ha e.symm) v,r⟩
theorem Mp.update{W:World}{b n:Nat}{m:Int->Option Int}(h:Mp W b n m)(hn:n<1048576){k x:Int}(hk:(lit k).wf=true)(hx:(lit x).wf=true) :
  ∃ W',(Instr.mapUpdate 124 (.map (some b)) (.int .i64 k) (.int .i64 x)).run Tryz.prog W=.ok () W'/\Mp W' b (n+1) (mput m k x)/\W.grownBy W' (some b):=by
 obtain⟨D,h,h1,h2⟩:=h;obtain⟨W',r,o,g⟩:=h.update keyLaw Tryz.underlying124 (by unfold maxLen;omega) (Maps.keyOf_int_mk Tryz.underlying3 hk) (plainElem_int Tryz.underlying3 hx);refine⟨W',r,⟨_,o,λ j=>?_,λ j y z hj=>?_⟩,g⟩
 ·unfold mput
  by_cases e:j=k
  ·subst e;rw[if_pos rfl];exact Maps.has_put_same h.isMap (lit_key j) _
  ·rw[if_neg e];exact(Maps.has_put_other (lit_ne e) _).trans (h1 j)
 ·unfold mput at hj
  by_cases e:j=k
  ·subst e;rw[if_pos rfl]at hj;cases hj;exact Maps.atKey_put_same h.isMap (lit_key j) _ _
  ·rw[if_neg e]at hj;exact(Maps.atKey_put_other (lit_ne e) _ _).trans (h2 j y z hj)
theorem eT{w:World}{ops:Array Oper}{rest:List Oper}{o:Oper}{a:Act}{Q:Exit->Act->World->Prop}(hg:o.guard=none)(m x v:Operand)(hop:o.op=Op.mapUpdate 124 m x v)
  (b n:Nat) (f:Int->Option Int) (k y:Int) (hm:a.eval m=.map (some b)) (hx:a.eval x=.int .i64 k) (hv:a.eval v=.int .i64 y) (h:Mp w b n f) (hn:n<1048576) (hk:(lit k).wf=true) (hy:(lit y).wf=true)
  (hK:∀ w',Mp w' b (n+1) (mput f k y)->w.grownBy w' (some b)->wpList Tryz.prog ops Q rest (a.put o.dst undef) w'):wpList Tryz.prog ops Q (o :: rest) a w:=by
 refine wpList_plain hg λ K' hK'=>?_
 obtain⟨w',hrun,r1,r2⟩:=h.update hn hk hy;unfold Oper.wp;simp[execOp,hop,hm,hx,hv,hrun,Result.andThen];exact hK' _ _ (hK w' r1 r2)
theorem dA{w:World}{ops:Array Oper}{rest:List Oper}{o:Oper}{a:Act}{Q:Exit->Act->World->Prop}(hg:o.guard=none)(m x:Operand)(hop:o.op=Op.lookup 124 m x true)
  (b n:Nat) (f:Int->Option Int) (k y:Int) (hm:a.eval m=.map (some b)) (hx:a.eval x=.int .i64 k) (h:Mp w b n f) (hk:(lit k).wf=true) (hy:f k=some y)
  (hK:wpList Tryz.prog ops Q rest (a.put o.dst (.tuple #[.int .i64 y,.bool true])) w):wpList Tryz.prog ops Q (o :: rest) a w:=by
 obtain⟨D,h,h1,h2⟩:=h;refine wpList_lookup_own_ok_int w hg m x 124 hop 3 3 .i64 keyLaw Tryz.underlying124 Tryz.underlying3 (zeroI w) b n D hm h (.int .i64 k) (lit k) hx (Maps.keyOf_int_mk Tryz.underlying3 hk) (λ c hat _=>?_);have e:=(h2 k y _ hy).symm.trans hat;have e2:y=c:=by injection e with e;injection e
 have e3:Maps.has D (lit k)=true:=by rw[h1 k,hy];rfl
 rw[<- e2,e3];exact hK
theorem dC{w:World}{ops:Array Oper}{rest:List Oper}{o:Oper}{a:Act}{Q:Exit->Act->World->Prop}(hg:o.guard=none)(m x:Operand)(hop:o.op=Op.lookup 124 m x true)
  (b n:Nat) (f:Int->Option Int) (k:Int) (hm:a.eval m=.map (some b)) (hx:a.eval x=.int .i64 k) (h:Mp w b n f) (hk:(lit k).wf=true) (hy:f k=none)
  (hK:∀ c:Int,wpList Tryz.prog ops Q rest (a.put o.dst (.tuple #[.int .i64 c,.bool false])) w):wpList Tryz.prog ops Q (o :: rest) a w:=by
 obtain⟨D,h,h1,h2⟩:=h;refine wpList_lookup_own_ok_int w hg m x 124 hop 3 3 .i64 keyLaw Tryz.underlying124 Tryz.underlying3 (zeroI w) b n D hm h (.int .i64 k) (lit k) hx (Maps.keyOf_int_mk Tryz.underlying3 hk) (λ c hat _=>?_);have e3:Maps.has D (lit k)=false:=by rw[h1 k,hy];rfl
 rw[e3];exact hK c
theorem Mp.grown{W W':World}{b n:Nat}{m:Int->Option Int}{row:Option Nat}(h:Mp W b n m)(hg:W.grownBy W' row)(hb:row≠some b):Mp W' b n m:=h.kept hg (λ e=>hb e.symm)
structure NumF(f:Int->Option Int)(l:List Nat):Prop where
 is:∀ k,k<l.length->f ((l.getD k 0:Nat):Int)=some (k:Int)
 no:∀ x,(∀ k,k<l.length->((l.getD k 0:Nat):Int)≠x)->f x=none
theorem NumF.nil:NumF (λ _=>none) []:=⟨λ _ hk=>absurd hk (Nat.not_lt_zero _),λ _ _=>rfl⟩
theorem NumF.some_iff{f:Int->Option Int}{l:List Nat}(h:NumF f l){x y:Int}(e:f x=some y):∃ k,k<l.length/\((l.getD k 0:Nat):Int)=x/\y=(k:Int):=by
 by_cases c:∃ k,k<l.length/\((l.getD k 0:Nat):Int)=x
 ·obtain⟨k,hk,rfl⟩:=c
  rw[h.is k hk]at e;injection e with e
  exact⟨k,hk,rfl,e.symm⟩
 ·rw[h.no x (λ k hk e2=>c ⟨k,hk,e2⟩)]at e;cases e
theorem NumF.meet{f:Int->Option Int}{l:List Nat}(h:NumF f l){x:Nat}(hx:x ∉ l):NumF (mput f (x:Int) (l.length:Int)) (l ++ [x]):=by
 refine⟨λ k hk=>?_,λ y hy=>?_⟩
 ·unfold mput
  by_cases c:k<l.length
  ·rw[cV _ _ _ c,if_neg,h.is k c]
   intro e;have:l.getD k 0=x:=by omega
   exact hx (by rw[<- this];exact bV c)
  ·have:k=l.length:=by simp at hk;omega
   subst this;rw[eR,if_pos rfl]
 ·unfold mput
  rw[if_neg,h.no y (λ k hk=>by
   have:=hy k (by simp;omega)
   rwa [cV _ _ _ hk]at this)]
  intro e;have:=hy l.length (by simp);rw[eR]at this;exact this e.symm
def rws(S:Ws)(dn:List Int):Nat->List Int:=λ j=>if j=1 then S.nodes.map Int.ofNat else if j=2 then S.frm else if j=3 then dn else if j=4 then S.left.map Int.ofNat else []
abbrev TJ:List Nat:=[1,2,3,4]
structure To(w W:World)(b m:Nat)(S:Ws)(dn:List Int)(f:Int->Option Int)(q:Nat->Option Addr)(c:Nat->Nat):Prop where
 ch:Chg w.heap.size (λ k=>k=b∨k=m) w W
 sr:Sr w.heap.size W b TJ (rws S dn) q c
 c0:W.cell? ⟨b,0,none⟩=some (.map (some m))
 mp:Mp W m S.nodes.length f
 nf:NumF f S.nodes
 bw:b<w.heap.size
 mw:m<w.heap.size
 bm:m≠b
theorem To.grown{w W W':World}{b m:Nat}{S:Ws}{dn:List Int}{f:Int->Option Int}{q:Nat->Option Addr}{c:Nat->Nat}(h:To w W b m S dn f q c)(hg:W.grownBy W' none):To w W' b m S dn f q c :=
 ⟨h.ch.grown hg h.ch.size (λ k e=>by cases e),h.sr.grown hg (by simp) (λ _ _ _ e=>by cases e),hg.cell h.c0 (by simp),h.mp.grown hg (by simp),h.nf,h.bw,h.mw,h.bm⟩
theorem To.next{w W W':World}{b m:Nat}{S:Ws}{dn:List Int}{f:Int->Option Int}{q:Nat->Option Addr}{c:Nat->Nat}(h:To w W b m S dn f q c)(hb:Below W.heap.size W W'):To w W' b m S dn f q c:=h.grown (below_grown hb)
theorem smet_any{w W:World}{b m:Nat}{S:Ws}{dn:List Int}{f:Int->Option Int}{q:Nat->Option Addr}{c:Nat->Nat}(h:To w W b m S dn f q c)(x:Int)(hx:(lit x).wf=true):Calls Tryz.prog 132 #[.pointer (some ⟨b,0,none⟩),.int .i64 x] W λ e w'=>e=.returned (.bool (f x).isSome)/\W=w':=by
 have c0:=h.c0;have hbl:=h.sr.bl;have HM:=aQ h.mp;clear h;cases hf:f x with
 | none =>
  go_enter Tryz.func132,Tryz.ntmps132
  go_wp2_with (at_lookup;refine dC rfl _ _ rfl m S.nodes.length f x rfl rfl HM.out hx hf ?_;intro c1)
  go_ret;exact⟨rfl,rfl⟩
 | some y =>
  go_enter Tryz.func132,Tryz.ntmps132
  go_wp2_with (at_lookup;refine dA rfl _ _ rfl m S.nodes.length f x y rfl rfl HM.out hx hf ?_)
  go_ret;exact⟨rfl,rfl⟩
structure Tm(w W:World)(b m n:Nat)(r:Nat->List Int)(f:Int->Option Int)(q:Nat->Option Addr)(c:Nat->Nat):Prop where
 ch:Chg w.heap.size (λ k=>k=b∨k=m) w W
 sr:Sr w.heap.size W b TJ r q c
 c0:W.cell? ⟨b,0,none⟩=some (.map (some m))
 mp:Mp W m n f
 bw:b<w.heap.size
 mw:m<w.heap.size
 bm:m≠b
theorem Tm.grown{w W W':World}{b m n:Nat}{r:Nat->List Int}{f:Int->Option Int}{q:Nat->Option Addr}{c:Nat->Nat}(h:Tm w W b m n r f q c)(hg:W.grownBy W' none):Tm w W' b m n r f q c :=
 ⟨h.ch.grown hg h.ch.size (λ k e=>by cases e),h.sr.grown hg (by simp) (λ _ _ _ e=>by cases e),hg.cell h.c0 (by simp),h.mp.grown hg (by simp),h.bw,h.mw,h.bm⟩
theorem Tm.al{w W:World}{b m n:Nat}{r:Nat->List Int}{f:Int->Option Int}{q:Nat->Option Addr}{c:Nat->Nat}(h:Tm w W b m n r f q c)(o:Obj):Tm w (W.alloc o) b m n r f q c:=h.grown (below_grown b1)
theorem To.tm{w W:World}{b m:Nat}{S:Ws}{dn:List Int}{f:Int->Option Int}{q:Nat->Option Addr}{c:Nat->Nat}(h:To w W b m S dn f q c):Tm w W b m S.nodes.length (rws S dn) f q c:=⟨h.ch,h.sr,h.c0,h.mp,h.bw,h.mw,h.bm⟩
theorem Tm.num{w W W':World}{b m n n':Nat}{r:Nat->List Int}{f f':Int->Option Int}{q:Nat->Option Addr}{c:Nat->Nat}(h:Tm w W b m n r f q c)(hg:W.grownBy W' (some m))(hm:Mp W' m n' f'):Tm w W' b m n' r f' q c :=
 ⟨h.ch.grown hg h.ch.size (λ k e=>by injection e with e;exact .inr (.inr e.symm)),h.sr.grown hg (λ e=>by injection e with e;exact h.bm e) (λ j hj k e e2=>by injection e with e;have:=(h.sr.blk hj e2).1;have:=h.mw;omega),hg.cell h.c0 (λ e=>by injection e with e;exact h.bm e.symm),hm,h.bw,h.mw,h.bm⟩
theorem Tm.set{w W:World}{b m n g:Nat}{r:Nat->List Int}{f:Int->Option Int}{q:Nat->Option Addr}{c:Nat->Nat}(h:Tm w W b m n r f q c){j:Nat}(hj:j∈TJ)(hq:q j=some ⟨g,0,none⟩)(i:Nat)(x:Int):Tm w (W.setCell ⟨g,i,none⟩ (.int .i64 x)) b m n (up1 r j ((r j).set i x)) f q c:=by
 have hg:=bC W ⟨g,i,none⟩ (.int .i64 x);have hb:=h.sr.blk hj (k:=g) (by rw[hq];rfl);have:=h.bw;have:=h.mw;exact⟨h.ch.grown hg h.ch.size (λ k e=>by injection e with e;exact .inl (by rw[<- e];exact hb.1)),h.sr.set hj hq i x,hg.cell h.c0 (λ e=>by injection e with e;have:b=g:=e;omega),h.mp.grown hg (λ e=>by injection e with e;have:g=m:=e;omega),h.bw,h.mw,h.bm⟩
theorem Tm.mid0{w W W':World}{b m n l:Nat}{r:Nat->List Int}{f:Int->Option Int}{q:Nat->Option Addr}{c:Nat->Nat}(h:Tm w W b m n r f q c){j:Nat}(hj:j∈TJ)(hg:W.grownBy W' (Value.slice (q j) l (c j)).ownBlock):(∀ k,W'.cell? ⟨b,k,none⟩=W.cell? ⟨b,k,none⟩)/\(∀ k,W'.frozen? ⟨b,k,none⟩=false)/\b<W'.heap.size:=by
 rw[aH]at hg;have e:=hg.block b h.sr.bl (λ e=>h.sr.ne j hj e.symm);exact⟨λ k=>World.cell?_of_block (a:=⟨b,k,none⟩) e,λ k=>(World.frozen?_of_block (a:=⟨b,k,none⟩) e).trans (h.sr.fz k),Nat.lt_of_lt_of_le h.sr.bl hg.size⟩
theorem Tm.mid{w W W':World}{b m n l:Nat}{r:Nat->List Int}{f:Int->Option Int}{q:Nat->Option Addr}{c:Nat->Nat}(h:Tm w W b m n r f q c){j:Nat}(hj:j∈TJ){o:Obj}(hg:(W.alloc o).grownBy W' (Value.slice (q j) l (c j)).ownBlock):(∀ k,W'.cell? ⟨b,k,none⟩=W.cell? ⟨b,k,none⟩)/\(∀ k,W'.frozen? ⟨b,k,none⟩=false)/\b<W'.heap.size:=by
 obtain⟨h1,h2,h3⟩:=(h.al o).mid0 hj hg;have e2:(W.alloc o).heap[b]?=W.heap[b]?:=(below_grown (b1 (w:=W) (o:=o))).block b h.sr.bl (by simp);exact⟨λ k=>(h1 k).trans (World.cell?_of_block (a:=⟨b,k,none⟩) e2),h2,h3⟩
theorem Tm.chg0{w W W':World}{b m n l:Nat}{r:Nat->List Int}{f:Int->Option Int}{q:Nat->Option Addr}{c:Nat->Nat}(h:Tm w W b m n r f q c){j:Nat}(hj:j∈TJ)(hg:W.grownBy W' (Value.slice (q j) l (c j)).ownBlock):Chg w.heap.size (λ k=>k=b∨k=m) w W':=by
 rw[aH]at hg;exact h.ch.grown hg h.ch.size (λ k e=>.inl (h.sr.blk hj e).1)
theorem Tm.oth0{w W W':World}{b m n l g:Nat}{r:Nat->List Int}{f:Int->Option Int}{q:Nat->Option Addr}{c:Nat->Nat}(h:Tm w W b m n r f q c){j k:Nat}(hj:j∈TJ)(hk:k∈TJ)(hkj:k≠j)(hq:q k=some ⟨g,0,none⟩)(hg:W.grownBy W' (Value.slice (q j) l (c j)).ownBlock)(o:Nat):W'.cell? ⟨g,o,none⟩=W.cell? ⟨g,o,none⟩:=by
 rw[aH]at hg;have hb:=h.sr.blk hk (k:=g) (by rw[hq];rfl);refine World.cell?_of_block (a:=⟨g,o,none⟩) (hg.block g hb.2 (λ e=>?_));rcases h.sr.ap k hk j hj hkj with d|d
 ·rw[hq]at d;cases d
 ·exact d (by rw[<- e,hq];rfl)
theorem Tm.app0{w W W':World}{b m n l k' c':Nat}{r:Nat->List Int}{f:Int->Option Int}{q:Nat->Option Addr}{c:Nat->Nat}{q':Option Addr}{L:List Int}(h1:Tm w W b m n r f q c){j:Nat}(hj:j∈TJ)(ho:W'.ownsRow w.heap.size 3 1 (.slice q' k' c') k' (aX L))(hk:L.length=k')
  (hg:W.grownBy W' (Value.slice (q j) l (c j)).ownBlock) (hb:(Value.slice q' k' c').ownBlock=(Value.slice (q j) l (c j)).ownBlock∨(Value.slice q' k' c').ownBlock=some W.heap.size) :
  Tm w (W'.setCell ⟨b,j,none⟩ (.slice q' k' c')) b m n (up1 r j L) f (up1 q j q') (up1 c j c'):=by
 have hs:=h1.sr.app hj (by rw[hk];exact ho) hk.symm hg hb;have hch:=app_chg h1.sr hj hg h1.ch h1.ch.size (λ k hk=>.inl hk) (.inr (.inl rfl)) (.slice q' k' c');have hbw:=h1.bw;have hmw:=h1.mw;have hmid:=h1.mid0 hj hg;rw[aH]at hg;have hne:∀ k,(q j).map Addr.block=some k->w.heap.size<=k:=λ k e=>(h1.sr.blk hj e).1
 refine⟨hch,hs,?_,?_,hbw,hmw,h1.bm⟩
 ·refine(World.cell?_setCell_other _ _ _ _ (λ e=>?_)).trans ((hmid.1 0).trans h1.c0)
  have:j=0:=congrArg Addr.off e;subst this;exact absurd hj (by decide)
 ·exact((h1.mp.grown hg (λ e=>by have:=hne m e;omega))).other (a:=⟨b,j,none⟩) (λ e=>h1.bm e.symm) _
theorem Tm.app{w W W':World}{b m n l k' c':Nat}{r:Nat->List Int}{f:Int->Option Int}{q:Nat->Option Addr}{c:Nat->Nat}{q':Option Addr}{L:List Int}(h:Tm w W b m n r f q c){j:Nat}(hj:j∈TJ){o:Obj}(ho:W'.ownsRow w.heap.size 3 1 (.slice q' k' c') k' (aX L))(hk:L.length=k')
  (hg:(W.alloc o).grownBy W' (Value.slice (q j) l (c j)).ownBlock) (hb:(Value.slice q' k' c').ownBlock=(Value.slice (q j) l (c j)).ownBlock∨(Value.slice q' k' c').ownBlock=some (W.alloc o).heap.size) :
  Tm w (W'.setCell ⟨b,j,none⟩ (.slice q' k' c')) b m n (up1 r j L) f (up1 q j q') (up1 c j c'):=(h.al o).app0 hj ho hk hg hb
def MeetQ(w:World)(b m:Nat)(S:Ws)(dn:List Int)(x:Nat)(i:Int)(e:Ending)(w':World):Prop :=
 e=.returned (.int .i64 (S.nodes.length:Int))/\∃ f q c,To w w' b m (S.meet x i) (dn ++ [0]) f q c
theorem rws_meet(S:Ws)(dn:List Int)(x:Nat)(i:Int):up1 (up1 (up1 (rws S dn) 1 (S.nodes.map Int.ofNat ++ [(x:Int)])) 2 (S.frm ++ [i])) 3 (dn ++ [0])=rws (S.meet x i) (dn ++ [0]):=by
 funext k
 unfold up1 rws;by_cases h1:k=1
 ·subst h1;simp[Ws.meet]
 ·by_cases h2:k=2
  ·subst h2;simp[Ws.meet]
  ·by_cases h3:k=3
   ·subst h3;simp
   ·by_cases h4:k=4
    ·subst h4;simp[Ws.meet]
    ·simp[h1,h2,h3,h4]
theorem smeet_any{w W:World}{b m:Nat}{S:Ws}{dn:List Int}{f:Int->Option Int}{q:Nat->Option Addr}{c:Nat->Nat}(h:To w W b m S dn f q c)(x:Nat)(i:Int)(hx:x ∉ S.nodes)(hx2:x<1048576)(hl1:S.frm.length=S.nodes.length)(hl2:dn.length=S.nodes.length)(hl:S.nodes.length<1048576) :
  Calls Tryz.prog 134 #[.pointer (some ⟨b,0,none⟩),.int .i64 (x:Int),.int .i64 i] W (MeetQ w b m S dn x i):=by
 have HQ:Hid (∀ W q c,Tm w W b m (S.nodes.length+1) (up1 (up1 (up1 (rws S dn) 1 (S.nodes.map Int.ofNat ++ [(x:Int)])) 2 (S.frm ++ [i])) 3 (dn ++ [0])) (mput f (x:Int) (S.nodes.length:Int)) q c->MeetQ w b m S dn x i (.returned (.int .i64 (S.nodes.length:Int))) W):=aQ (λ W q c h1=>by
  rw[rws_meet]at h1;exact⟨rfl,_,q,c,h1.ch,h1.sr,h1.c0,by simpa[Ws.meet]using h1.mp,h.nf.meet hx,h.bw,h.mw,h.bm⟩)
 generalize MeetQ w b m S dn x i=Q at *;have H:=aQ h.tm;have HB:=aQ (show w.heap.size<=W.heap.size from h.ch.size);have c0:=h.c0;have c1:=h.sr.clE (j:=1) (by decide) (l:=S.nodes.map Int.ofNat) rfl rfl rfl (List.length_map ..);have bl:=h.sr.bl;obtain⟨n,hn⟩:∃ n,S.nodes.length=n:=⟨_,rfl⟩;have HN:Hid (S.nodes.length=n/\S.frm.length=n/\dn.length=n/\(S.nodes.map Int.ofNat).length=n/\(S.nodes.map Int.ofNat ++ [(x:Int)]).length=n+1/\(S.frm ++ [i]).length=n+1/\(dn ++ [0]).length=n+1):=aQ ⟨hn,hl1.trans hn,hl2.trans hn,(List.length_map ..).trans hn,by simp[hn],by simp[hl1,hn],by simp[hl2,hn]⟩;rw[hn]at hl hl1 hl2 c1 HQ H;have HN9:=aQ (λ (x:Int) (W:World) k (e:k=W.heap.size)=>e ▸ bH (k:=.i64) W 3 [x] #[.int .i64 x] rfl (by simp));clear h hn hl1 hl2;go_enter Tryz.func134,Tryz.ntmps134
 have HX:=aQ True.intro
 go_wp2_with (first
  | (at_mapUpdate;refine eT rfl (.tmp 16) (.tmp 17) (.tmp 18) rfl m n f (x:Int) (n:Int) rfl rfl rfl H.out.mp (by omega) (dK (by omega) (by omega)) (dK (by omega) (by omega)) ?_;intro w1 hm1 hg1;have HX':=aQ (H.out.num hg1 hm1);clear HX;have HX:=HX';clear HX';have c1:=HX.out.sr.clE (j:=1) (by decide) (l:=S.nodes.map Int.ofNat) rfl rfl rfl HN.out.2.2.2.1;have bl:=HX.out.sr.bl;have fz:=HX.out.sr.fz 1;clear hm1 hg1)
  | (at_builtin;refine aZ rfl (.tmp 23) (.tmp 25) rfl rfl w.heap.size _ [(x:Int)] (S.nodes.map Int.ofNat) (.slice (q 1) n (c 1)) 1 1 rfl rfl rfl ((HX.out.al _).sr.ownE (j:=1) (by decide) rfl rfl rfl HN.out.2.2.2.1.symm) (HN9.out _ _ _ (by simp)) (HX.out.al _).ch.size (by have:=HN.out.1;simp;omega) ?_;intro v8 w8 ho8 hg8 hb8;rw[HN.out.2.2.2.2.1]at ho8;obtain⟨q8,c8,rfl⟩:=aW ho8;have HY:=aQ (HX.out.app (j:=1) (by decide) ho8 HN.out.2.2.2.2.1 hg8 hb8);obtain⟨e1,fz,bl⟩:=HX.out.mid (j:=1) (by decide) hg8;have c1:=(e1 1).trans (HX.out.sr.clE (j:=1) (by decide) (l:=S.nodes.map Int.ofNat) rfl rfl rfl HN.out.2.2.2.1);have c2:=(e1 2).trans (HX.out.sr.clE (j:=2) (by decide) (l:=S.frm) rfl rfl rfl HN.out.2.1);clear HX e1 ho8 hg8 hb8)
  | (at_builtin;refine aZ rfl (.tmp 33) (.tmp 35) rfl rfl w.heap.size _ [i] S.frm (.slice (q 2) n (c 2)) 1 1 rfl rfl rfl ((HY.out.al _).sr.ownE (j:=2) (by decide) rfl rfl rfl HN.out.2.1.symm) (HN9.out _ _ _ (by simp[World.setCell])) (HY.out.al _).ch.size (by have:=HN.out.2.1;simp;omega) ?_;intro v9 w9 ho8 hg8 hb8;rw[HN.out.2.2.2.2.2.1]at ho8;obtain⟨q9,c9,rfl⟩:=aW ho8;have HZ:=aQ (HY.out.app (j:=2) (by decide) ho8 HN.out.2.2.2.2.2.1 hg8 hb8);obtain⟨e1,fz',bl'⟩:=HY.out.mid (j:=2) (by decide) hg8;have c2':=(e1 2).trans (HY.out.sr.clE (j:=2) (by decide) (l:=S.frm) rfl rfl rfl HN.out.2.1);have c3:=(e1 3).trans (HY.out.sr.clE (j:=3) (by decide) (l:=dn) rfl rfl rfl HN.out.2.2.1);clear HY e1 ho8 hg8 hb8)
  | (at_builtin;refine aZ rfl (.tmp 43) (.tmp 44) rfl rfl w.heap.size _ [0] dn (.slice (q 3) n (c 3)) 1 1 rfl rfl rfl ((HZ.out.al _).sr.ownE (j:=3) (by decide) rfl rfl rfl HN.out.2.2.1.symm) (HN9.out _ _ _ (by simp[World.setCell])) (HZ.out.al _).ch.size (by have:=HN.out.2.2.1;simp;omega) ?_;intro v7 w7 ho8 hg8 hb8;rw[HN.out.2.2.2.2.2.2]at ho8;obtain⟨q7,c7,rfl⟩:=aW ho8;have HV:=aQ (HZ.out.app (j:=3) (by decide) ho8 HN.out.2.2.2.2.2.2 hg8 hb8);obtain⟨e1,fz3,bl3⟩:=HZ.out.mid (j:=3) (by decide) hg8;have c3':=(e1 3).trans (HZ.out.sr.clE (j:=3) (by decide) (l:=dn) rfl rfl rfl HN.out.2.2.1);clear HZ e1 ho8 hg8 hb8))
 exact HQ.out _ _ _ HV.out
structure En(w:World)(b m N:Nat)(q:Option Addr)(qc:Nat)(cl:Int)(bs bc bt bo bv:Nat):Prop where
 s:w.cell? ⟨bs,0,none⟩=some (.slice q N qc)
 c:w.cell? ⟨bc,0,none⟩=some (.int .i64 cl)
 t:w.cell? ⟨bt,0,none⟩=some (.pointer (some ⟨b,0,none⟩))
 o:w.cell? ⟨bo,0,none⟩=some (.func (.func 131) #[] #[.pointer (some ⟨bs,0,none⟩),.pointer (some ⟨bc,0,none⟩),.pointer (some ⟨bt,0,none⟩)])
 v:w.cell? ⟨bv,0,none⟩=some (.func (.func 133) #[] #[.pointer (some ⟨bs,0,none⟩),.pointer (some ⟨bt,0,none⟩),.pointer (some ⟨bo,0,none⟩),.pointer (some ⟨bv,0,none⟩)])
 ns:bs≠b/\bs≠m
 nc:bc≠b/\bc≠m
 nt:bt≠b/\bt≠m
 no:bo≠b/\bo≠m
 nv:bv≠b/\bv≠m
theorem En.at{w W:World}{b m N:Nat}{q:Option Addr}{qc:Nat}{cl:Int}{bs bc bt bo bv:Nat}(h:En w b m N q qc cl bs bc bt bo bv)(k:Chg w.heap.size (λ k=>k=b∨k=m) w W):En W b m N q qc cl bs bc bt bo bv:=by
 have key:∀ {a:Nat} {v:Value},w.cell? ⟨a,0,none⟩=some v->a≠b/\a≠m->W.cell? ⟨a,0,none⟩=some v:=λ {a v} e hn =>
  (k.cell (World.block_lt_of_cell? w ⟨a,0,none⟩ e) (λ c=>c.elim hn.1 hn.2) 0).trans e
 exact⟨key h.s h.ns,key h.c h.nc,key h.t h.nt,key h.o h.no,key h.v h.nv,h.ns,h.nc,h.nt,h.no,h.nv⟩
theorem En.lts{w:World}{b m N:Nat}{q:Option Addr}{qc:Nat}{cl:Int}{bs bc bt bo bv:Nat}(h:En w b m N q qc cl bs bc bt bo bv){g:Nat}(hg:w.heap.size<=g):bs≠g/\bc≠g/\bt≠g/\bo≠g/\bv≠g:=by
 have h1:bs<_:=World.block_lt_of_cell? w ⟨bs,0,none⟩ h.s;have h2:bc<_:=World.block_lt_of_cell? w ⟨bc,0,none⟩ h.c;have h3:bt<_:=World.block_lt_of_cell? w ⟨bt,0,none⟩ h.t;have h4:bo<_:=World.block_lt_of_cell? w ⟨bo,0,none⟩ h.o;have h5:bv<_:=World.block_lt_of_cell? w ⟨bv,0,none⟩ h.v;omega
theorem opn_no{N:Nat}{cl:Int}{S:Ws}{x:Int}(h:¬ isN N cl x):opn N cl S x=false:=by
 unfold opn;exact decide_eq_false (λ c=>h c.1)
theorem opn_met{N:Nat}{cl:Int}{S:Ws}{x y:Int}{f:Int->Option Int}(hf:NumF f S.nodes)(h:f x=some y):opn N cl S x=false:=by
 obtain⟨k,hk,e,_⟩:=hf.some_iff h;unfold opn;refine decide_eq_false (λ c=>c.2 ?_);have:S.nodes.getD k 0=x.toNat:=by omega
 rw[<- this];exact bV hk
theorem opn_new{N:Nat}{cl:Int}{S:Ws}{x:Int}{f:Int->Option Int}(hf:NumF f S.nodes)(hn:isN N cl x)(h:f x=none):opn N cl S x=true:=by
 unfold opn;refine decide_eq_true ⟨hn,λ c=>?_⟩;obtain⟨k,hk,e⟩:=eF c;have:=hf.is k hk;have e2:((S.nodes.getD k 0:Nat):Int)=x:=by unfold isN at hn;omega
 rw[e2,h]at this;cases this
theorem sopen_any{w W:World}{b m N:Nat}{q0:Option Addr}{qc:Nat}{cl:Int}{bs bc bt bo bv:Nat}{S:Ws}{dn:List Int}{f:Int->Option Int}{q:Nat->Option Addr}{c:Nat->Nat}(hE:En w b m N q0 qc cl bs bc bt bo bv)(h:To w W b m S dn f q c)(hN:N<=1048576)(x:Int) :
  Calls Tryz.prog 131 #[.int .i64 x,.pointer (some ⟨bs,0,none⟩),.pointer (some ⟨bc,0,none⟩),.pointer (some ⟨bt,0,none⟩)] W λ e w'=>e=.returned (.bool (opn N cl S x))/\W=w':=by
 have HE:=hE.at h.ch;obtain⟨es,ec,et,eo,ev,_,_,_,_,_⟩:=HE;by_cases x0:0<=x
 ·by_cases xN:x<(N:Int)
  ·by_cases xc:x=cl
   ·rw[opn_no (λ k=>k.2.2 xc)]
    subst xc;clear h hE;go_enter Tryz.func131,Tryz.ntmps131
    go_wp2
    go_ret;exact⟨rfl,rfl⟩
   ·have HM:=aQ (smet_any h x (dK (by omega) (by omega)))
    have hx:(x != cl)=true:=by simpa using xc
    cases hf:f x with
    | none =>
     rw[opn_new h.nf ⟨x0,xN,xc⟩ hf];rw[hf]at HM;clear h hE hf;go_enter Tryz.func131,Tryz.ntmps131
     go_wp2_with (go_at_call 132;(with_reducible refine HM.out.mono ?_);rintro e w1 ⟨rfl,rfl⟩)
     go_ret;exact⟨rfl,rfl⟩
    | some y =>
     rw[opn_met h.nf hf];rw[hf]at HM;clear h hE hf;go_enter Tryz.func131,Tryz.ntmps131
     go_wp2_with (go_at_call 132;(with_reducible refine HM.out.mono ?_);rintro e w1 ⟨rfl,rfl⟩)
     go_ret;exact⟨rfl,rfl⟩
  ·rw[opn_no (λ k=>xN k.2.1)]
   clear h hE;go_enter Tryz.func131,Tryz.ntmps131
   go_wp2
   go_ret;exact⟨rfl,rfl⟩
 ·rw[opn_no (λ k=>x0 k.1)]
  clear h hE;go_enter Tryz.func131,Tryz.ntmps131
  go_wp2
  go_ret;exact⟨rfl,rfl⟩
theorem cL(w:World)(n:Nat):w.grownBy (w.drewN n) none:=⟨rfl,rfl,rfl,Nat.le_refl _,λ _ _ _=>rfl⟩
theorem eY(w:World):w.grownBy w.drew none:=⟨rfl,rfl,rfl,Nat.le_refl _,λ _ _ _=>rfl⟩
theorem grown_none{a b c:World}(h:a.grownBy b none)(k:b.grownBy c none):a.grownBy c none :=
 ⟨k.os.trans h.os,k.tape.trans h.tape,k.output.trans h.output,Nat.le_trans h.size k.size,λ i hi _=>(k.block i (Nat.lt_of_lt_of_le hi h.size) (by simp)).trans (h.block i hi (by simp))⟩
theorem fU(w:World)(o:Obj):w.grownBy (w.alloc o) none:=below_grown b1
theorem cR(w:World)(o:Obj):w.grownBy (w.alloc o).drew none:=grown_none (fU w o) (eY _)
theorem bI{w:World}{ops:Array Oper}{o:Oper}{a:Act}{K:Act->World->Prop}{Q:Exit->Act->World->Prop}{E:Prop}(hg:o.guard=none)(s x:Operand)(hop:o.op=Op.call { callee:=Callee.builtin Builtin.append,args:=#[s,x],argTypes:=#[34,34] })(hty:o.type=34)
  (base:Nat) (q:Option Addr) (xs l:List Int) (v:Value) (n c:Nat) (hn:xs.length=n) (hs:a.eval s=v) (hx:a.eval x=.slice q n c) (h1:w.ownsRow base 3 1 v l.length (aX l)) (hN:NumsAt .i64 w q xs) (hb:base<=w.heap.size) (hm:l.length+xs.length<=1099511627776)
  (hK:∀ v' w',w'.ownsRow base 3 1 v' (l ++ xs).length (aX (l ++ xs))->w.grownBy w' v.ownBlock->(v'.ownBlock=v.ownBlock∨v'.ownBlock=some w.heap.size)->K (a.put o.dst v') w') :
  if Region.wanted o (yielded ops a.tmps)=true then Oper.wp Tryz.prog o a w K Q else E:=by
 subst hn;have hw:Region.wanted o (yielded ops a.tmps)=true:=by simp[Region.wanted,hg]
 rw[if_pos hw];obtain⟨v',w',hrun,r1,r2,r3⟩:=app_ints h1 hN hb hm c;unfold Oper.wp;simp[execOp,hop,resolve,invoke,builtin,hs,hx,hty,hrun,Result.andThen];exact hK v' w' r1 r2 r3
theorem rws_bump(S:Ws)(dn:List Int)(i:Nat)(x:Int):up1 (rws S dn) 3 ((rws S dn 3).set i x)=rws S (dn.set i x):=by
 funext k
 unfold up1 rws;by_cases h3:k=3
 ·subst h3;simp
 ·simp[h3]
theorem rws_leave(S:Ws)(dn:List Int)(x:Nat):up1 (rws S dn) 4 (S.left.map Int.ofNat ++ [(x:Int)])=rws (S.leave x) dn:=by
 funext k
 unfold up1 rws;by_cases h4:k=4
 ·subst h4;simp[Ws.leave]
 ·by_cases h1:k=1
  ·subst h1;simp[Ws.leave]
  ·by_cases h2:k=2
   ·subst h2;simp[Ws.leave]
   ·by_cases h3:k=3
    ·subst h3;simp
    ·simp[h1,h2,h3,h4]
theorem To.bump{w W:World}{b m g:Nat}{S:Ws}{dn:List Int}{f:Int->Option Int}{q:Nat->Option Addr}{c:Nat->Nat}(h:To w W b m S dn f q c)(hq:q 3=some ⟨g,0,none⟩)(i:Nat)(x:Int):To w (W.setCell ⟨g,i,none⟩ (.int .i64 x)) b m S (dn.set i x) f q c:=by
 have k:=h.tm.set (j:=3) (by decide) hq i x;have e:=k.sr;rw[rws_bump]at e;exact⟨k.ch,e,k.c0,k.mp,h.nf,h.bw,h.mw,h.bm⟩
theorem Tm.leave{w W:World}{b m:Nat}{S:Ws}{dn:List Int}{f:Int->Option Int}{q:Nat->Option Addr}{c:Nat->Nat}{x:Nat}(h:Tm w W b m S.nodes.length (up1 (rws S dn) 4 (S.left.map Int.ofNat ++ [(x:Int)])) f q c)(hf:NumF f S.nodes):To w W b m (S.leave x) dn f q c:=by
 rw[rws_leave]at h;exact⟨h.ch,h.sr,h.c0,h.mp,hf,h.bw,h.mw,h.bm⟩
def dnAt(W:World)(b i:Nat):Nat:=match W.cell? ⟨b,3,none⟩with
 | some (.slice (some a) _ _)=>(match W.cell? ⟨a.block,i,none⟩with
  | some v=>(RowKit.intOf v).toNat
  | none=>0)
 | _=>0
theorem To.dnAt{w W:World}{b m:Nat}{S:Ws}{dn:List Int}{f:Int->Option Int}{q:Nat->Option Addr}{c:Nat->Nat}(h:To w W b m S dn f q c){i:Nat}(hi:i<dn.length):Go.Proofs.YtkfahppdklecdaaGreatDoor.J.dnAt W b i=(dn.getD i 0).toNat:=by
 obtain⟨g,e,_,_,_,_,hc⟩:=h.sr.row (j:=3) (by decide) (by show 0<dn.length;omega);have h3:=h.sr.cl 3 (by decide);unfold Go.Proofs.YtkfahppdklecdaaGreatDoor.J.dnAt;rw[h3,e];have hc':=hc i hi;simp only[hc'];rfl
theorem vz_left(N:Nat)(cl:Int)(su:Nat->List Int):∀ (f:Nat) (S:Ws) (i:Nat),(vz N cl su f S i).left.length+S.nodes.length<=S.left.length+(vz N cl su f S i).nodes.length+1
 | 0,S,i=>by unfold vz;omega
 | f+1,S,i=>by
  have fold:∀ (xs:List Int) (T:Ws),(xs.foldl (vzs N cl su f i) T).left.length+T.nodes.length<=T.left.length+(xs.foldl (vzs N cl su f i) T).nodes.length:=by
   intro xs
   induction xs with
   | nil=>intro T;exact Nat.le_refl _
   | cons x xs ih =>
    intro T;rw[List.foldl_cons];have h1:=ih (vzs N cl su f i T x)
    have h2:(vzs N cl su f i T x).left.length+T.nodes.length<=T.left.length+(vzs N cl su f i T x).nodes.length:=by
     unfold vzs;split
     ·have:=vz_left N cl su f (T.meet x.toNat i) T.nodes.length
      have e:(T.meet x.toNat (i:Int)).nodes.length=T.nodes.length+1:=by simp[Ws.meet]
      have e2:(T.meet x.toNat (i:Int)).left=T.left:=rfl;rw[e,e2]at this;omega
     ·omega
    omega
  rw[vz_succ];have:=fold (su (S.nodes.getD i 0)) S;show(_ ++ [_]:List Nat).length+_<=_;simp only[List.length_append,List.length_singleton];show _<=_+(List.foldl (vzs N cl su f i) S (su (S.nodes.getD i 0))).nodes.length+1;omega
theorem fold_left(N:Nat)(cl:Int)(su:Nat->List Int)(f i:Nat):∀ (xs:List Int) (T:Ws),(xs.foldl (vzs N cl su f i) T).left.length+T.nodes.length<=T.left.length+(xs.foldl (vzs N cl su f i) T).nodes.length
 | [],T=>Nat.le_refl _
 | x :: xs,T=>by
  rw[List.foldl_cons];have h1:=fold_left N cl su f i xs (vzs N cl su f i T x)
  have h2:(vzs N cl su f i T x).left.length+T.nodes.length<=T.left.length+(vzs N cl su f i T x).nodes.length:=by
   unfold vzs;split
   ·have:=vz_left N cl su f (T.meet x.toNat i) T.nodes.length
    have e:(T.meet x.toNat (i:Int)).nodes.length=T.nodes.length+1:=by simp[Ws.meet]
    have e2:(T.meet x.toNat (i:Int)).left=T.left:=rfl;rw[e,e2]at this;omega
   ·omega
  omega
structure Fs(N:Nat)(cl:Int)(S T:Ws):Prop where
 wf:Wf N cl T
 pn:∃ l,T.nodes=S.nodes ++ l
 lf:T.left.length+S.nodes.length<=S.left.length+T.nodes.length
theorem Fs.refl{N:Nat}{cl:Int}{S:Ws}(h:Wf N cl S):Fs N cl S S:=⟨h,⟨[],by simp⟩,Nat.le_refl _⟩
theorem Fs.step{N:Nat}{cl:Int}{su:Nat->List Int}{f i:Nat}{S T:Ws}{x:Int}(h:Fs N cl S T)(hf:N<=T.nodes.length+f):Fs N cl S (vzs N cl su f i T x):=by
 have hl:=fold_left N cl su f i [x] T;have hl':(vzs N cl su f i T x).left.length+T.nodes.length<=T.left.length+(vzs N cl su f i T x).nodes.length:=hl;refine⟨?_,?_,by have:=h.lf;omega⟩
 ·unfold vzs
  split
  ·rename_i ho
   have hm:=Wf.meet (i:=(i:Int)) h.wf ho;have e:(T.meet x.toNat (i:Int)).nodes.length=T.nodes.length+1:=by simp[Ws.meet]
   exact(vz_len hm (by omega) (by omega)).2
  ·exact h.wf
 ·unfold vzs
  split
  ·rename_i ho
   have hm:=Wf.meet (i:=(i:Int)) h.wf ho;have e:(T.meet x.toNat (i:Int)).nodes.length=T.nodes.length+1:=by simp[Ws.meet]
   obtain⟨hi,k,_⟩:=vz_ok N cl su f _ T.nodes.length hm (by omega) (by omega);obtain⟨l,e1⟩:=h.pn;obtain⟨l',e2⟩:=k.pn;exact⟨l ++ ([x.toNat] ++ l'),by rw[e2];show T.nodes ++ [x.toNat] ++ l'=_;rw[e1];simp⟩
  ·exact h.pn
end Go.Proofs.YtkfahppdklecdaaGreatDoor.J
