import Derived.Test.YtkfahppdklecdaaGreatDoorZ08
import Derived.Test.YtkfahppdklecdaaGreatDoorZ10
set_option maxRecDepth 100000
set_option maxHeartbeats 16000000
namespace Go.Proofs.YtkfahppdklecdaaGreatDoor
namespace Fl
variable {G:Fg}
def upd{α:Type}(f:Nat->α)(r:Nat)(x:α):Nat->α:=λ s=>if s=r then x else f s
theorem upd_same{α:Type}(f:Nat->α)(r:Nat)(x:α):upd f r x r=x:=if_pos rfl
theorem upd_other{α:Type}(f:Nat->α){r s:Nat}(x:α)(h:s≠r):upd f r x s=f s:=if_neg h
theorem Fg.sx_zero(G:Fg)(k:Nat):G.sx k 0=[]:=by simp[Fg.sx]
theorem Fg.sx_all(G:Fg)(k:Nat):G.sx k (G.su (G.la k)).length=G.sk k:=by
 unfold Fg.sx Fg.sk;rw[List.take_length]
theorem Fg.sx_succ{k j:Nat}(hj:j<(G.su (G.la k)).length):G.sx k (j+1)=once (G.sx k j) (G.fd ((G.su (G.la k)).getD j 0)):=by
 unfold Fg.sx;rw[List.take_add_one,List.foldl_append,List.getD_eq_getElem?_getD,List.getElem?_eq_getElem hj];rfl
theorem Fg.sx_old{k j:Nat}(hj:j<(G.su (G.la k)).length)(h:G.fd ((G.su (G.la k)).getD j 0)∈G.sx k j):G.sx k (j+1)=G.sx k j:=by
 rw[Fg.sx_succ hj];exact if_pos h
theorem Fg.sx_new{k j:Nat}(hj:j<(G.su (G.la k)).length)(h:¬ G.fd ((G.su (G.la k)).getD j 0)∈G.sx k j):G.sx k (j+1)=G.sx k j ++ [G.fd ((G.su (G.la k)).getD j 0)]:=by
 rw[Fg.sx_succ hj];exact if_neg h
noncomputable def Fg.px(G:Fg)(k j t:Nat):List Nat:=((List.range k).filter λ a=>decide (t∈G.sk a)) ++ (if t∈G.sx k j then [k]else [])
theorem Fg.px_zero(G:Fg)(k t:Nat):G.px k 0 t=(List.range k).filter λ a=>decide (t∈G.sk a):=by
 unfold Fg.px;rw[Fg.sx_zero];simp
theorem Fg.px_next(G:Fg)(k t:Nat):G.px k (G.su (G.la k)).length t=G.px (k+1) 0 t:=by
 rw[Fg.px_zero,List.range_succ,List.filter_append];unfold Fg.px;rw[Fg.sx_all];by_cases h:t∈G.sk k
 ·rw[if_pos h,List.filter_cons_of_pos (by simpa using h)];rfl
 ·rw[if_neg h,List.filter_cons_of_neg (by simpa using h)];rfl
theorem Fg.px_len(G:Fg)(k j t:Nat):(G.px k j t).length<=k+1:=by
 unfold Fg.px;rw[List.length_append];have:=List.length_filter_le (λ a=>decide (t∈G.sk a)) (List.range k);rw[List.length_range]at this;split <;> simp <;> omega
theorem fold_len{f:Nat->Nat}:∀ (xs acc:List Nat),(xs.foldl (λ a s=>once a (f s)) acc).length<=acc.length+xs.length
 | [],acc=>by simp
 | x :: xs,acc=>by
  rw[List.foldl_cons];have:=fold_len (f:=f) xs (once acc (f x));have h2:(once acc (f x)).length<=acc.length+1:=by unfold once;split <;> simp
  simp only[List.length_cons];omega
theorem Fg.sx_len(G:Fg)(k j:Nat):(G.sx k j).length<=j:=by
 unfold Fg.sx;have:=fold_len (f:=G.fd) ((G.su (G.la k)).take j) [];have h2:=List.length_take_le j (G.su (G.la k));simp at this;omega
theorem Fg.sk_len(G:Fg)(k:Nat):(G.sk k).length<=(G.su (G.la k)).length:=by
 rw[<- Fg.sx_all];exact Fg.sx_len G k _
noncomputable def Fg.row(G:Fg)(k j r:Nat):List Nat:=if r % 2=0 then (if r / 2<k then G.sk (r / 2)else if r / 2=k then G.sx k j else [])else G.px k j (r / 2)
theorem Fg.row_start(G:Fg):G.row 0 0=λ _=>[]:=by
 funext r
 unfold Fg.row;rw[Fg.px_zero,Fg.sx_zero];simp
theorem Fg.row_here(G:Fg)(k j:Nat):G.row k j (2*k)=G.sx k j:=by
 unfold Fg.row;rw[if_pos (by omega),if_neg (by omega),if_pos (by omega)]
theorem Fg.row_pred(G:Fg)(k j t:Nat):G.row k j (2*t+1)=G.px k j t:=by
 unfold Fg.row;rw[if_neg (by omega),show(2*t+1) / 2=t by omega]
theorem Fg.row_old{k j:Nat}(hj:j<(G.su (G.la k)).length)(h:G.fd ((G.su (G.la k)).getD j 0)∈G.sx k j):G.row k (j+1)=G.row k j:=by
 funext r
 unfold Fg.row Fg.px;rw[Fg.sx_old hj h]
theorem Fg.row_new{k j t:Nat}(hj:j<(G.su (G.la k)).length)(ht:G.fd ((G.su (G.la k)).getD j 0)=t)(h:¬ t∈G.sx k j) :
  G.row k (j+1)=upd (upd (G.row k j) (2*k) (G.row k j (2*k) ++ [t])) (2*t+1) (G.row k j (2*t+1) ++ [k]):=by
 have e:=Fg.sx_new hj (by rw[ht];exact h);rw[ht]at e
 funext r
 rw[Fg.row_here,Fg.row_pred];by_cases h1:r=2*t+1
 ·subst h1
  rw[upd_same,Fg.row_pred];unfold Fg.px;rw[e,if_pos (by simp),if_neg h,List.append_nil]
 ·rw[upd_other _ _ h1]
  by_cases h2:r=2*k
  ·subst h2
   rw[upd_same,Fg.row_here,e]
  ·rw[upd_other _ _ h2]
   unfold Fg.row;by_cases h3:r % 2=0
   ·rw[if_pos h3,if_pos h3]
    by_cases h4:r / 2<k
    ·rw[if_pos h4,if_pos h4]
    ·rw[if_neg h4,if_neg h4,if_neg (by omega),if_neg (by omega)]
   ·rw[if_neg h3,if_neg h3]
    unfold Fg.px;rw[e]
    have:(r / 2∈G.sx k j ++ [t])↔r / 2∈G.sx k j:=by
     rw[List.mem_append,List.mem_singleton];exact⟨λ c=>c.resolve_right (by omega),.inl⟩
    simp only[this]
theorem Fg.row_next(G:Fg)(k:Nat):G.row k (G.su (G.la k)).length=G.row (k+1) 0:=by
 funext r
 unfold Fg.row;rw[Fg.px_next,Fg.sx_all,Fg.sx_zero];by_cases h3:r % 2=0
 ·rw[if_pos h3,if_pos h3]
  by_cases h4:r / 2<k
  ·rw[if_pos h4,if_pos (by omega)]
  ·rw[if_neg h4]
   by_cases h5:r / 2=k
   ·rw[if_pos h5,if_pos (by omega),h5]
   ·rw[if_neg h5,if_neg (by omega)]
    split <;> rfl
 ·rw[if_neg h3,if_neg h3]
theorem Fg.row_su{k b:Nat}(h:b<k):G.row k 0 (2*b)=G.sk b:=by
 unfold Fg.row;rw[if_pos (by omega),if_pos (by omega),show 2*b / 2=b by omega]
theorem Fg.row_pr(G:Fg)(b:Nat):G.row G.n 0 (2*b+1)=G.pk b:=by
 rw[Fg.row_pred,Fg.px_zero];rfl
theorem Fg.row_len{k j:Nat}(hG:∀ k,(G.su (G.la k)).length<=2)(hj:j<=2)(r:Nat):(G.row k j r).length<=k+2:=by
 unfold Fg.row;split
 ·split
  ·have:=Fg.sk_len G (r / 2);have:=hG (r / 2);omega
  ·split
   ·have:=Fg.sx_len G k j;omega
   ·simp
 ·have:=Fg.px_len G k j (r / 2);omega
noncomputable def Fg.lk(G:Fg)(k:Nat):List Nat:=(G.reach.take k).filter G.lead
theorem Fg.lk_all(G:Fg):G.lk G.reach.length=G.ls:=by
 unfold Fg.lk Fg.ls;rw[List.take_length]
theorem Fg.lk_yes{k:Nat}(hk:k<G.reach.length)(h:G.lead (G.reach.getD k 0)=true):G.lk (k+1)=G.lk k ++ [G.reach.getD k 0]:=by
 unfold Fg.lk;have e:G.reach.getD k 0=G.reach[k]:=by rw[List.getD_eq_getElem?_getD,List.getElem?_eq_getElem hk];rfl
 rw[List.take_add_one,List.getElem?_eq_getElem hk,List.filter_append,e];rw[e]at h;show _ ++ List.filter G.lead [G.reach[k]]=_;rw[List.filter_cons_of_pos h];rfl
theorem Fg.lk_no{k:Nat}(hk:k<G.reach.length)(h:G.lead (G.reach.getD k 0)=false):G.lk (k+1)=G.lk k:=by
 unfold Fg.lk;have e:G.reach.getD k 0=G.reach[k]:=by rw[List.getD_eq_getElem?_getD,List.getElem?_eq_getElem hk];rfl
 rw[List.take_add_one,List.getElem?_eq_getElem hk,List.filter_append];rw[e]at h;show _ ++ List.filter G.lead [G.reach[k]]=_;rw[List.filter_cons_of_neg (by rw[h];simp)];simp
theorem Fg.lk_len(G:Fg)(k:Nat):(G.lk k).length<=k:=by
 unfold Fg.lk;have:=List.length_filter_le G.lead (G.reach.take k);have:=List.length_take_le k G.reach;omega
theorem flat_get{α:Type}(f:Nat->List α)(m:Nat)(hf:∀ a,(f a).length=m):∀ (l:List Nat) (k r:Nat),r<m->k<l.length->(l.flatMap f)[k*m+r]?=(f (l.getD k 0))[r]?
 | [],k,r,_,hk=>absurd hk (Nat.not_lt_zero _)
 | a :: l,0,r,hr,_=>by
  rw[List.flatMap_cons,List.getElem?_append_left (by rw[hf];omega)];simp
 | a :: l,k+1,r,hr,hk=>by
  rw[List.flatMap_cons,List.getElem?_append_right (by rw[hf,Nat.add_mul];omega),hf];rw[show(k+1)*m+r - m=k*m+r by rw[Nat.add_mul];omega];rw[flat_get f m hf l k r hr (by simpa using hk)];simp
end Fl
end Go.Proofs.YtkfahppdklecdaaGreatDoor
namespace Go.Proofs.YtkfahppdklecdaaGreatDoor
open Go.RowKit M
open Fl (upd upd_same upd_other)
structure Bm(w W:World)(g n:Nat)(G:Fl.Fg)(P:Nat->Option Addr)(C:Nat->Nat)(R:Nat->List Nat):Prop where
 low:Below w.heap.size w W
 gb:w.heap.size<=g
 gl:g<W.heap.size
 fz:∀ j,W.frozen? ⟨g,j,none⟩=false
 c:∀ k,k<n->W.cell? ⟨g,k*5,none⟩=some (.int .i64 (G.fr k))/\W.cell? ⟨g,k*5+1,none⟩=some (.int .i64 (G.to (G.fr k)))/\W.cell? ⟨g,k*5+2,none⟩=some (.int .i64 (G.la k))
 p:∀ r,r<2*n->W.cell? ⟨g,r / 2*5+3+r % 2,none⟩=some (.slice (P r) (R r).length (C r))
 own:∀ r,r<2*n->W.ownsRow w.heap.size 3 1 (.slice (P r) (R r).length (C r)) (R r).length (aX ((R r).map Int.ofNat))
 ne:∀ r,r<2*n->(P r).map Addr.block≠some g
 dist:∀ r s,r<2*n->s<2*n->r≠s->∀ b,(P r).map Addr.block=some b->(P s).map Addr.block≠some b
theorem Bm.next{w W W':World}{g n:Nat}{G:Fl.Fg}{P:Nat->Option Addr}{C:Nat->Nat}{R:Nat->List Nat}(h:Bm w W g n G P C R)(hb:Below W.heap.size W W'):Bm w W' g n G P C R:=by
 obtain⟨low,gb,gl,fz,c,p,own,ne,dist⟩:=h;refine⟨low.trans (hb.mono low.size),gb,Nat.lt_of_lt_of_le gl hb.size,λ j=>(hb.frozen (p:=⟨g,j,none⟩) gl).trans (fz j),λ k hk=>?_,λ r hr=>(hb.cell (p:=⟨g,_,none⟩) gl).trans (p r hr),λ r hr=>own_below (own r hr) hb,ne,dist⟩;obtain⟨c0,c1,c2⟩:=c k hk;exact⟨(hb.cell (p:=⟨g,_,none⟩) gl).trans c0,(hb.cell (p:=⟨g,_,none⟩) gl).trans c1,(hb.cell (p:=⟨g,_,none⟩) gl).trans c2⟩
theorem Bm.app{w W W':World}{g n r x m c' o:Nat}{q':Option Addr}{G:Fl.Fg}{P:Nat->Option Addr}{C:Nat->Nat}{R:Nat->List Nat}(h:Bm w W g n G P C R)(hr:r<2*n)(heo:o=r / 2*5+3+r % 2)
  (ho:W'.ownsRow w.heap.size 3 1 (.slice q' m c') ((R r).map Int.ofNat ++ [(x:Int)]).length (aX ((R r).map Int.ofNat ++ [(x:Int)]))) (hm:m=(R r).length+1) (hg:W.grownBy W' ((P r).map Addr.block)) (hb:q'.map Addr.block=(P r).map Addr.block∨q'.map Addr.block=some W.heap.size) :
  Bm w (W'.setCell ⟨g,o,none⟩ (.slice q' m c')) g n G (upd P r q') (upd C r c') (upd R r (R r ++ [x])):=by
 obtain⟨low,gb,gl,fz,c,p,own,ne,dist⟩:=h;subst hm heo;have hgg:W'.heap[g]?=W.heap[g]?:=hg.block g gl (λ e=>ne r hr e.symm)
 have hq:q'.map Addr.block≠some g:=by
  rcases hb with e|e
  ·rw[e];exact ne r hr
  ·rw[e];intro e2;injection e2 with e2;omega
 have hlow:Below w.heap.size w W':=low.grown hg low.size (λ k hk=>((own r hr).lt k (by rw[aH];exact hk)).1);have el:(R r).map Int.ofNat ++ [(x:Int)]=(R r ++ [x]).map Int.ofNat:=by rw[List.map_append];rfl
 rw[el]at ho;rw[List.length_map]at ho;have e1:(R r ++ [x]).length=(R r).length+1:=by simp
 refine⟨hlow.setCell (p:=⟨g,_,none⟩) gb _,gb,by simpa[World.setCell]using Nat.lt_of_lt_of_le gl hg.size,λ j=>?_,λ k hk=>?_,λ s hs=>?_,λ s hs=>?_,λ s hs=>?_,λ s t hs ht hst b hsb=>?_⟩
 ·exact(World.frozen?_setCell ..).trans ((World.frozen?_of_block (a:=⟨g,j,none⟩) hgg).trans (fz j))
 ·obtain⟨c0,c1,c2⟩:=c k hk
  have hk5:∀ d u,d<3->W.cell? ⟨g,k*5+d,none⟩=some u->(W'.setCell ⟨g,r / 2*5+3+r % 2,none⟩ (.slice q' ((R r).length+1) c')).cell? ⟨g,k*5+d,none⟩=some u:=λ d u hd hu =>
   (World.cell?_setCell_other _ _ _ _ (λ e=>by have:=congrArg Addr.off e;simp at this;omega)).trans ((World.cell?_of_block (a:=⟨g,_,none⟩) hgg).trans hu)
  exact⟨hk5 0 _ (by omega) c0,hk5 1 _ (by omega) c1,hk5 2 _ (by omega) c2⟩
 ·have hc:∀ s,s<2*n->W'.cell? ⟨g,s / 2*5+3+s % 2,none⟩=some (.slice (P s) (R s).length (C s)):=λ s hs=>(World.cell?_of_block (a:=⟨g,_,none⟩) hgg).trans (p s hs)
  by_cases e:s=r
  ·subst e
   rw[upd_same,upd_same,upd_same,e1];exact World.cell?_setCell_same _ _ _ (hc s hs)
  ·rw[upd_other _ _ e,upd_other _ _ e,upd_other _ _ e]
   exact(World.cell?_setCell_other _ _ _ _ (λ e'=>by have:=congrArg Addr.off e';simp at this;omega)).trans (hc s hs)
 ·by_cases e:s=r
  ·subst e
   rw[upd_same,upd_same,upd_same];refine aP (a:=⟨g,_,none⟩) ?_ (by rw[aH];exact hq);rw[e1]at ho ⊢;exact ho
  ·rw[upd_other _ _ e,upd_other _ _ e,upd_other _ _ e]
   refine aP (a:=⟨g,_,none⟩) ((own s hs).kept hg ?_) (by rw[aH];exact ne s hs);rw[aH];by_cases hn:(P s).map Addr.block=none
   ·exact .inl hn
   ·right
    intro e2;obtain⟨b,hb2⟩:=Option.ne_none_iff_exists'.1 hn;exact dist s r hs hr e b hb2 (e2 ▸ hb2)
 ·by_cases e:s=r
  ·subst e;rw[upd_same];exact hq
  ·rw[upd_other _ _ e];exact ne s hs
 ·have lt:∀ s,s<2*n->∀ b,(P s).map Addr.block=some b->b<W.heap.size:=λ s hs b hb2=>((own s hs).lt b (by rw[aH];exact hb2)).2
  by_cases e:s=r
  ·subst e
   rw[upd_same]at hsb;rw[upd_other _ _ (λ c=>hst c.symm)];rcases hb with e2|e2
   ·rw[e2]at hsb;exact dist s t hs ht hst b hsb
   ·rw[e2]at hsb
    injection hsb with hsb
    intro e3;have:=lt t ht b e3;omega
  ·rw[upd_other _ _ e]at hsb
   by_cases e4:t=r
   ·subst e4
    rw[upd_same];rcases hb with e2|e2
    ·rw[e2];exact dist s t hs ht hst b hsb
    ·rw[e2]
     intro e3;injection e3 with e3
     have:=lt s hs b hsb;omega
   ·rw[upd_other _ _ e4];exact dist s t hs ht hst b hsb
theorem Bm.ft{w W:World}{g n:Nat}{G:Fl.Fg}{P:Nat->Option Addr}{C:Nat->Nat}{R:Nat->List Nat}(h:Bm w W g n G P C R)(hn:n<=4096):FtAt W (some ⟨g,0,none⟩) n (λ k=>(G.fr k:Int)) (λ k=>(G.to (G.fr k):Int)) :=
 ⟨by omega,λ k hk=>by
  obtain⟨c0,c1,c2⟩:=h.c k hk;exact⟨g,0,rfl,h.gl,by rw[Nat.zero_add];exact c0,by rw[Nat.zero_add];exact c1⟩⟩
theorem find_lead{G:Fl.Fg}(hG:G.Ok){s:Nat}(hs:G.R s)(hl:G.lead s=true):findI (λ k=>(G.fr k:Int)) (λ k=>(G.to (G.fr k):Int)) G.n (s:Int)=(G.fd s:Int):=by
 obtain⟨h1,h2,h3⟩:=Fl.Fg.fd_lead hG hs hl;obtain⟨a1,a2⟩:=Fl.Fg.inB_iff.1 h3;refine findI_some h1 (by omega) (by omega) (λ j hj hh=>?_);have hh2:(G.fr j:Int)<=(s:Int)/\(s:Int)<(G.to (G.fr j):Int):=hh;have e:=Fl.Fg.in_one (i:=j) hG (by omega) h1 (Fl.Fg.inB_iff.2 ⟨by omega,by omega⟩) h3;omega
theorem Bm.done{w W:World}{g:Nat}{l:List In}{P:Nat->Option Addr}{C:Nat->Nat}(hc:(aS l).2=0)(h:Bm w W g (gOf l).n (gOf l) P C ((gOf l).row (gOf l).n 0))(hn:(gOf l).n<=4096)(hsm:∀ r,((gOf l).row (gOf l).n 0 r).length<=8192):BksAt W (some ⟨g,0,none⟩) (aR l):=by
 have hl:=dR hc;refine⟨by omega,λ k hk=>?_⟩;rw[hl]at hk;rw[blocks_at hc hk];obtain⟨c0,c1,c2⟩:=h.c k hk;have p0:=h.p (2*k) (by omega);have p1:=h.p (2*k+1) (by omega);have o0:=h.own (2*k) (by omega);have o1:=h.own (2*k+1) (by omega);have s0:=hsm (2*k);have s1:=hsm (2*k+1);rw[Fl.Fg.row_su hk]at p0 o0 s0;rw[Fl.Fg.row_pr]at p1 o1 s1;rw[show 2*k / 2*5+3+2*k % 2=0+k*5+3 by omega]at p0;rw[show(2*k+1) / 2*5+3+(2*k+1) % 2=0+k*5+4 by omega]at p1;have l0:((gOf l).sk k).length=(((gOf l).sk k).map Int.ofNat).length:=by simp
 have l1:((gOf l).pk k).length=(((gOf l).pk k).map Int.ofNat).length:=by simp
 rw[l0]at p0 o0 s0;rw[l1]at p1 o1 s1;refine⟨g,0,P (2*k),C (2*k),P (2*k+1),C (2*k+1),rfl,h.gl,?_,?_,?_,p0,p1,cA o0 (Nat.le_trans s0 (by omega)),cA o1 (Nat.le_trans s1 (by omega))⟩
 ·rw[Nat.zero_add];exact c0
 ·rw[Nat.zero_add];exact c1
 ·rw[Nat.zero_add];exact c2
noncomputable def b5(G:Fl.Fg)(a:Nat):List Value:=[.int .i64 (a:Int),.int .i64 (G.to a:Int),.int .i64 (G.last a:Int),.slice none 0 0,.slice none 0 0]
theorem b5_len(G:Fl.Fg)(a:Nat):(b5 G a).length=5:=rfl
noncomputable def flatB(G:Fl.Fg)(l:List Nat):List Value:=l.flatMap (b5 G)
theorem flatB_app(G:Fl.Fg)(l m:List Nat):flatB G (l ++ m)=flatB G l ++ flatB G m:=List.flatMap_append ..
theorem Bm.start{w W:World}{q:Option Addr}{c:Nat}{G:Fl.Fg}(hn:0<G.n)(hb:Below w.heap.size w W)(ho:W.ownsRow w.heap.size 94 5 (.slice q G.n c) G.n (flatB G G.ls)) :
  ∃ g,q=some ⟨g,0,none⟩/\Bm w W g G.n G (λ _=>none) (λ _=>0) (G.row 0 0):=by
 have hq:∃ g cap cur,(Value.slice q G.n c)=.slice (some ⟨g,0,none⟩) G.n cap/\w.heap.size<=g/\W.heap[g]?=some (.cells cur 94 (0,0)):=by
  rcases ho.2 with ⟨_,h0⟩|⟨g,cap,cur,hv,hb,hg,_⟩
  ·omega
  ·exact⟨g,cap,cur,hv,hb,hg⟩
 obtain⟨g,cap,cur,hv,hgb,hg⟩:=hq;injection hv with h1 h2 h3
 subst h1 h3;have hgl:g<W.heap.size:=(Array.getElem?_eq_some_iff.1 hg).1
 have hc:∀ k r u,k<G.n->r<5->(b5 G (G.fr k))[r]?=some u->W.cell? ⟨g,k*5+r,none⟩=some u:=λ k r u hk hr hu=>by
  rw[ho.cellAt (k*5+r) (by omega)];exact(Fl.flat_get (b5 G) 5 (b5_len G) G.ls k r hr hk).trans hu
 rw[Fl.Fg.row_start];refine⟨g,rfl,hb,hgb,hgl,λ j=>?_,λ k hk=>⟨hc k 0 _ hk (by omega) rfl,hc k 1 _ hk (by omega) rfl,hc k 2 _ hk (by omega) rfl⟩,λ r hr=>?_,λ r hr=>World.ownsRow_nil _ _ _ _,λ r hr=>by simp,λ r s hr hs _ b hb2=>by simp at hb2⟩
 ·simp[World.frozen?,hg]
 ·rcases Nat.mod_two_eq_zero_or_one r with e|e
  ·rw[e];exact hc (r / 2) 3 _ (by omega) (by omega) rfl
  ·rw[e];exact hc (r / 2) 4 _ (by omega) (by omega) rfl
theorem NumsAt.grown{k:IntKind}{w w':World}{q:Option Addr}{l:List Int}{row:Option Nat}(h:NumsAt k w q l)(hg:w.grownBy w' row)(hn:∀ ad,q=some ad->row≠some ad.block):NumsAt k w' q l :=
 ⟨h.small,λ i hi=>by
  obtain⟨b,o,hq,hb,hc⟩:=h.cells i hi;exact⟨b,o,hq,Nat.lt_of_lt_of_le hb hg.size,(World.cell?_of_block (a:=⟨b,o+i,none⟩) (hg.block b hb (λ e=>hn _ hq e.symm))).trans hc⟩⟩
structure Bj(w W:World)(g n:Nat)(G:Fl.Fg)(P:Nat->Option Addr)(C:Nat->Nat)(R:Nat->List Nat)(ps:Option Addr)(xs:List Int):Prop where
 bm:Bm w W g n G P C R
 nu:NumsAt .i64 W ps xs
 ng:∀ ad,ps=some ad->ad.block≠g
 nr:∀ ad,ps=some ad->∀ r,r<2*n->(P r).map Addr.block≠some ad.block
theorem Bj.start{w W W':World}{g n:Nat}{G:Fl.Fg}{P:Nat->Option Addr}{C:Nat->Nat}{R:Nat->List Nat}{ps:Option Addr}{xs:List Int}(h:Bm w W g n G P C R)(hb:Below W.heap.size W W')(hn:NumsAt .i64 W' ps xs)(hp:∀ ad,ps=some ad->W.heap.size<=ad.block):Bj w W' g n G P C R ps xs:=by
 refine⟨h.next hb,hn,λ ad e=>?_,λ ad e r hr e2=>?_⟩
 ·have:=hp ad e;have:=h.gl;omega
 ·have:=hp ad e
  have:=((h.own r hr).lt _ (by rw[aH];exact e2)).2;omega
theorem Bj.next{w W W':World}{g n:Nat}{G:Fl.Fg}{P:Nat->Option Addr}{C:Nat->Nat}{R:Nat->List Nat}{ps:Option Addr}{xs:List Int}(h:Bj w W g n G P C R ps xs)(hb:Below W.heap.size W W'):Bj w W' g n G P C R ps xs :=
 ⟨h.bm.next hb,h.nu.below hb,h.ng,h.nr⟩
theorem Bj.app{w W W':World}{g n r x m c' o:Nat}{q':Option Addr}{G:Fl.Fg}{P:Nat->Option Addr}{C:Nat->Nat}{R:Nat->List Nat}{ps:Option Addr}{xs:List Int}{v:Value}(h:Bj w W g n G P C R ps xs)(hv:v.ownBlock=(P r).map Addr.block)(hr:r<2*n)(heo:o=r / 2*5+3+r % 2)
  (ho:W'.ownsRow w.heap.size 3 1 (.slice q' m c') ((R r).map Int.ofNat ++ [(x:Int)]).length (aX ((R r).map Int.ofNat ++ [(x:Int)]))) (hm:m=(R r).length+1) (hg:W.grownBy W' v.ownBlock) (hb:(Value.slice q' m c').ownBlock=v.ownBlock∨(Value.slice q' m c').ownBlock=some W.heap.size)
  (hlt:∀ ad,ps=some ad->ad.block<W.heap.size) :
  Bj w (W'.setCell ⟨g,o,none⟩ (.slice q' m c')) g n G (upd P r q') (upd C r c') (upd R r (R r ++ [x])) ps xs:=by
 rw[hv]at hg hb;rw[aH]at hb;refine⟨h.bm.app hr heo ho hm hg hb,NumsAt.setOther (h.nu.grown hg (λ ad e=>h.nr ad e r hr)) h.ng _,h.ng,λ ad e s hs=>?_⟩;by_cases e2:s=r
 ·subst e2
  rw[upd_same];rcases hb with e3|e3
  ·rw[e3];exact h.nr ad e s hs
  ·rw[e3]
   intro e4;injection e4 with e4
   have:=hlt ad e;omega
 ·rw[upd_other _ _ e2];exact h.nr ad e s hs
theorem Bj.mid{w W W':World}{g n r o:Nat}{G:Fl.Fg}{P:Nat->Option Addr}{C:Nat->Nat}{R:Nat->List Nat}{ps:Option Addr}{xs:List Int}{v:Value}(h:Bj w W g n G P C R ps xs)(hv:v.ownBlock=(P r).map Addr.block)(hr:r<2*n)(heo:o=r / 2*5+3+r % 2)(hg:W.grownBy W' v.ownBlock) :
  W'.cell? ⟨g,o,none⟩=some (.slice (P r) (R r).length (C r))/\W'.frozen? ⟨g,o,none⟩=false/\g<W'.heap.size:=by
 subst heo;rw[hv]at hg;have hgg:W'.heap[g]?=W.heap[g]?:=hg.block g h.bm.gl (λ e=>h.bm.ne r hr e.symm);exact⟨(World.cell?_of_block (a:=⟨g,_,none⟩) hgg).trans (h.bm.p r hr),(World.frozen?_of_block (a:=⟨g,_,none⟩) hgg).trans (h.bm.fz _),Nat.lt_of_lt_of_le h.bm.gl hg.size⟩
theorem Bj.at{w W:World}{g n r o:Nat}{G:Fl.Fg}{P:Nat->Option Addr}{C:Nat->Nat}{R:Nat->List Nat}{ps:Option Addr}{xs:List Int}(h:Bj w W g n G P C R ps xs)(hr:r<2*n)(heo:o=r / 2*5+3+r % 2):W.cell? ⟨g,o,none⟩=some (.slice (P r) (R r).length (C r)):=by
 subst heo;exact h.bm.p r hr
theorem Bj.row{w W:World}{g n r:Nat}{G:Fl.Fg}{P:Nat->Option Addr}{C:Nat->Nat}{R:Nat->List Nat}{ps:Option Addr}{xs:List Int}(h:Bj w W g n G P C R ps xs)(hr:r<2*n):W.ownsRow w.heap.size 3 1 (.slice (P r) (R r).length (C r)) ((R r).map Int.ofNat).length (aX ((R r).map Int.ofNat)):=by
 rw[List.length_map];exact h.bm.own r hr
theorem has_any{w W:World}{g n r:Nat}{G:Fl.Fg}{P:Nat->Option Addr}{C:Nat->Nat}{R:Nat->List Nat}{ps:Option Addr}{xs:List Int}(h:Bj w W g n G P C R ps xs)(hr:r<2*n)(hl:(R r).length<=8192)(t:Nat){b:Bool}(hb:b=decide (t∈R r)):Calls Tryz.prog 33 #[.slice (P r) (R r).length (C r),.int .i64 (t:Int)] W λ e w'=>e=.returned (.bool b)/\W=w':=by
 have o:=h.row hr;have el:(R r).length=((R r).map Int.ofNat).length:=by simp
 rw[el]at o;have hN:=cA o (by rw[<- el];omega);rw[el];refine(rhas_any (P r) (C r) ((R r).map Int.ofNat) (t:Int) W hN).mono ?_;rintro e w' ⟨rfl,rfl⟩;refine⟨?_,rfl⟩;rw[hb];congr 3
 rw[eq_iff_iff,List.mem_map];constructor
 ·rintro⟨a,ha,e⟩
  have:a=t:=by have:(a:Int)=(t:Int):=e;omega
  exact this ▸ ha
 ·intro ha;exact⟨t,ha,rfl⟩
end Go.Proofs.YtkfahppdklecdaaGreatDoor
namespace Go.Proofs.YtkfahppdklecdaaGreatDoor
open Go.RowKit M
theorem rblocks_no(q:Option Addr)(qc:Nat)(l:List In)(w:World)(h:InsAt w q l)(hc:¬ (aS l).2=0) :
  Calls Tryz.prog 10 #[.slice q l.length qc] w λ e w'=>e=.returned (.tuple #[.slice none 0 0,.int .i64 (aS l).2])/\Below w.heap.size w w':=by
 have HC:=aQ (dP q qc l w h);unfold fV at HC;have hne:((aS l).2 != 0)=true:=by simpa using hc
 generalize (aS l).2=e1 at *;generalize (aS l).1=e0 at *;generalize l.length=N at *;clear h;go_enter Tryz.func10,Tryz.ntmps10
 go_wp2_with (go_at_call 8;(with_reducible refine HC.out.mono ?_);rintro e w1 ⟨rfl,hb⟩;have B1:=aQ hb;clear hb)
 go_ret2;exact⟨rfl,B1.out⟩
structure Bl(w W:World)(G:Fl.Fg)(k:Nat)(q:Option Addr)(c:Nat):Prop where
 low:Below w.heap.size w W
 own:W.ownsRow w.heap.size 94 5 (.slice q (G.lk k).length c) (G.lk k).length (flatB G (G.lk k))
theorem Bl.next{w W W':World}{G:Fl.Fg}{k c:Nat}{q:Option Addr}(h:Bl w W G k q c)(hb:Below W.heap.size W W'):Bl w W' G k q c :=
 ⟨h.low.trans (hb.mono h.low.size),own_below h.own hb⟩
structure Bi(w W:World)(G:Fl.Fg)(k:Nat)(q:Option Addr)(c b a:Nat)(x1 x2:Int):Prop where
 bl:Bl w W G k q c
 bb:w.heap.size<=b
 bs:b<W.heap.size
 fz:∀ j,W.frozen? ⟨b,j,none⟩=false
 nb:q.map Addr.block≠some b
 c:W.cell? ⟨b,0,none⟩=some (.int .i64 (a:Int))/\W.cell? ⟨b,1,none⟩=some (.int .i64 x1)/\W.cell? ⟨b,2,none⟩=some (.int .i64 x2)/\W.cell? ⟨b,3,none⟩=some (.slice none 0 0)/\W.cell? ⟨b,4,none⟩=some (.slice none 0 0)
theorem Bi.next{w W W':World}{G:Fl.Fg}{k c b a:Nat}{q:Option Addr}{x1 x2:Int}(h:Bi w W G k q c b a x1 x2)(hb:Below W.heap.size W W'):Bi w W' G k q c b a x1 x2:=by
 obtain⟨bl,bb,bs,fz,nb,c0,c1,c2,c3,c4⟩:=h;exact⟨bl.next hb,bb,Nat.lt_of_lt_of_le bs hb.size,λ j=>(hb.frozen (p:=⟨b,j,none⟩) bs).trans (fz j),nb,(hb.cell (p:=⟨b,_,none⟩) bs).trans c0,(hb.cell (p:=⟨b,_,none⟩) bs).trans c1,(hb.cell (p:=⟨b,_,none⟩) bs).trans c2,(hb.cell (p:=⟨b,_,none⟩) bs).trans c3,(hb.cell (p:=⟨b,_,none⟩) bs).trans c4⟩
theorem Bi.set2{w W:World}{G:Fl.Fg}{k c b a:Nat}{q:Option Addr}{x1 x2:Int}(h:Bi w W G k q c b a x1 x2)(y:Int):Bi w (W.setCell ⟨b,2,none⟩ (.int .i64 y)) G k q c b a x1 y:=by
 obtain⟨bl,bb,bs,fz,nb,c0,c1,c2,c3,c4⟩:=h;refine⟨⟨bl.low.setCell (p:=⟨b,_,none⟩) bb _,aP (a:=⟨b,_,none⟩) bl.own (by rw[aH];exact nb)⟩,bb,by simpa[World.setCell]using bs,λ j=>(World.frozen?_setCell ..).trans (fz j),nb,?_,?_,World.cell?_setCell_same _ _ _ c2,?_,?_⟩
 ·exact(World.cell?_setCell_other _ _ _ _ (λ e=>by injection e;omega)).trans c0
 ·exact(World.cell?_setCell_other _ _ _ _ (λ e=>by injection e;omega)).trans c1
 ·exact(World.cell?_setCell_other _ _ _ _ (λ e=>by injection e;omega)).trans c3
 ·exact(World.cell?_setCell_other _ _ _ _ (λ e=>by injection e;omega)).trans c4
theorem Bi.set1{w W:World}{G:Fl.Fg}{k c b a:Nat}{q:Option Addr}{x1 x2:Int}(h:Bi w W G k q c b a x1 x2)(y:Int):Bi w (W.setCell ⟨b,1,none⟩ (.int .i64 y)) G k q c b a y x2:=by
 obtain⟨bl,bb,bs,fz,nb,c0,c1,c2,c3,c4⟩:=h;refine⟨⟨bl.low.setCell (p:=⟨b,_,none⟩) bb _,aP (a:=⟨b,_,none⟩) bl.own (by rw[aH];exact nb)⟩,bb,by simpa[World.setCell]using bs,λ j=>(World.frozen?_setCell ..).trans (fz j),nb,?_,World.cell?_setCell_same _ _ _ c1,?_,?_,?_⟩
 ·exact(World.cell?_setCell_other _ _ _ _ (λ e=>by injection e;omega)).trans c0
 ·exact(World.cell?_setCell_other _ _ _ _ (λ e=>by injection e;omega)).trans c2
 ·exact(World.cell?_setCell_other _ _ _ _ (λ e=>by injection e;omega)).trans c3
 ·exact(World.cell?_setCell_other _ _ _ _ (λ e=>by injection e;omega)).trans c4
theorem Bi.start{w W:World}{G:Fl.Fg}{k c a:Nat}{q:Option Addr}(h:Bl w W G k q c):Bi w (W.alloc (.cells #[.int .i64 (a:Int),.int .i64 0,.int .i64 0,.slice none 0 0,.slice none 0 0] 94)) G k q c W.heap.size a 0 0:=by
 refine⟨h.next ((Below.refl _ _).alloc (Nat.le_refl _) _),h.low.size,by simp,λ j=>World.frozen?_alloc_new _ _ _ j,?_,aJ W rfl,aJ W rfl,aJ W rfl,aJ W rfl,aJ W rfl⟩;intro e;have:=(h.own.lt _ (by rw[aH];exact e)).2;omega
theorem Bl.put{w W W':World}{G:Fl.Fg}{k c c' m a:Nat}{q q':Option Addr}(h:Bl w W G k q c)(hk:k<G.reach.length)(ha:G.reach.getD k 0=a)(hl:G.lead a=true)
  (ho:W'.ownsRow w.heap.size 94 5 (.slice q' m c') ((G.lk k).length+1) (flatB G (G.lk k) ++ b5 G a)) (hm:m=(G.lk k).length+1) (hg:W.grownBy W' (Value.slice q (G.lk k).length c).ownBlock):Bl w W' G (k+1) q' c'/\m=(G.lk (k+1)).length:=by
 subst ha hm;rw[aH]at hg;have e:=Fl.Fg.lk_yes hk hl;have e2:(G.lk (k+1)).length=(G.lk k).length+1:=by rw[e];simp
 refine⟨⟨h.low.grown hg h.low.size (λ j hj=>(h.own.lt j (by rw[aH];exact hj)).1),?_⟩,e2.symm⟩;rw[e2,e,flatB_app];have e3:flatB G [G.reach.getD k 0]=b5 G (G.reach.getD k 0):=by simp[flatB]
 rw[e3];exact ho
theorem flatB_one1(G:Fl.Fg)(a:Nat):∀ u∈b5 G a,u.oneCell'=true:=by
 intro u hu;simp only[b5,List.mem_cons,List.not_mem_nil,or_false]at hu;rcases hu with rfl|rfl|rfl|rfl|rfl <;> rfl
theorem b5_end{G:Fl.Fg}(hG:G.Ok){i a n:Nat}(hi:G.R i)(hf:G.fin i=true)(hl:G.last i=G.last a)(hn:G.nx i=n):b5 G a=[.int .i64 (a:Int),.int .i64 (n:Int),.int .i64 (i:Int),.slice none 0 0,.slice none 0 0]:=by
 unfold b5 Fl.Fg.to;rw[<- hl,Fl.Fg.last_fin hG hi hf,hn]
theorem dQ(w:World)(cs:List Value)(t:TypeId):∀ j u,cs[j]?=some u->(w.alloc (.cells cs.toArray t)).cell? ((⟨w.heap.size,0,none⟩:Addr).add j)=some u:=by
 intro j u hu;have h:=aJ w (cs:=cs.toArray) (t:=t) (fr:=(0,0)) (i:=j) (v:=u) (by simpa using hu);by_cases h0:j=0
 ·subst h0;simpa[Addr.add]using h
 ·simpa[Addr.add,h0]using h
theorem infoBlk:(Tryz.prog.info? 94).map (λ i=>(i.zero,i.size,i.bytes))=some (some (.agg #[.int .i64 0,.int .i64 0,.int .i64 0,.slice none 0 0,.slice none 0 0]),5,72):=by kernel_rfl
theorem fH{w:World}{ops:Array Oper}{rest:List Oper}{o:Oper}{a:Act}{Q:Exit->Act->World->Prop}(hg:o.guard=none)(s x:Operand)(hop:o.op=Op.call { callee:=Callee.builtin Builtin.append,args:=#[s,x],argTypes:=#[42,42] })(hty:o.type=42)
  (base:Nat) (ad:Addr) (news xs:List Value) (v:Value) (n c:Nat) (hs:a.eval s=v) (hx:a.eval x=.slice (some ad) 1 c) (h1:w.ownsRow base 94 5 v n xs) (hl:news.length=1*5) (hN:∀ j u,news[j]?=some u->w.cell? (ad.add j)=some u) (h1c:∀ u∈news,u.oneCell'=true) (hb:base<=w.heap.size) (hm:n<=4096)
  (hK:∀ v' w',w'.ownsRow base 94 5 v' (n+1) (xs ++ news)->w.grownBy w' v.ownBlock->wpList Tryz.prog ops Q rest (a.put o.dst v') w') :
  wpList Tryz.prog ops Q (o :: rest) a w:=by
 refine wpList_plain hg λ K hK'=>?_
 obtain⟨i5,h5,g5,s5,b5⟩:=info_parts infoBlk;obtain⟨v',w',hrun,r1,r2,_,_⟩:=run_append_own_at (P:=Tryz.prog) w base 42 42 94 i5 _ 5 72 Tryz.underlying42 h5 g5 s5 b5 rfl (by decide) v n xs h1 ad 1 c news hl hN h1c (by simp only[maxLen];omega) (by omega) hb;unfold Oper.wp;simp[execOp,hop,resolve,invoke,builtin,hs,hx,hty,hrun,Result.andThen];exact hK' _ _ (hK v' w' r1 r2)
theorem rblocks_yes(q:Option Addr)(qc:Nat)(l:List In)(w:World)(h:InsAt w q l)(hc:(aS l).2=0) :
  Calls Tryz.prog 10 #[.slice q l.length qc] w λ e w'=>∃ p c,e=.returned (.tuple #[.slice p (aR l).length c,.int .i64 0])/\BksAt w' p (aR l)/\Below w.heap.size w w':=by
 have HG:=aQ (bJ hc);have hN:=(cW hc).1;have HI:=aQ h;have HCK:=aQ hc;have HC:=aQ (dP q qc l w h);unfold fV at HC;rw[hc]at HC;have HRE:=aQ (λ W (hW:Below w.heap.size w W)=>rreach_any q qc l W (HI.out.below hW));have HLE:=aQ (λ p pc W (hW:Below w.heap.size w W) hr=>rlead_any q qc l p pc W (HI.out.below hW) hc hr);have HSU:=aQ (λ (i:Int) (W:World) (hW:Below w.heap.size w W)=>rsucc_new q qc l i W (HI.out.below hW));unfold SuccQ at HSU;have hrn:(cK l).length=(gOf l).reach.length:=by rw[dS hc];simp
 have HRA:Hid (∀ k,k<(gOf l).reach.length->(cK l).getD k 0=(((gOf l).reach.getD k 0:Nat):Int)):=aQ (λ k hk=>by
  rw[dS hc,List.getD_eq_getElem?_getD,List.getElem?_map,List.getD_eq_getElem?_getD,List.getElem?_eq_getElem hk];rfl)
 have HRR:Hid (∀ k,k<(gOf l).reach.length->(gOf l).R ((gOf l).reach.getD k 0)):=aQ (λ k hk=>(Fl.Fg.mem_reach HG.out).1 (Fl.getD_mem hk));generalize (aS l).1=e0 at *;obtain⟨N,hNl⟩:∃ N,l.length=N:=⟨_,rfl⟩;have HNL:=aQ hNl;obtain⟨M,hM⟩:∃ M,(gOf l).reach.length=M:=⟨_,rfl⟩;have HM:=aQ hM
 have hMN:M<=4096:=by
  have h2:(gOf l).reach.length<=(List.range (gOf l).N).length:=List.length_filter_le _ _;have h3:(gOf l).N<=4096:=hN;rw[List.length_range]at h2;omega
 rw[hM]at hrn HRA HRR;have HRN:=aQ hrn;rw[hrn]at HRE HLE;rw[hNl]at hN HC HRE HLE HSU ⊢;clear h hc hNl hM hrn;go_enter Tryz.func10,Tryz.ntmps10
 go_wp2_with (first
  | (go_at_call 8;(with_reducible refine HC.out.mono ?_);rintro e w1 ⟨rfl,hb⟩;have B1:=aQ hb;clear hb)
  | (go_at_call 28;(with_reducible refine(HRE.out _ B1.out).mono ?_);rintro e w2 ⟨p2,c2,rfl,hn2,hb2⟩;have B2:=aQ (B1.out.trans (hb2.mono B1.out.size));have HR2:=aQ hn2;clear hb2 hn2)
  | (go_at_call 29;(with_reducible refine(HLE.out p2 c2 _ B2.out HR2.out).mono ?_);rintro e w3 ⟨g,L,rfl,hLl,hLd,hlw⟩;have B3:=aQ (B2.out.trans (hlw.low.mono B2.out.size));have HR3:=aQ (HR2.out.below hlw.low);have HLL:=aQ hLl;have HLD:=aQ hLd;have HLR:=aQ hlw.rb;clear hlw hLl hLd))
 go_loopw [8,9] (λ o v wr=>∃ (k:Nat) (p:Option Addr) (c:Nat),k<=M/\v=.int .i64 (k:Int)/\o=.slice p ((gOf l).lk k).length c/\Bl w3 wr (gOf l) k p c) (λ _ v _=>M - (intOf v).toNat)
 case atStart=>exact⟨0,none,0,Nat.zero_le _,rfl,rfl,Below.refl _ _,World.ownsRow_nil _ _ _ _⟩
 case round =>
  clear HC HRE HLE B1 B2 HR2;obtain⟨k,p,c,hk,rfl,rfl,hbl⟩:=hrel;have HB:=aQ hbl;by_cases hlt:k<M
  ·obtain⟨b1,o1,rfl,hl1,c0⟩:=(HR3.out.below hbl.low).cells k (by rw[HRN.out];exact hlt)
   rw[HRA.out k hlt]at c0;have hR:=HRR.out k hlt;have hiN:=(hR.ok HG.out).1;have hlc:=(HLR.out.next hbl.low).cell ((gOf l).reach.getD k 0) (by rw[HLL.out];have:(gOf l).reach.getD k 0<l.length:=hiN;rw[HNL.out]at this;omega);rw[HLD.out]at hlc;have hlg:=(HLR.out.next hbl.low).lt;cases hv:(gOf l).lead ((gOf l).reach.getD k 0)with
   | false =>
    rw[hv]at hlc;have HE:=aQ (Fl.Fg.lk_no (by rw[HM.out];exact hlt) hv);have hiN2:(gOf l).reach.getD k 0<N:=by rw[<- HNL.out];exact hiN
    generalize (gOf l).reach.getD k 0=a at *;clear hbl hv hR hiN;go_wp2_with fail
    go_roundw
    case rel=>exact⟨k+1,p,c,by omega,rfl,by rw[HE.out],⟨HB.out.low,by rw[HE.out];exact HB.out.own⟩⟩
    case measure=>simp[intOf];omega
   | true =>
    rw[hv]at hlc;have HV:=aQ hv;have HRa:=aQ hR;have hiN2:(gOf l).reach.getD k 0<N:=by rw[<- HNL.out];exact hiN
    obtain⟨a,ha⟩:∃ a,(gOf l).reach.getD k 0=a:=⟨_,rfl⟩;rw[ha]at c0 hlc HV HRa hiN2;have HA:=aQ ha;clear hbl hv hR hiN ha;go_wp2_with fail
    go_loopw [10] (λ v wr2=>∃ (i:Nat) (x1 x2:Int),v=.int .i64 (i:Int)/\Hid ((gOf l).R i)/\Hid ((gOf l).last i=(gOf l).last a)/\Bi w3 wr2 (gOf l) k p c wr.heap.size a x1 x2) (λ v _=>N - (intOf v).toNat)
    case atStart=>exact⟨a,0,0,rfl,HRa,aQ rfl,Bi.start HB.out⟩
    case round =>
     rename_i wr2
     clear c0 hl1 hlc hlg hiN2 HB;obtain⟨i,x1,x2,rfl,HRi,HLa,hbi⟩:=hrel;have hiN:=(HRi.out.ok HG.out).1;have hiN':i<N:=by rw[<- HNL.out];exact hiN
     have HSI:=HSU.out (i:Int);rw[su_ints HCK.out HRi.out]at HSI;simp only[List.length_map]at HSI;have HBD:=aQ (λ (W:World) (hW:Below w.heap.size w W)=>(HI.out.below hW).cells i hiN);have HRN2:=aQ (λ (W:World) (hW:Below w.heap.size w W)=>rnext_any q qc l i hiN W (HI.out.below hW));have HRJ:=aQ (λ (W:World)=>rjumps_any (l.getD i z) (HI.out.bd _ hiN) W);rw[HNL.out]at HRN2;have HJU:Hid (jB (l.getD i z)=(gOf l).ju i):=aQ rfl;have HNXT:Hid (nxI (l.getD i z) i=(gOf l).nx i):=aQ rfl;rw[HJU.out]at HRJ;rw[HNXT.out]at HRN2;have HFN:Hid ((gOf l).fin i=(decide (((gOf l).su i).length≠1) || (gOf l).ju i || (gOf l).lead (((gOf l).su i).getD 0 0))):=aQ rfl;have HSS:Hid (∀ s∈(gOf l).su i,s<N):=aQ (λ s hs=>by have:=(HG.out.su i hiN (HRi.out.ok HG.out).2 s hs).1;rw[<- HNL.out];exact this);clear HJU HNXT hiN;obtain⟨NX,hNX⟩:∃ n,(gOf l).nx i=n:=⟨_,rfl⟩;obtain⟨JU,hJU⟩:∃ n,(gOf l).ju i=n:=⟨_,rfl⟩;obtain⟨SU,hSU⟩:∃ n,(gOf l).su i=n:=⟨_,rfl⟩;rw[hNX]at HRN2;rw[hJU]at HRJ HFN;rw[hSU]at HSI HFN HSS;have HNX:=aQ hNX;have HJU:=aQ hJU;have HSU2:=aQ hSU;generalize l.getD i z=X at *;clear hNX hJU hSU;have HSI2:=aQ HSI;have HB1:=aQ (hbi.set2 (i:Int));have HB2:=aQ ((hbi.set2 (i:Int)).set1 (NX:Int));obtain⟨s0,s1,s2,s3,s4⟩:=hbi.c;have f1:=hbi.fz 1;have f2:=hbi.fz 2;have hbs:=hbi.bs;clear HSI hbi;by_cases hS:SU.length=1
     ·obtain⟨s0,rfl⟩:=List.length_eq_one_iff.1 hS
      have HS0:=aQ (HSS.out s0 (by simp));have sN:(s0:Int)<(N:Int)+2:=by have:=HS0.out;omega
      simp only[List.length_singleton,List.map_cons,List.map_nil]at HSI2;cases JU with
      | true =>
       have HF:(gOf l).fin i=true:=by rw[HFN.out];simp
       have HE5:Hid (b5 (gOf l) a=[.int .i64 (a:Int),.int .i64 (NX:Int),.int .i64 (i:Int),.slice none 0 0,.slice none 0 0]):=aQ (b5_end HG.out HRi.out HF HLa.out HNX.out);clear HF;have HLV:Hid (1=1):=aQ rfl
       go_wp2_with (first
        | (go_at_call 30;(with_reducible refine(HRN2.out _ (B3.out.trans (HB1.out.bl.low.mono B3.out.size))).mono ?_);rintro e w4 ⟨rfl,rfl⟩)
        | (go_at_call 22;(with_reducible refine(HSI2.out _ (B3.out.trans (HB2.out.bl.low.mono B3.out.size))).mono ?_);rintro e w5 ⟨p5,c5,rfl,hn5,hb5,hp5⟩;have HB5:=aQ (HB2.out.next hb5);have HN5:=aQ hn5;obtain⟨b3,o3,rfl,hl3,d0,d1,d2,d3,d4,d5⟩:=HBD.out w5 (B3.out.trans (HB5.out.bl.low.mono B3.out.size));clear hb5 hn5 hp5)
        | (go_at_call 31;(with_reducible refine(HRJ.out _).mono ?_);rintro e w6 ⟨rfl,hb6⟩;have HB6:=aQ (HB5.out.next hb6);have HN6:=aQ (HN5.out.below hb6);obtain⟨b4,o4,rfl,hl4,e4⟩:=HN6.out.cells 0 (by simp);have e4':w6.cell? ⟨b4,o4,none⟩=some (.int .i64 (s0:Int)):=e4;have hlc6:=(HLR.out.next HB6.out.bl.low).cell s0 (by rw[HLL.out];have:=HS0.out;omega);rw[HLD.out]at hlc6;(try rw[HLV.out]at hlc6);have hlg6:=(HLR.out.next HB6.out.bl.low).lt;obtain⟨t0,t1,t2,t3,t4⟩:=HB6.out.c;clear hb6 d0 d1 d2 d3 d4 d5 e4)
        | (at_builtin;refine fH rfl (.tmp 77) (.tmp 79) rfl rfl w3.heap.size ⟨w6.heap.size,0,none⟩ (b5 (gOf l) a) (flatB (gOf l) ((gOf l).lk k)) (.slice p ((gOf l).lk k).length c) ((gOf l).lk k).length 1 rfl rfl (own_below HB6.out.bl.own ((Below.refl _ _).alloc (Nat.le_refl _) _)) rfl (by rw[HE5.out];exact dQ _ _ _) (flatB_one1 _ _) (by have:=HB6.out.bl.low.size;simp;omega) (by have:=Fl.Fg.lk_len (gOf l) k;omega) ?_;intro v8 w8 ho8 hg8;obtain⟨q8,c8,rfl⟩:=aW ho8;have HP:=aQ (Bl.put (HB6.out.bl.next ((Below.refl _ _).alloc (Nat.le_refl _) _)) (by rw[HM.out];exact hlt) HA.out HV.out ho8 rfl hg8);clear ho8 hg8))
       go_roundw
       case rel=>exact⟨k+1,q8,c8,by omega,rfl,by rw[HP.out.2],HP.out.1⟩
       case measure=>simp[intOf];omega
      | false =>
       cases hlv:(gOf l).lead s0 with
       | true =>
        have HF:(gOf l).fin i=true:=by rw[HFN.out];simpa using hlv
        have HE5:Hid (b5 (gOf l) a=[.int .i64 (a:Int),.int .i64 (NX:Int),.int .i64 (i:Int),.slice none 0 0,.slice none 0 0]):=aQ (b5_end HG.out HRi.out HF HLa.out HNX.out);clear HF;have HLV:=aQ hlv;clear hlv
        go_wp2_with (first
         | (go_at_call 30;(with_reducible refine(HRN2.out _ (B3.out.trans (HB1.out.bl.low.mono B3.out.size))).mono ?_);rintro e w4 ⟨rfl,rfl⟩)
         | (go_at_call 22;(with_reducible refine(HSI2.out _ (B3.out.trans (HB2.out.bl.low.mono B3.out.size))).mono ?_);rintro e w5 ⟨p5,c5,rfl,hn5,hb5,hp5⟩;have HB5:=aQ (HB2.out.next hb5);have HN5:=aQ hn5;obtain⟨b3,o3,rfl,hl3,d0,d1,d2,d3,d4,d5⟩:=HBD.out w5 (B3.out.trans (HB5.out.bl.low.mono B3.out.size));clear hb5 hn5 hp5)
         | (go_at_call 31;(with_reducible refine(HRJ.out _).mono ?_);rintro e w6 ⟨rfl,hb6⟩;have HB6:=aQ (HB5.out.next hb6);have HN6:=aQ (HN5.out.below hb6);obtain⟨b4,o4,rfl,hl4,e4⟩:=HN6.out.cells 0 (by simp);have e4':w6.cell? ⟨b4,o4,none⟩=some (.int .i64 (s0:Int)):=e4;have hlc6:=(HLR.out.next HB6.out.bl.low).cell s0 (by rw[HLL.out];have:=HS0.out;omega);rw[HLD.out]at hlc6;(try rw[HLV.out]at hlc6);have hlg6:=(HLR.out.next HB6.out.bl.low).lt;obtain⟨t0,t1,t2,t3,t4⟩:=HB6.out.c;clear hb6 d0 d1 d2 d3 d4 d5 e4)
         | (at_builtin;refine fH rfl (.tmp 77) (.tmp 79) rfl rfl w3.heap.size ⟨w6.heap.size,0,none⟩ (b5 (gOf l) a) (flatB (gOf l) ((gOf l).lk k)) (.slice p ((gOf l).lk k).length c) ((gOf l).lk k).length 1 rfl rfl (own_below HB6.out.bl.own ((Below.refl _ _).alloc (Nat.le_refl _) _)) rfl (by rw[HE5.out];exact dQ _ _ _) (flatB_one1 _ _) (by have:=HB6.out.bl.low.size;simp;omega) (by have:=Fl.Fg.lk_len (gOf l) k;omega) ?_;intro v8 w8 ho8 hg8;obtain⟨q8,c8,rfl⟩:=aW ho8;have HP:=aQ (Bl.put (HB6.out.bl.next ((Below.refl _ _).alloc (Nat.le_refl _) _)) (by rw[HM.out];exact hlt) HA.out HV.out ho8 rfl hg8);clear ho8 hg8))
        go_roundw
        case rel=>exact⟨k+1,q8,c8,by omega,rfl,by rw[HP.out.2],HP.out.1⟩
        case measure=>simp[intOf];omega
       | false =>
        have HF:(gOf l).fin i=false:=by rw[HFN.out];simpa using hlv
        have HGO:=aQ (Fl.Fg.fin_no HG.out HRi.out HF);have HLG:=aQ (Fl.Fg.last_go HG.out HRi.out HF)
        have hs0:s0=(gOf l).nx i:=by
         have e:=HSU2.out.symm.trans HGO.out.1;injection e
        have HLV:=aQ hlv;have HS1:=aQ hs0;clear HF hlv hs0
        go_wp2_with (first
         | (go_at_call 30;(with_reducible refine(HRN2.out _ (B3.out.trans (HB1.out.bl.low.mono B3.out.size))).mono ?_);rintro e w4 ⟨rfl,rfl⟩)
         | (go_at_call 22;(with_reducible refine(HSI2.out _ (B3.out.trans (HB2.out.bl.low.mono B3.out.size))).mono ?_);rintro e w5 ⟨p5,c5,rfl,hn5,hb5,hp5⟩;have HB5:=aQ (HB2.out.next hb5);have HN5:=aQ hn5;obtain⟨b3,o3,rfl,hl3,d0,d1,d2,d3,d4,d5⟩:=HBD.out w5 (B3.out.trans (HB5.out.bl.low.mono B3.out.size));clear hb5 hn5 hp5)
         | (go_at_call 31;(with_reducible refine(HRJ.out _).mono ?_);rintro e w6 ⟨rfl,hb6⟩;have HB6:=aQ (HB5.out.next hb6);have HN6:=aQ (HN5.out.below hb6);obtain⟨b4,o4,rfl,hl4,e4⟩:=HN6.out.cells 0 (by simp);have e4':w6.cell? ⟨b4,o4,none⟩=some (.int .i64 (s0:Int)):=e4;have hlc6:=(HLR.out.next HB6.out.bl.low).cell s0 (by rw[HLL.out];have:=HS0.out;omega);rw[HLD.out]at hlc6;(try rw[HLV.out]at hlc6);have hlg6:=(HLR.out.next HB6.out.bl.low).lt;obtain⟨t0,t1,t2,t3,t4⟩:=HB6.out.c;clear hb6 d0 d1 d2 d3 d4 d5 e4))
        go_roundw
        case rel=>exact⟨s0,_,_,rfl,by rw[HS1.out];exact aQ HGO.out.2.2.2.2,by rw[HS1.out,<- HLa.out,HLG.out];exact aQ rfl,HB6.out⟩
        case measure=>have:=HGO.out.2.2.2.1;have:=HS1.out;simp[intOf];omega
     ·have hS2:((SU.length:Int) != 1)=true:=by simp;omega
      have HF:(gOf l).fin i=true:=by rw[HFN.out];simp[hS]
      have HE5:Hid (b5 (gOf l) a=[.int .i64 (a:Int),.int .i64 (NX:Int),.int .i64 (i:Int),.slice none 0 0,.slice none 0 0]):=aQ (b5_end HG.out HRi.out HF HLa.out HNX.out);clear HF
      go_wp2_with (first
       | (go_at_call 30;(with_reducible refine(HRN2.out _ (B3.out.trans (HB1.out.bl.low.mono B3.out.size))).mono ?_);rintro e w4 ⟨rfl,rfl⟩)
       | (go_at_call 22;(with_reducible refine(HSI2.out _ (B3.out.trans (HB2.out.bl.low.mono B3.out.size))).mono ?_);rintro e w5 ⟨p5,c5,rfl,hn5,hb5,hp5⟩;have HB5:=aQ (HB2.out.next hb5);have HN5:=aQ hn5;obtain⟨t0,t1,t2,t3,t4⟩:=HB5.out.c;clear hb5 hn5 hp5)
       | (at_builtin;refine fH rfl (.tmp 77) (.tmp 79) rfl rfl w3.heap.size ⟨w5.heap.size,0,none⟩ (b5 (gOf l) a) (flatB (gOf l) ((gOf l).lk k)) (.slice p ((gOf l).lk k).length c) ((gOf l).lk k).length 1 rfl rfl (own_below HB5.out.bl.own ((Below.refl _ _).alloc (Nat.le_refl _) _)) rfl (by rw[HE5.out];exact dQ _ _ _) (flatB_one1 _ _) (by have:=HB5.out.bl.low.size;simp;omega) (by have:=Fl.Fg.lk_len (gOf l) k;omega) ?_;intro v8 w8 ho8 hg8;obtain⟨q8,c8,rfl⟩:=aW ho8;have HP:=aQ (Bl.put (HB5.out.bl.next ((Below.refl _ _).alloc (Nat.le_refl _) _)) (by rw[HM.out];exact hlt) HA.out HV.out ho8 rfl hg8);clear ho8 hg8))
      go_roundw
      case rel=>exact⟨k+1,q8,c8,by omega,rfl,by rw[HP.out.2],HP.out.1⟩
      case measure=>simp[intOf];omega
  ·obtain rfl:M=k:=by omega
   have e1:(gOf l).lk M=(gOf l).ls:=by rw[<- HM.out];exact Fl.Fg.lk_all _
   have hn0:0<(gOf l).n:=Nat.lt_of_le_of_lt (Nat.zero_le _) (Fl.Fg.fd_lead HG.out .zero Fl.Fg.lead0).1
   have hnM:(gOf l).n<=4096:=by
    have h1:((gOf l).lk M).length<=M:=Fl.Fg.lk_len _ _;rw[e1]at h1;have:(gOf l).ls.length=(gOf l).n:=rfl;omega
   obtain⟨g2,rfl,hbm⟩:=Bm.start (q:=p) (c:=c) hn0 hbl.low (by have:=hbl.own;rw[e1]at this;exact this);have e2:((gOf l).lk M).length=(gOf l).n:=by rw[e1];rfl
   obtain⟨n,hn⟩:∃ n,(gOf l).n=n:=⟨_,rfl⟩;have HNN:=aQ hn
   have HS2:Hid (∀ i,((gOf l).su i).length<=2):=aQ (λ i=>by
    show((bG l (i:Int)).map Int.toNat).length<=2;rw[List.length_map];exact dT l _)
   have HRL:Hid (∀ k j r,j<=2->((gOf l).row k j r).length<=k+2):=aQ (λ k j r hj=>Fl.Fg.row_len (λ k=>HS2.out _) hj r);have HFR:Hid (∀ k,k<n->(gOf l).R ((gOf l).fr k)):=aQ (λ k hk=>(Fl.Fg.fr_ok HG.out (by rw[HNN.out];exact hk)).1);have HB:=aQ hbm;rw[e2,hn];rw[hn]at HB hn0 hnM;clear hbl hbm e1 e2 hn HRA HRR HLL HLD HLR HR3 HRN;go_wp2_with fail
   go_loopw [13] (λ v wr2=>∃ (k:Nat) (P:Nat->Option Addr) (C:Nat->Nat),k<=n/\v=.int .i64 (k:Int)/\Bm w3 wr2 g2 n (gOf l) P C ((gOf l).row k 0)) (λ v _=>n - (intOf v).toNat)
   case atStart=>exact⟨0,_,_,Nat.zero_le _,rfl,HB.out⟩
   case round =>
    clear HB;obtain⟨k,P,C,hk,rfl,hbm⟩:=hrel;have HB:=aQ hbm;by_cases hlt:k<n
    ·obtain⟨c0,c1,c2⟩:=hbm.c k hlt
     have hgl:=hbm.gl;obtain⟨l1,l2,_⟩:=Fl.Fg.last_ok HG.out _ (HFR.out k hlt);have HSI:=HSU.out ((gOf l).la k:Int);have l1':(gOf l).R ((gOf l).la k):=l1;rw[su_ints HCK.out l1']at HSI;simp only[List.length_map]at HSI;have HSL:Hid (∀ s∈(gOf l).su ((gOf l).la k),(gOf l).R s/\(gOf l).lead s=true):=aQ (λ s hs=>Fl.Fg.su_lead HG.out l1 l2 hs);have HSI2:=aQ HSI;have hS2:=HS2.out ((gOf l).la k);have HNXT:=aQ (Fl.Fg.row_next (gOf l) k);have HOLD:=aQ (λ j (hj:j<((gOf l).su ((gOf l).la k)).length) h=>Fl.Fg.row_old (G:=gOf l) (k:=k) (j:=j) hj h);have HNEW:=aQ (λ j t (hj:j<((gOf l).su ((gOf l).la k)).length) ht h=>Fl.Fg.row_new (G:=gOf l) (k:=k) (j:=j) (t:=t) hj ht h);have HHERE:=aQ (λ j=>Fl.Fg.row_here (gOf l) k j);obtain⟨SU,hSU⟩:∃ n,(gOf l).su ((gOf l).la k)=n:=⟨_,rfl⟩;obtain⟨LA,hLA⟩:∃ n,(gOf l).la k=n:=⟨_,rfl⟩;obtain⟨S,hS⟩:∃ n,SU.length=n:=⟨_,rfl⟩;rw[hSU]at HSI2 HSL hS2 HNXT HOLD HNEW;rw[hS]at HSI2 hS2 HNXT HOLD HNEW;rw[hLA]at c2 HSI2;have HS:=aQ hS;clear hbm c0 c1 l1 l2 l1' HSI hSU hLA hS;go_wp2_with (go_at_call 22;(with_reducible refine(HSI2.out _ (B3.out.trans (HB.out.low.mono B3.out.size))).mono ?_);rintro e w5 ⟨p5,c5,rfl,hn5,hb5,hp5⟩;have HJ:=aQ (Bj.start HB.out hb5 hn5 hp5);clear hb5 hn5 hp5)
     go_loopw [15] (λ v wr3=>∃ (j:Nat) (P:Nat->Option Addr) (C:Nat->Nat),j<=S/\v=.int .i64 (j:Int)/\Bj w3 wr3 g2 n (gOf l) P C ((gOf l).row k j) p5 (SU.map Int.ofNat)) (λ v _=>S - (intOf v).toNat)
     case atStart=>exact⟨0,P,C,Nat.zero_le _,rfl,HJ.out⟩
     case round =>
      clear HJ HB c2 hgl P C;obtain⟨j,P,C,hj,rfl,hbj⟩:=hrel;have HJ:=aQ hbj;by_cases hjs:j<S
      ·have hjs2:j<SU.length:=by rw[HS.out];exact hjs
       obtain⟨b4,o4,rfl,hl4,e4⟩:=hbj.nu.cells j (by rw[List.length_map];exact hjs2)
       have hse:(SU.map Int.ofNat).getD j 0=((SU.getD j 0:Nat):Int):=by
        rw[List.getD_eq_getElem?_getD,List.getElem?_map,List.getD_eq_getElem?_getD,List.getElem?_eq_getElem hjs2];rfl
       rw[hse]at e4;have hsm:SU.getD j 0∈SU:=Fl.getD_mem hjs2;obtain⟨r1,r2⟩:=HSL.out _ hsm;have HOLD2:=aQ (HOLD.out j hjs);have HNEW2:=aQ (λ t=>HNEW.out j t hjs);generalize SU.getD j 0=s at *;obtain⟨t1,t2,_⟩:=Fl.Fg.fd_lead HG.out r1 r2;rw[HNN.out]at t1;have HFD:=aQ (λ W (hW:FtAt W (some ⟨g2,0,none⟩) n (λ k=>((gOf l).fr k:Int)) (λ k=>((gOf l).to ((gOf l).fr k):Int)))=>rfind_any (some ⟨g2,0,none⟩) c n _ _ (s:Int) W hW);have hfl:=find_lead HG.out r1 r2;rw[HNN.out]at hfl;rw[hfl]at HFD;generalize (gOf l).fd s=t at *;have HHR:=aQ (HHERE.out j);have HL0:=aQ (HRL.out k j (2*k) (by omega));have HL1:=aQ (HRL.out k j (2*t+1) (by omega));have p0:=hbj.at (r:=2*k) (o:=k*5+3) (by omega) (by omega);have hgl:=hbj.bm.gl;by_cases hin:t∈(gOf l).row k j (2*k)
       ·have HE:=aQ (HOLD2.out (HHR.out ▸ hin))
        have HHS:=aQ (has_any hbj (r:=2*k) (by omega) (by have:=HL0.out;omega) t (b:=true) (by simp[hin]));clear hbj hin hsm r1 r2 t2 hfl HNEW2 HNEW HOLD;generalize (gOf l).row k j=R0 at *
        go_wp2_with (first
         | (go_at_call 32;(with_reducible refine(HFD.out _ (HJ.out.bm.ft hnM)).mono ?_);rintro e w6 ⟨rfl,rfl⟩)
         | (go_at_call 33;(with_reducible refine HHS.out.mono ?_);rintro e w7 ⟨rfl,rfl⟩))
        go_roundw
        case rel=>exact⟨j+1,P,C,by omega,rfl,by rw[HE.out];exact HJ.out⟩
        case measure=>simp[intOf];omega
       ·have HE:=aQ (HNEW2.out t rfl (λ c=>hin (HHR.out ▸ c)))
        have HHS:=aQ (has_any hbj (r:=2*k) (by omega) (by have:=HL0.out;omega) t (b:=false) (by simp[hin]));have HHL:=aQ hl4;clear hbj hin hsm r1 r2 t2 hfl HNEW2 HNEW HOLD HOLD2 HHR hl4;generalize (gOf l).row k j=R0 at *;have HN8:Hid (∀ (x:Int) (W:World) (n:Nat),W.heap.size=n->NumsAt .i64 (W.alloc (.cells #[.int .i64 x] 3)) (some ⟨n,0,none⟩) [x]):=aQ (λ x W n h=>by subst h;exact bH (k:=.i64) W 3 [x] #[.int .i64 x] rfl (by simp));have HN9:=aQ (λ (x:Int) W=>bH (k:=.i64) W 3 [x] #[.int .i64 x] rfl (by simp))
        go_wp2_with (first
         | (go_at_call 32;(with_reducible refine(HFD.out _ (HJ.out.bm.ft hnM)).mono ?_);rintro e w6 ⟨rfl,rfl⟩)
         | (go_at_call 33;(with_reducible refine HHS.out.mono ?_);rintro e w7 ⟨rfl,rfl⟩)
         | (at_builtin;refine aZ rfl (.tmp 120) (.tmp 122) rfl rfl w3.heap.size (some ⟨wr.heap.size,0,none⟩) [(t:Int)] ((R0 (2*k)).map Int.ofNat) (.slice (P (2*k)) (R0 (2*k)).length (C (2*k))) 1 1 rfl rfl rfl ((HJ.out.next ((Below.refl _ _).alloc (Nat.le_refl _) _)).row (r:=2*k) (by omega)) (HN9.out _ _) (by have:=HJ.out.bm.low.size;simp;omega) (by have:=HL0.out;simp;omega) ?_;intro v8 w8 ho8 hg8 hb8;obtain⟨q8,c8,rfl⟩:=aW ho8;obtain⟨m0,m1,m2⟩:=(HJ.out.next ((Below.refl _ _).alloc (Nat.le_refl _) _)).mid (aH _ _ _) (r:=2*k) (o:=k*5+3) (by omega) (by omega) hg8;have HX:=aQ ((HJ.out.next ((Below.refl _ _).alloc (Nat.le_refl _) _)).app (aH _ _ _) (r:=2*k) (o:=k*5+3) (by omega) (by omega) ho8 (by simp) hg8 hb8 (λ ad e=>by cases e;have:=HHL.out;simp;omega));simp only[List.length_append,List.length_map,List.length_cons,List.length_nil,Nat.zero_add]at HX;obtain⟨P1,hP1⟩:∃ f,Fl.upd P (2*k) q8=f:=⟨_,rfl⟩;obtain⟨C1,hC1⟩:∃ f,Fl.upd C (2*k) c8=f:=⟨_,rfl⟩;obtain⟨R1,hR1⟩:∃ f,Fl.upd R0 (2*k) (R0 (2*k) ++ [t])=f:=⟨_,rfl⟩;have HR1:=aQ hR1;have HRo:Hid (R1 (2*t+1)=R0 (2*t+1)):=aQ (by rw[<- hR1];exact Fl.upd_other _ _ (by omega));rw[hP1,hC1,hR1]at HX;have p1:=HX.out.at (r:=2*t+1) (o:=t*5+4) (by omega) (by omega);clear hP1 hC1 hR1 ho8 hg8 hb8)
         | (at_builtin;refine aZ rfl (.tmp 132) (.tmp 134) rfl rfl w3.heap.size (some ⟨w8.heap.size,0,none⟩) [(k:Int)] ((R1 (2*t+1)).map Int.ofNat) (.slice (P1 (2*t+1)) (R1 (2*t+1)).length (C1 (2*t+1))) 1 1 rfl rfl rfl ((HX.out.next ((Below.refl _ _).alloc (Nat.le_refl _) _)).row (r:=2*t+1) (by omega)) (HN8.out _ _ _ (by simp)) (by have:=HX.out.bm.low.size;simp at this ⊢;omega) (by have:=HL1.out;rw[HRo.out];simp;omega) ?_;intro v9 w9 ho9 hg9 hb9;obtain⟨q9,c9,rfl⟩:=aW ho9;obtain⟨n0,n1,n2⟩:=(HX.out.next ((Below.refl _ _).alloc (Nat.le_refl _) _)).mid (aH _ _ _) (r:=2*t+1) (o:=t*5+4) (by omega) (by omega) hg9;have HY:=aQ ((HX.out.next ((Below.refl _ _).alloc (Nat.le_refl _) _)).app (aH _ _ _) (r:=2*t+1) (o:=t*5+4) (by omega) (by omega) ho9 (by simp) hg9 hb9 (λ ad e=>by cases e;obtain⟨b9,o9,hq9,hb9',_⟩:=HX.out.nu.cells j (by rw[List.length_map];exact hjs2);cases hq9;simp at hb9' ⊢;omega));simp only[List.length_append,List.length_map,List.length_cons,List.length_nil,Nat.zero_add]at HY;clear ho9 hg9 hb9 p1 m0 m1 m2))
        go_roundw
        case rel=>exact⟨j+1,_,_,by omega,rfl,by rw[HE.out,HR1.out,<- HRo.out];exact HY.out⟩
        case measure=>simp[intOf];omega
      ·obtain rfl:j=S:=by omega
       clear hbj;go_wp2_with fail
       go_roundw
       case rel=>exact⟨k+1,P,C,by omega,rfl,by rw[<- HNXT.out];exact HJ.out.bm⟩
       case measure=>simp[intOf];omega
    ·obtain rfl:n=k:=by omega
     have HD:=aQ (Bm.done (l:=l) (P:=P) (C:=C) HCK.out (by rw[HNN.out];exact hbm) (by rw[HNN.out];exact hnM) (λ r=>by have:=HRL.out n 0 r (by omega);rw[HNN.out];omega));have HLN:=aQ (dR HCK.out);rw[HNN.out]at HLN;clear hbm;go_wp2_with fail
     go_ret2;exact⟨some ⟨g2,0,none⟩,c,by rw[HLN.out];first|rfl|exact rfl,HD.out,B3.out.trans (HB.out.low.mono B3.out.size)⟩
theorem rblocks_any(q:Option Addr)(qc:Nat)(l:List In)(w:World)(h:InsAt w q l):Calls Tryz.prog 10 #[.slice q l.length qc] w λ e w'=>∃ p c,e=.returned (.tuple #[.slice p (aR l).length c,.int .i64 (aS l).2])/\BksAt w' p (aR l)/\Below w.heap.size w w':=by
 by_cases hc:(aS l).2=0
 ·rw[hc];exact rblocks_yes q qc l w h hc
 ·refine(rblocks_no q qc l w h hc).mono ?_
  rintro e w' ⟨rfl,hb⟩;rw[blocks_no hc];exact⟨none,0,rfl,⟨by simp,λ i hi=>absurd hi (Nat.not_lt_zero _)⟩,hb⟩
structure Nd where
 op:Int
 id:Int
 alu:Int
 wide:Bool
 a:Int
 b:Int
 imm:Int
 size:Int
 off:Int
 guard:Bool
 args:List Int
 at':Int
structure Ph where
 id:Int
 fr:List Int
structure Te where
 op:Int
 cond:Int
 wide:Bool
 a:Int
 b:Int
 to':Int
 els:Int
structure Pt where
 pred:List Int
 phis:List Ph
 nodes:List Nd
 en:Te
def Nd.z:Nd:=⟨0,0,0,false,0,0,0,0,0,false,[],0⟩
def Ph.z:Ph:=⟨0,[]⟩
def Te.z:Te:=⟨0,0,false,0,0,0,0⟩
def Pt.z:Pt:=⟨[],[],[],Te.z⟩
def pt(l:List Pt)(i:Nat):Pt:=l.getD i Pt.z
def nd(l:List Nd)(i:Nat):Nd:=l.getD i Nd.z
def ph(l:List Ph)(i:Nat):Ph:=l.getD i Ph.z
def ndV(n:Nd)(q:Option Addr)(c:Nat):List Value :=
 [.int .i64 n.op,.int .i64 n.id,.int .i64 n.alu,.bool n.wide,.int .i64 n.a,.int .i64 n.b,.int .u64 n.imm,.int .i64 n.size,.int .i64 n.off,.bool n.guard,.slice q n.args.length c,.int .i64 n.at']
structure NodesAt(w:World)(q:Option Addr)(l:List Nd):Prop where
 small:l.length<=4294967296
 cells:∀ i,i<l.length->∃ g p c,q=some ⟨g,0,none⟩/\g<w.heap.size/\(∀ j v,(ndV (nd l i) p c)[j]?=some v->w.cell? ⟨g,i*12+j,none⟩=some v)/\NumsAt .i64 w p (nd l i).args
theorem NodesAt.below{w w':World}{q:Option Addr}{l:List Nd}(h:NodesAt w q l)(hb:Below w.heap.size w w'):NodesAt w' q l :=
 ⟨h.small,λ i hi=>by
  obtain⟨g,p,c,hq,hl,hc,hn⟩:=h.cells i hi;exact⟨g,p,c,hq,Nat.lt_of_lt_of_le hl hb.size,λ j v hv=>(hb.cell (p:=⟨g,_,none⟩) hl).trans (hc j v hv),hn.below hb⟩⟩
structure PhisAt(w:World)(q:Option Addr)(l:List Ph):Prop where
 small:l.length<=4294967296
 cells:∀ i,i<l.length->∃ g p c,q=some ⟨g,0,none⟩/\g<w.heap.size/\w.cell? ⟨g,i*2,none⟩=some (.int .i64 (ph l i).id)/\w.cell? ⟨g,i*2+1,none⟩=some (.slice p (ph l i).fr.length c)/\(ph l i).fr.length<=c/\NumsAt .i64 w p (ph l i).fr
theorem PhisAt.below{w w':World}{q:Option Addr}{l:List Ph}(h:PhisAt w q l)(hb:Below w.heap.size w w'):PhisAt w' q l :=
 ⟨h.small,λ i hi=>by
  obtain⟨g,p,c,hq,hl,h0,h1,h2,hn⟩:=h.cells i hi;exact⟨g,p,c,hq,Nat.lt_of_lt_of_le hl hb.size,(hb.cell (p:=⟨g,_,none⟩) hl).trans h0,(hb.cell (p:=⟨g,_,none⟩) hl).trans h1,h2,hn.below hb⟩⟩
def ptV(p:Pt)(qp:Option Addr)(cp:Nat)(qf:Option Addr)(cf:Nat)(qn:Option Addr)(cn:Nat):List Value :=
 [.slice qp p.pred.length cp,.slice qf p.phis.length cf,.slice qn p.nodes.length cn,.int .i64 p.en.op,.int .i64 p.en.cond,.bool p.en.wide,.int .i64 p.en.a,.int .i64 p.en.b,.int .i64 p.en.to',.int .i64 p.en.els]
structure PartsAt(w:World)(q:Option Addr)(l:List Pt):Prop where
 small:l.length<=4294967296
 cells:∀ i,i<l.length->∃ g qp cp qf cf qn cn,q=some ⟨g,0,none⟩/\g<w.heap.size/\(∀ j v,(ptV (pt l i) qp cp qf cf qn cn)[j]?=some v->w.cell? ⟨g,i*10+j,none⟩=some v)/\NumsAt .i64 w qp (pt l i).pred/\PhisAt w qf (pt l i).phis/\NodesAt w qn (pt l i).nodes
theorem PartsAt.below{w w':World}{q:Option Addr}{l:List Pt}(h:PartsAt w q l)(hb:Below w.heap.size w w'):PartsAt w' q l :=
 ⟨h.small,λ i hi=>by
  obtain⟨g,qp,cp,qf,cf,qn,cn,hq,hl,hc,h1,h2,h3⟩:=h.cells i hi;exact⟨g,qp,cp,qf,cf,qn,cn,hq,Nat.lt_of_lt_of_le hl hb.size,λ j v hv=>(hb.cell (p:=⟨g,_,none⟩) hl).trans (hc j v hv),h1.below hb,h2.below hb,h3.below hb⟩⟩
theorem PartsAt.at{w:World}{q:Option Addr}{l:List Pt}(h:PartsAt w q l){i:Nat}(hi:i<l.length):∃ g qp cp qf cf qn cn,q=some ⟨g,0,none⟩/\g<w.heap.size /\
  w.cell? ⟨g,i*10,none⟩=some (.slice qp (pt l i).pred.length cp)/\w.cell? ⟨g,i*10+1,none⟩=some (.slice qf (pt l i).phis.length cf)/\w.cell? ⟨g,i*10+2,none⟩=some (.slice qn (pt l i).nodes.length cn) /\
  w.cell? ⟨g,i*10+3,none⟩=some (.int .i64 (pt l i).en.op)/\w.cell? ⟨g,i*10+4,none⟩=some (.int .i64 (pt l i).en.cond)/\w.cell? ⟨g,i*10+5,none⟩=some (.bool (pt l i).en.wide)/\w.cell? ⟨g,i*10+6,none⟩=some (.int .i64 (pt l i).en.a)/\w.cell? ⟨g,i*10+7,none⟩=some (.int .i64 (pt l i).en.b)/\w.cell? ⟨g,i*10+8,none⟩=some (.int .i64 (pt l i).en.to')/\w.cell? ⟨g,i*10+9,none⟩=some (.int .i64 (pt l i).en.els) /\
  NumsAt .i64 w qp (pt l i).pred/\PhisAt w qf (pt l i).phis/\NodesAt w qn (pt l i).nodes:=by
 obtain⟨g,qp,cp,qf,cf,qn,cn,hq,hl,hc,h1,h2,h3⟩:=h.cells i hi;exact⟨g,qp,cp,qf,cf,qn,cn,hq,hl,hc 0 _ rfl,hc 1 _ rfl,hc 2 _ rfl,hc 3 _ rfl,hc 4 _ rfl,hc 5 _ rfl,hc 6 _ rfl,hc 7 _ rfl,hc 8 _ rfl,hc 9 _ rfl,h1,h2,h3⟩
theorem NodesAt.at{w:World}{q:Option Addr}{l:List Nd}(h:NodesAt w q l){i:Nat}(hi:i<l.length):∃ g p c,q=some ⟨g,0,none⟩/\g<w.heap.size /\
  w.cell? ⟨g,i*12,none⟩=some (.int .i64 (nd l i).op)/\w.cell? ⟨g,i*12+1,none⟩=some (.int .i64 (nd l i).id)/\w.cell? ⟨g,i*12+2,none⟩=some (.int .i64 (nd l i).alu)/\w.cell? ⟨g,i*12+3,none⟩=some (.bool (nd l i).wide)/\w.cell? ⟨g,i*12+4,none⟩=some (.int .i64 (nd l i).a)/\w.cell? ⟨g,i*12+5,none⟩=some (.int .i64 (nd l i).b) /\
  w.cell? ⟨g,i*12+6,none⟩=some (.int .u64 (nd l i).imm)/\w.cell? ⟨g,i*12+7,none⟩=some (.int .i64 (nd l i).size)/\w.cell? ⟨g,i*12+8,none⟩=some (.int .i64 (nd l i).off)/\w.cell? ⟨g,i*12+9,none⟩=some (.bool (nd l i).guard)/\w.cell? ⟨g,i*12+10,none⟩=some (.slice p (nd l i).args.length c)/\w.cell? ⟨g,i*12+11,none⟩=some (.int .i64 (nd l i).at')/\NumsAt .i64 w p (nd l i).args:=by
 obtain⟨g,p,c,hq,hl,hc,hn⟩:=h.cells i hi;exact⟨g,p,c,hq,hl,hc 0 _ rfl,hc 1 _ rfl,hc 2 _ rfl,hc 3 _ rfl,hc 4 _ rfl,hc 5 _ rfl,hc 6 _ rfl,hc 7 _ rfl,hc 8 _ rfl,hc 9 _ rfl,hc 10 _ rfl,hc 11 _ rfl,hn⟩
def aY(e:Te):List Int:=if e.op=1 then [e.to']else if e.op=2 then [e.to',e.els]else []
def bF(l:List Pt):List (List Int):=l.map λ p=>aY p.en
theorem leads_le(e:Te):(aY e).length<=2:=by unfold aY;split <;> (try split) <;> simp
theorem bP(l:List Pt):(bF l).length=l.length:=by simp[bF]
theorem dY(l:List Pt)(i:Nat)(h:i<l.length):(bF l).getD i []=aY (pt l i).en:=by
 unfold bF pt;rw[List.getD_eq_getElem?_getD,List.getElem?_map,List.getElem?_eq_getElem h,List.getD_eq_getElem?_getD,List.getElem?_eq_getElem h];rfl
theorem succF_tot(l:List Pt):J.tot (bF l)<=2*l.length:=by
 induction l with
 | nil=>exact Nat.le_refl _
 | cons p l ih =>
  have:=leads_le p.en;show(aY p.en).length+J.tot (bF l)<=_;rw[List.length_cons];omega
def dD(n:Nd):List Int:=if n.op=4∨n.op=6 then [n.a,n.b]else if n.op=5 then [n.a]else if n.op=7 then n.args else []
def eJ(e:Te):List Int:=if e.op=2 then [e.a,e.b]else if e.op=3 then [e.a]else []
end Go.Proofs.YtkfahppdklecdaaGreatDoor
