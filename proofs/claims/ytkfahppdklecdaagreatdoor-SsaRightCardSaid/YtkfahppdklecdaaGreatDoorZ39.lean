import Derived.Test.YtkfahppdklecdaaGreatDoorZ38
set_option maxRecDepth 100000
set_option maxHeartbeats 16000000
namespace Go.Proofs.YtkfahppdklecdaaGreatDoor
open Go.RowKit M
theorem kI{l:List In}(h:(aS l).2=0){i:Nat}(hi:i<l.length):insB (l.getD i z)=true∨l.getD i z=z:=by
 obtain⟨_,_,h3⟩:=cW h;have hb:=h3 i hi;unfold badI at hb;cases hh:bU l (i:Int)with
 | false =>
  rw[hh]at hb;have hm:mayB l i=true:=by simpa using hb
  unfold mayB at hm;rw[Bool.and_eq_true,Bool.and_eq_true]at hm;exact .inl hm.1.1
 | true =>
  refine .inr ?_;rw[fG hi]at hh;cases i with
  | zero=>cases hh
  | succ j =>
   rw[gA]at hh;obtain⟨g1,g2⟩:=Bool.and_eq_true _ _ ▸ hh;have g1':(l.getD j z).op=24:=of_decide_eq_true g1;have hjl:j<l.length:=by omega
   have hb2:=h3 j hjl;unfold badI at hb2;rw[fG hjl]at hb2;have g2':hR (opL l) j=false:=by simpa using g2
   rw[g2']at hb2;have hm:mayB l j=true:=by simpa using hb2
   unfold mayB at hm;rw[Bool.and_eq_true,Bool.and_eq_true]at hm;have hw:=hm.1.2;unfold eL gE at hw;rw[g1']at hw;simp at hw;have:=hw.2;rw[eqB_true]at this;rw[List.getD_eq_getElem?_getD];exact this
theorem ins_dk{x:In}(h:insB x=true∨x=z):Dk x/\LdOk x/\OffOk x/\(dU x=true->0<=cQ x/\cQ x<=10):=by
 rcases h with h|rfl
 ·unfold insB at h
  rw[Bool.and_eq_true]at h;obtain⟨hf,ho⟩:=h;unfold fitsB at hf;rw[Bool.and_eq_true,Bool.and_eq_true,Bool.and_eq_true,dW,dW,dW,dW]at hf;obtain⟨f1,f2,f3,f4⟩:=hf;have hset:dU x=true->0<=cQ x/\cQ x<=10:=λ _=>by unfold cQ;split <;> omega
  have hoff:OffOk x:=λ _=>f3
  by_cases h24:x.op=24
  ·rw[if_pos h24]at ho
   refine⟨⟨by omega,⟨f1,f2⟩,λ e=>by omega,λ _=>?_⟩,λ e=>by omega,hoff,hset⟩;unfold wideB at ho;rw[Bool.and_eq_true,Bool.and_eq_true]at ho;have h3:=ho.2.2;by_cases s0:x.src=0
   ·exact .inr s0
   ·rw[if_neg s0]at h3
    by_cases s1:x.src=1
    ·rw[if_pos s1,Bool.and_eq_true,dW]at h3
     exact .inl h3.1
    ·rw[if_neg s1]at h3;cases h3
  ·rw[if_neg h24,Bool.and_eq_true]at ho
   have ho:=ho.2;unfold oneB at ho;by_cases h5:x.op=5
   ·exact⟨⟨by omega,⟨f1,f2⟩,λ e=>by omega,λ e=>by omega⟩,λ e=>by omega,hoff,hset⟩
   ·rw[if_neg h5]at ho
    by_cases h133:x.op=133
    ·rw[if_pos h133,Bool.and_eq_true,dW]at ho
     exact⟨⟨by omega,⟨f1,f2⟩,λ _=>ho.2,λ e=>by omega⟩,λ e=>by omega,hoff,hset⟩
    ·rw[if_neg h133]at ho
     by_cases h149:x.op=149
     ·exact⟨⟨by omega,⟨f1,f2⟩,λ e=>by omega,λ e=>by omega⟩,λ e=>by omega,hoff,hset⟩
     ·rw[if_neg h149]at ho
      by_cases ha:aluB x.op=true
      ·have:=aluB_true.1 ha
       exact⟨⟨by omega,⟨f1,f2⟩,λ e=>by omega,λ e=>by omega⟩,λ e=>by omega,hoff,hset⟩
      ·rw[if_neg ha]at ho
       by_cases hj:jmpB x.op=true
       ·have:=fF.1 hj
        exact⟨⟨by omega,⟨f1,f2⟩,λ e=>by omega,λ e=>by omega⟩,λ e=>by omega,hoff,hset⟩
       ·rw[if_neg hj,Bool.and_eq_true]at ho
        have hs:dJ x.op≠0:=by simpa using ho.1
        have hb:(97<=x.op/\x.op<=123)/\0<dJ x.op:=by
         clear ho hoff hset
         revert hs
         unfold dJ
         (repeat' split) <;> intro hs <;> first|exact absurd rfl hs|exact⟨by omega,by decide⟩
        exact⟨⟨by omega,⟨f1,f2⟩,λ e=>by omega,λ e=>by omega⟩,λ _=>hb.2,hoff,hset⟩
 ·exact⟨⟨by decide,⟨by decide,by decide⟩,λ e=>absurd e (by decide),λ e=>absurd e (by decide)⟩,λ e=>absurd e (by decide),λ e=>absurd e (by decide),λ e=>absurd e (by decide)⟩
section
open Fl
theorem Fl.Fg.ends{G:Fg}(hG:G.Ok):∀ a,G.R a->∀ i,G.R i->a<=i->i<G.to a->G.fin i=true->i=G.last a:=by
 refine Fg.walk hG (λ a ha hf i hi h1 h2 h3=>?_) (λ a ha hf ih i hi h1 h2 h3=>?_)
 ·have hl:=Fg.last_fin hG ha hf
  unfold Fg.to at h2;rw[hl]at h2 ⊢;obtain⟨n1,n2⟩:=ha.ok hG;obtain⟨_,i2⟩:=hi.ok hG;rcases hG.nx a n1 n2 with e|⟨e,e2⟩
  ·omega
  ·by_cases c:i=a
   ·exact c
   ·have:i=a+1:=by omega
    rw[this]at i2;rw[i2]at e2;cases e2
 ·obtain⟨_,_,_,g4,g5⟩:=Fg.fin_no hG ha hf
  have hl:=Fg.last_go hG ha hf;have ht:G.to a=G.to (G.nx a):=by unfold Fg.to;rw[hl]
  rw[hl];rw[ht]at h2;have hia:i≠a:=λ e=>by rw[e,hf]at h3;cases h3
  refine ih i hi ?_ h2 h3;obtain⟨n1,n2⟩:=ha.ok hG;obtain⟨_,i2⟩:=hi.ok hG;rcases hG.nx a n1 n2 with e|⟨e,e2⟩
  ·omega
  ·by_cases c:i=a+1
   ·rw[c]at i2;rw[i2]at e2;cases e2
   ·omega
end
end Go.Proofs.YtkfahppdklecdaaGreatDoor
namespace Go.Proofs.YtkfahppdklecdaaGreatDoor
open Go.RowKit M
open Fl
structure BkF(l:List In)(i:Nat):Prop where
 bk:bk (aR l) i=(gOf l).blk i
 fr:(gOf l).R ((gOf l).fr i)
 ld:(gOf l).lead ((gOf l).fr i)=true
 la:(gOf l).R ((gOf l).la i)
 fin:(gOf l).fin ((gOf l).la i)=true
 fl:(gOf l).fr i<=(gOf l).la i
 lt:(gOf l).la i<(gOf l).to ((gOf l).fr i)
 tl:(gOf l).to ((gOf l).fr i)<=l.length
 ll:(gOf l).la i<l.length
theorem bkF{l:List In}(hc:(aS l).2=0){i:Nat}(hi:i<(gOf l).n):BkF l i:=by
 have hG:=bJ hc;obtain⟨h1,h2⟩:=Fg.fr_ok hG hi;obtain⟨h3,h4,h5⟩:=Fg.last_ok hG _ h1;obtain⟨h6,h7,h8⟩:=Fg.to_ok hG h1;obtain⟨h9,h10⟩:=h3.ok hG;refine⟨blocks_at hc hi,h1,h2,h3,h4,h5,h6,?_,h9⟩;show(gOf l).nx ((gOf l).last ((gOf l).fr i))<=l.length;have h9':(gOf l).last ((gOf l).fr i)<l.length:=h9;rcases hG.nx _ h9 h10 with e|⟨e,e2⟩
 ·omega
 ·have e2':bU l (((gOf l).last ((gOf l).fr i)+1:Nat):Int)=true:=e2
  unfold bU at e2';rw[Bool.and_eq_true]at e2';have:=of_decide_eq_true e2'.1;omega
theorem su_le(l:List In)(i:Nat):((gOf l).su i).length<=2:=by
 show((bG l (i:Int)).map Int.toNat).length<=2;rw[List.length_map];exact dT _ _
theorem jY(l:List In)(i:Nat):((gOf l).sk i).length<=2:=Nat.le_trans (Fg.sk_len _ _) (su_le l _)
theorem sk_lt{l:List In}(hc:(aS l).2=0){i:Nat}(hi:i<(gOf l).n){t:Nat}(ht:t∈(gOf l).sk i):t<(gOf l).n:=by
 obtain⟨s,hs,rfl⟩:=Fg.sk_mem.1 ht;exact(Fg.edge (bJ hc) hi hs).1
theorem n_le{l:List In}:(gOf l).n<=l.length:=by
 show(gOf l).ls.length<=_;have h1:(gOf l).ls.length<=(gOf l).reach.length:=List.length_filter_le _ _;have h2:(gOf l).reach.length<=(List.range (gOf l).N).length:=List.length_filter_le _ _;rw[List.length_range]at h2;exact Nat.le_trans h1 h2
theorem jJ{l:List In}(hc:(aS l).2=0):0<(gOf l).n:=by
 have hG:=bJ hc;exact List.length_pos_of_mem ((Fg.mem_ls hG).2 ⟨.zero,Fg.lead0⟩)
theorem fr_0{l:List In}(hc:(aS l).2=0):(gOf l).fr 0=0:=by
 have hG:=bJ hc;obtain⟨k,hk,e⟩:=mem_getD ((Fg.mem_ls hG).2 ⟨.zero,Fg.lead0⟩);have e':(gOf l).fr k=0:=e;by_cases c:k=0
 ·rw[c]at e';exact e'
 ·have:=Fg.fr_lt (gOf l) (i:=0) (j:=k) (by omega) hk
  omega
theorem gV(B:List Bk):bM B<=1:=by unfold bM;split <;> omega
theorem iC{l:List In}{a:Nat}{B:List Bk}(ha:a<=1):(layE l a B).length=a+B.length:=by
 unfold layE;rw[List.length_append,List.length_map];split
 ·rename_i h;subst h;rfl
 ·have:a=0:=by omega
  subst this;rfl
theorem jL{l:List In}{a:Nat}{B:List Bk}(ha:a<=1){i:Nat}(hi:i<B.length):(layE l a B)[i+a]?=some (endB l a (bk B i)):=by
 have hb:bk B i=B[i]:=by unfold bk;rw[List.getD_eq_getElem?_getD,List.getElem?_eq_getElem hi];rfl
 unfold layE;rw[hb];by_cases h:a=1
 ·subst h
  rw[if_pos rfl,List.getElem?_append_right (by simp)];simp[hi]
 ·have:a=0:=by omega
  subst this;simp[hi]
theorem iH{l:List In}{B:List Bk}:(layE l 1 B)[0]?=some ⟨1,0,false,0,0,1,0⟩:=by
 unfold layE;simp
theorem iT{l:List In}{a:Nat}{B:List Bk}{i:Nat}{e:Te}(h:(layE l a B)[i]?=some e):(pt (layP l a B) i).en=e:=by
 unfold pt layP;rw[List.getD_eq_getElem?_getD,List.getElem?_map,h];rfl
theorem iQ{l:List In}{a:Nat}{x:Bk}(h2:x.su.length<=2){s:Int}:s∈aY (endB l a x)↔∃ t∈x.su,s=t+a:=by
 unfold endB;generalize x.su=su at *
 match su,h2 with
 | [],_=>simp[aY]
 | [t],_=>simp[aY]
 | [t,u],_ =>
  rw[J.leads2 rfl];simp only[List.mem_cons,List.not_mem_nil,or_false];constructor
  ·rintro(h|h)
   ·exact⟨u,.inr rfl,h⟩
   ·exact⟨t,.inl rfl,h⟩
  ·rintro⟨y,rfl|rfl,h⟩
   ·exact .inr h
   ·exact .inl h
noncomputable def gP(l:List In):List (List Int):=bF (layP l (bM (aR l)) (aR l))
theorem iU{l:List In}(hc:(aS l).2=0):(gP l).length=bM (aR l)+(gOf l).n:=by
 unfold gP;rw[bP];unfold layP;rw[List.length_map,iC (gV _),dR hc]
theorem kJ{l:List In}{i:Nat}{e:Te}(h:(layE l (bM (aR l)) (aR l))[i]?=some e):(gP l).getD i []=aY e:=by
 have hi:i<(layP l (bM (aR l)) (aR l)).length:=by
  unfold layP;rw[List.length_map];rcases Nat.lt_or_ge i (layE l (bM (aR l)) (aR l)).length with c|c
  ·exact c
  ·rw[List.getElem?_eq_none c]at h;cases h
 unfold gP;rw[dY _ _ hi,iT h]
theorem iD{l:List In}(hc:(aS l).2=0):∀ x,x<(gP l).length->(J.Dm.gL (gP l)).R x:=by
 have hG:=bJ hc;have hn:=jJ hc;have ha:=gV (aR l);have hlen:=iU hc;have hbl:=dR hc;have h0:(J.Dm.gL (gP l)).R 0:=.zero (by show 0<(gP l).length;omega) (λ h=>h)
 have hfirst:(J.Dm.gL (gP l)).R (0+bM (aR l)):=by
  by_cases e:bM (aR l)=1
  ·have hr:(gP l).getD 0 []=aY ⟨1,0,false,0,0,1,0⟩:=kJ (by rw[e];exact iH)
   refine .step h0 (J.Dm.gL_e.2 ⟨by omega,?_,by omega⟩) (λ h=>h);rw[hr,e];simp[aY]
  ·have:bM (aR l)=0:=by omega
   rw[this];exact h0
 have key:∀ r,(gOf l).R r->∀ i,i<(gOf l).n->(gOf l).inB i r=true->(J.Dm.gL (gP l)).R (i+bM (aR l)):=by
  intro r hr
  induction hr with
  | zero =>
   intro i hi hin;have h1:(gOf l).inB 0 0=true:=Fg.inB_iff.2 (by rw[fr_0 hc];exact⟨Nat.le_refl _,by have:=(bkF hc hn);have h2:=this.lt;have h3:=this.fl;rw[fr_0 hc]at h2;omega⟩);have:=Fg.in_one hG hi hn hin h1;subst this;exact hfirst
  | @step r s hr hs ih =>
   intro i hi hin;obtain⟨k,hk,hkin⟩:=Fg.in_some hG hr;have hRk:=ih k hk hkin;obtain⟨f1,f2⟩:=Fg.inB_iff.1 hkin;obtain⟨hRf,_⟩:=Fg.fr_ok hG hk;cases hf:(gOf l).fin r with
   | false =>
    obtain⟨g1,_,_,g4,_⟩:=Fg.fin_no hG hr hf;rw[g1]at hs;rw[List.mem_singleton]at hs;subst hs;have h3:=Fg.on hG _ hRf r hr f1 f2 hf;have h4:(gOf l).inB k ((gOf l).nx r)=true:=Fg.inB_iff.2 ⟨by omega,h3⟩;have:=Fg.in_one hG hi hk hin h4;rw[this];exact hRk
   | true =>
    have he:=Fg.ends hG _ hRf r hr f1 f2 hf;have hs':s∈(gOf l).su ((gOf l).la k):=by rw[show(gOf l).la k=r from he.symm];exact hs
    obtain⟨e1,e2,_⟩:=Fg.edge hG hk hs';have hin2:(gOf l).inB ((gOf l).fd s) s=true:=Fg.inB_iff.2 ⟨by omega,by have:=(bkF hc e1);have h2:=this.lt;have h3:=this.fl;rw[e2]at h2 h3 ⊢;omega⟩;have:=Fg.in_one hG hi e1 hin hin2;subst this;have hkB:k<(aR l).length:=by omega
    have hrow:=kJ (jL (l:=l) ha hkB);have hbk:=(bkF hc hk).bk;have hsu:(bk (aR l) k).su=((gOf l).sk k).map Int.ofNat:=by rw[hbk];rfl
    refine .step hRk (J.Dm.gL_e.2 ⟨by omega,?_,by omega⟩) (λ h=>h);rw[hrow,iQ (by rw[hsu,List.length_map];exact jY l k),hsu];refine⟨(((gOf l).fd s:Nat):Int),List.mem_map.2 ⟨_,Fg.sk_mem.2 ⟨s,hs',rfl⟩,rfl⟩,by omega⟩
 intro x hx;by_cases c:bM (aR l)<=x
 ·obtain⟨i,rfl⟩:∃ i,x=i+bM (aR l):=⟨x - bM (aR l),by omega⟩
  have hi:i<(gOf l).n:=by omega
  have hb:=bkF hc hi;exact key _ hb.fr i hi (Fg.inB_iff.2 ⟨Nat.le_refl _,by have h1:=hb.fl;have h2:=hb.lt;omega⟩)
 ·have:x=0:=by omega
  subst this;exact h0
noncomputable def uP(l:List In)(x:Nat):Nat:=(J.Dm.upv (J.Dm.gL (gP l)) x).toNat
noncomputable def rkP(l:List In)(x:Nat):Nat:=(J.Dm.gL (gP l)).dn x
noncomputable def upT(l:List In):Nat->Nat
 | 0=>0
 | k+1=>(gOf l).to ((gOf l).fr k)
theorem jX{l:List In}(hc:(aS l).2=0){k:Nat}(hk:k<(gOf l).n):upT l k<=(gOf l).fr k:=by
 cases k with
 | zero=>exact Nat.zero_le _
 | succ k =>
  have:=Fg.behind (bJ hc) (k:=k+1) (by omega) hk;exact this
theorem jE{l:List In}(hc:(aS l).2=0){k:Nat}(hk:k<=(gOf l).n):upT l k<=l.length:=by
 cases k with
 | zero=>exact Nat.zero_le _
 | succ k=>exact(bkF hc (show k<(gOf l).n by omega)).tl
theorem eV{l:List In}(hc:(aS l).2=0){k:Nat}(hk:k<(gOf l).n):(bk (aR l) k).fr=((gOf l).fr k:Int)/\(bk (aR l) k).to=((gOf l).to ((gOf l).fr k):Int)/\(bk (aR l) k).la=((gOf l).la k:Int)/\(bk (aR l) k).su=((gOf l).sk k).map Int.ofNat/\(bk (aR l) k).pr=((gOf l).pk k).map Int.ofNat:=by
 rw[(bkF hc hk).bk];exact⟨rfl,rfl,rfl,rfl,rfl⟩
theorem iN{l:List In}(hc:(aS l).2=0)(a:Nat):∀ k,k<=(gOf l).n->∀ j,(J.setsA l (aR l) a k j).length<=upT l k
 | 0,_,_=>Nat.le_refl _
 | k+1,hk,j=>by
  obtain⟨b1,b2,_⟩:=eV hc (show k<(gOf l).n by omega);have h1:=J.setsN_le l (bk (aR l) k).fr.toNat ((k:Int)+a) (iN hc a k (by omega)) ((bk (aR l) k).to.toNat - (bk (aR l) k).fr.toNat) j;have h2:=jX hc (show k<(gOf l).n by omega);show(J.setsN l _ _ _ _ j).length<=(gOf l).to ((gOf l).fr k);refine Nat.le_trans h1 ?_;have hb:=bkF hc (show k<(gOf l).n by omega);have h3:=hb.fl;have h4:=hb.lt;rw[b1,b2,Int.toNat_natCast,Int.toNat_natCast];omega
theorem gY{l:List In}{f:Nat}{p:Int}{r:Nat->List Int}:∀ n j,∀ x∈J.setsN l f p n r j,x∈r j∨x=p
 | 0,_,_,h=>.inl h
 | n+1,j,x,h=>by
  have h':x∈J.setsI (J.setsN l f p n r) (l.getD (f+n) z) p j:=h;unfold J.setsI at h';split at h'
  ·unfold J.up1 at h'
   split at h'
   ·rename_i e
    rw[List.mem_append,List.mem_singleton]at h';rcases h' with h'|h'
    ·rw[e];exact gY n _ x h'
    ·exact .inr h'
   ·exact gY n j x h'
  ·exact gY n j x h'
theorem iM{l:List In}{B:List Bk}{a:Nat}:∀ k j,∀ x∈J.setsA l B a k j,∃ i:Nat,i<k/\x=(i:Int)+a
 | 0,_,_,h=>by cases h
 | k+1,j,x,h=>by
  rcases gY _ j x h with h|h
  ·obtain⟨i,h1,h2⟩:=iM k j x h
   exact⟨i,by omega,h2⟩
  ·exact⟨k,by omega,h⟩
theorem jD{l:List In}(hc:(aS l).2=0)(k:J.Lk)(h1:k.B=aR l)(ha:k.a<=1)(regs:Nat->List Int)(hr:∀ i,(regs i).length<=11):∀ m,m<=k.a+(gOf l).n->sumA (wgt k regs) m<=3+12*m+2*upT l (m - k.a)
 | 0,_=>by show 0<=_;omega
 | m+1,hm=>by
  have ih:=jD hc k h1 ha regs hr m (by omega);show sumA (wgt k regs) m+wgt k regs m<=_;have hrm:=hr m;have h0:m=0->sumA (wgt k regs) m=0:=λ e=>by subst e;rfl
  obtain⟨S,hS⟩:∃ S,sumA (wgt k regs) m=S:=⟨_,rfl⟩;rw[hS]at ih h0 ⊢;unfold wgt;rw[h1];by_cases c:k.a<=m
  ·rw[if_pos c]
   have hmn:m - k.a<(gOf l).n:=by omega
   obtain⟨b1,b2,_⟩:=eV hc hmn;have h2:=jX hc hmn;have hb:=bkF hc hmn;have h3:=hb.fl;have h4:=hb.lt
   have h5:upT l (m+1 - k.a)=(gOf l).to ((gOf l).fr (m - k.a)):=by
    rw[show m+1 - k.a=(m - k.a)+1 by omega];rfl
   rw[b1,b2,Int.toNat_natCast,Int.toNat_natCast,h5];by_cases e:m=0
   ·subst e
    have:=h0 rfl;rw[if_pos rfl];omega
   ·rw[if_neg e]
    omega
  ·rw[if_neg c]
   have e:m=0:=by omega
   subst e;have:=h0 rfl;rw[if_pos rfl];omega
theorem kK{l:List In}(hc:(aS l).2=0):∀ i,∀ s∈(gP l).getD i [],0<=s/\s<((gP l).length:Int):=by
 intro i s hs;by_cases hi:i<(gP l).length
 ·have hlen:=iU hc
  have hbl:=dR hc;have hE:=iC (l:=l) (B:=aR l) (gV (aR l))
  have h:=J.layE_rng (l:=l) (a:=bM (aR l)) (B:=aR l) (gV _) (by rw[hbl];exact jJ hc) (λ k hk s hs=>by
   rw[hbl]at hk;obtain⟨_,_,_,b4,_⟩:=eV hc hk;rw[b4]at hs;obtain⟨t,ht,rfl⟩:=List.mem_map.1 hs;have:=sk_lt hc hk ht;rw[hbl];exact⟨Int.natCast_nonneg _,by show((t:Nat):Int)<_;omega⟩) i (by omega) s (by
   rw[<- dY _ _ (by unfold layP;rw[List.length_map];omega)];exact hs)
  omega
 ·rw[List.getD_eq_getElem?_getD,List.getElem?_eq_none (by omega)]at hs;cases hs
theorem iG{l:List In}(hc:(aS l).2=0)(hl:l.length<=200)(k:J.Lk)(h1:k.l=l)(h2:k.B=aR l)(h3:k.a=bM (aR l)):Bh k (uP l) (rkP l) ((gP l).length+1):=by
 have hG:=bJ hc;have hlen:=iU hc;have hbl:=dR hc;have hnp:=jJ hc;have hnl:=n_le (l:=l);have ha:=gV (aR l);have hgP:bF k.L=gP l:=by unfold J.Lk.L gP;rw[h1,h2,h3]
 have hkn:k.n=bM (aR l)+(gOf l).n:=by unfold J.Lk.n;rw[h1,h2,h3,iC ha,hbl]
 have hl0:0<l.length:=by omega
 have hreg:∀ i,(∀ r∈bD k i,0<=r/\r<=10)/\(bD k i).length<=11:=λ i=>⟨λ r hr=>by
  unfold bD at hr;obtain⟨x,rfl,hx,_⟩:=J.meetL_mem.1 hr;omega,J.meetL_len _ _ _ _⟩
 have hins:∀ i,i<l.length->Dk (l.getD i z)/\LdOk (l.getD i z)/\OffOk (l.getD i z)/\(dU (l.getD i z)=true->0<=cQ (l.getD i z)/\cQ (l.getD i z)<=10):=λ i hi=>ins_dk (kI hc hi)
 refine⟨⟨by rw[h1];exact hl0,by rw[h1];omega,by omega,by rw[h3];exact ha,by rw[h2,h3,hbl];exact hkn,by rw[h2,hbl];exact hnp,λ i hi=>?_,λ b hb i hi1 hi2=>?_,λ b hb=>?_,λ i _=>hreg i,?_⟩,by rw[h2,hbl];omega,λ i hi=>?_,λ i hi=>?_,?_,λ i x hx=>?_,λ i x hx=>?_,λ j _=>⟨?_,λ x hx=>?_⟩,λ x hx0 hxn=>?_,λ x hx=>?_⟩
 ·rw[h2,hbl]at hi
  obtain⟨b1,b2,b3,_⟩:=eV hc hi;have hb:=bkF hc hi;have g1:=hb.fl;have g2:=hb.lt;have g3:=hb.tl;have g4:=hb.ll;rw[h2,h1,b1,b2,b3];omega
 ·rw[h2,hbl]at hb
  obtain⟨b1,b2,_⟩:=eV hc hb;have g3:=(bkF hc hb).tl;rw[h2,b2]at hi2;rw[h1];exact hins i (by omega)
 ·rw[h2,hbl]at hb
  obtain⟨_,_,b3,_⟩:=eV hc hb;have g4:=(bkF hc hb).ll;rw[h1,h2,b3,Int.toNat_natCast];exact(hins _ g4).1.ri
 ·have h5:=jD hc k h2 (by rw[h3];exact ha) (bD k) (λ i=>(hreg i).2) k.n (by rw[h3];omega)
  have h6:=jE hc (k:=k.n - k.a) (by rw[h3];omega);omega
 ·rw[h2,hbl]at hi
  obtain⟨_,_,_,b4,_⟩:=eV hc hi;rw[h2,b4,hbl];refine⟨by rw[List.length_map];exact jY l i,λ s hs=>?_⟩;obtain⟨t,ht,rfl⟩:=List.mem_map.1 hs;have:=sk_lt hc hi ht;exact⟨Int.natCast_nonneg _,by show((t:Nat):Int)<_;omega⟩
 ·rw[h1]at hi ⊢
  exact(hins i hi).2.2.2
 ·have:=succF_tot k.L
  have hL:k.L.length=k.n:=by unfold J.Lk.L J.Lk.n layP;rw[List.length_map]
  omega
 ·rw[hgP]at hx
  have:=kK hc i x hx;exact J.dK (by omega) (by omega)
 ·rw[hgP]at hx ⊢
  have hfl:(J.Dm.frontL (gP l)).length=(gP l).length:=by simp[J.Dm.frontL]
  rw[hfl];unfold J.Dm.frontL at hx;rw[List.getD_eq_getElem?_getD,List.getElem?_map]at hx;cases hg:(List.range (gP l).length)[i]? with
  | none=>rw[hg]at hx;cases hx
  | some y =>
   rw[hg]at hx;have hx':x∈J.Dm.frontR (gP l) y:=hx;unfold J.Dm.frontR at hx';obtain⟨t,ht,rfl⟩:=List.mem_map.1 hx';have:=List.mem_range.1 (List.mem_filter.1 ht).1;exact⟨Int.natCast_nonneg _,by show((t:Nat):Int)<_;omega⟩
 ·rw[h1,h2,h3,hbl]
  have h5:=iN hc (bM (aR l)) (gOf l).n (Nat.le_refl _) j;have h6:=jE hc (k:=(gOf l).n) (Nat.le_refl _);omega
 ·rw[h1,h2,h3,hbl]at hx
  obtain⟨i,hi,rfl⟩:=iM _ j x hx;omega
 ·rw[hgP]
  have hR:=iD hc x (by omega);rw[J.Dm.idomL_at (by omega)];rcases J.Dm.upv_up (J.Dm.gL (gP l)) x with ⟨_,h⟩|⟨u,e,hi⟩
  ·exact absurd (J.Dm.Dg.d0 hR) (h 0 (λ e=>hx0 e.symm))
  ·have hu:uP l x=u:=by unfold uP;rw[e,Int.toNat_natCast]
   refine⟨by rw[hu];exact e,?_,?_⟩
   ·rw[hu,hkn,<- hlen]
    exact hi.d.1.lt
   ·rw[hu];exact J.Dm.Dg.dn_lt hi
 ·have:rkP l x<=(gP l).length:=J.Dm.Dg.dn_le x
  omega
end Go.Proofs.YtkfahppdklecdaaGreatDoor
namespace Go.Proofs.YtkfahppdklecdaaGreatDoor
open Go.RowKit M
def AllA(s:Wq):Prop:=∀ n∈s.nodes,n.args.length<=3
theorem AllA.put{s:Wq}(h:AllA s){n:Nd}(hn:n.args.length<=3):AllA (putS s n):=by
 intro x hx;have hx':x∈s.nodes ++ [putN s n]:=hx;rcases List.mem_append.1 hx' with h1|h1
 ·exact h x h1
 ·rw[List.mem_singleton.1 h1];exact hn
theorem AllA.num{s:Wq}(h:AllA s)(x:Int):AllA (numS s x):=h.put (by show(0:Nat)<=3;omega)
theorem AllA.opd{s:Wq}(h:AllA s)(x:In)(wide:Bool):AllA (opdS s x wide):=by
 unfold opdS;split
 ·exact h
 ·exact h.num _
theorem AllA.step{s:Wq}(h:AllA s)(x:In):AllA (eC s x):=by
 have hm:∀ op wide,AllA (aluM s x op wide):=λ op wide=>by
  unfold aluM;split
  ·exact h
  ·exact h.opd x wide
 have hd:AllA (doS s x):=by
  unfold doS;split
  ·unfold aluS
   split
   ·exact hm _ _
   ·exact(hm _ _).put (by show(0:Nat)<=3;omega)
  ·split
   ·exact h.num _
   ·split
    ·refine h.put ?_
     show((List.range (arity x.imm)).map _).length<=3;rw[List.length_map,List.length_range];exact arity_le _
    ·split
     ·unfold accS
      split
      ·exact h.put (by show(0:Nat)<=3;omega)
      ·split
       ·exact h.put (by show(0:Nat)<=3;omega)
       ·exact(h.num _).put (by show(0:Nat)<=3;omega)
     ·exact h
 unfold eC;split
 ·exact λ n hn=>hd n hn
 ·exact hd
theorem AllA.blk{s:Wq}(h:AllA s)(p:List In)(f:Nat):∀ k,AllA (blkS p f k s)
 | 0=>λ n hn=>h n hn
 | k+1=>λ n hn=>(AllA.blk h p f k).step _ n hn
theorem i8(k:J.Lk)(regs:Nat->List Int)(i:Nat)(now:Nat->Int)(v:Int):AllA (cN k regs i now v):=by
 have h0:AllA (bZ i now v (regs i)):=by
  unfold bZ;intro n hn;rw[nodes_phis]at hn;split at hn
  ·have hb:AllA (cG now v):=λ n hn=>by cases hn
   have hA:AllA (dO (cG now v)):=λ n hn=>hb.num 0 n hn
   have hB:AllA (dF (cG now v)):=λ n hn=>hA.put (n:=ctxN 2) (by show(0:Nat)<=3;omega) n hn
   exact hB.put (n:=ctxN 3) (by show(0:Nat)<=3;omega) n hn
  ·cases hn
 unfold cN cJ;split
 ·have hb:=h0.blk k.l (bk k.B (i - k.a)).fr.toNat ((bk k.B (i - k.a)).to.toNat - (bk k.B (i - k.a)).fr.toNat)
  unfold cY askS;split
  ·exact λ n hn=>AllA.opd (s:={ blkS k.l (bk k.B (i - k.a)).fr.toNat ((bk k.B (i - k.a)).to.toNat - (bk k.B (i - k.a)).fr.toNat) (bZ i now v (regs i))with at':=((bk k.B (i - k.a)).la.toNat:Int) }) (λ n hn=>hb n hn) _ _ n hn
  ·split
   ·exact λ n hn=>hb n hn
   ·exact λ n hn=>hb n hn
 ·exact h0
theorem i9{k:J.Lk}{regs:Nat->List Int}(hg:Gd k regs){i:Nat}(hi:i<k.n)(now:Nat->Int)(v:Int):AllN (cN k regs i now v):=by
 obtain⟨b1,b2,b3,b4,b5⟩:=hg.bks _ (hg.blk hi);refine AllN.write _ _ _ _ _ _ _ _ _ _ _ (λ j h1 h2=>?_);have:=hg.dk _ (hg.blk hi) j (by omega) (by omega);exact⟨this.1,this.2.2.1⟩
theorem Rn.prt{k:J.Lk}{regs:Nat->List Int}{U:Nat->Nat}{F:Nat->Option Wq}{V0:Nat->Int}{v:Int}(h:Rn k regs U F V0 v){i:Nat}{s:Wq}(hs:F i=some s):∃ now,s=cN k regs i now (V0 i)/\(i=0∨(i≠0/\∃ t,F (U i)=some t/\now=t.now)):=by
 obtain⟨_,_,_,_,_,h6⟩:=h.is i s hs;rcases h6 with ⟨e,e2⟩|⟨e,t,ht,_,e2⟩
 ·subst e;exact⟨_,e2,.inl rfl⟩
 ·exact⟨_,e2,.inr ⟨e,t,ht,rfl⟩⟩
theorem iW{l:List Pt}{d:Df}:∀ {n:Nat},d∈dPt l n↔∃ i,i<n/\((∃ k,k<(pt l i).phis.length/\d=⟨(ph (pt l i).phis k).id,(i:Int),0⟩)∨∃ k,k<(pt l i).nodes.length/\(nd (pt l i).nodes k).op≠6/\d=⟨(nd (pt l i).nodes k).id,(i:Int),(k:Int)+1⟩)
 | 0=>⟨λ h=>(by cases h),λ ⟨i,h,_⟩=>absurd h (Nat.not_lt_zero _)⟩
 | n+1=>by
  have hP:∀ m,d∈dPh (pt l n) (n:Int) m↔∃ k,k<m/\d=⟨(ph (pt l n).phis k).id,(n:Int),0⟩:=λ m=>by
   induction m with
   | zero=>exact⟨λ h=>(by cases h),λ ⟨i,h,_⟩=>absurd h (Nat.not_lt_zero _)⟩
   | succ m ih =>
    show d∈dPh (pt l n) (n:Int) m ++ [_]↔_;rw[List.mem_append,ih,List.mem_singleton];constructor
    ·rintro(⟨k,h1,h2⟩|h)
     ·exact⟨k,by omega,h2⟩
     ·exact⟨m,Nat.lt_succ_self _,h⟩
    ·rintro⟨k,h1,h2⟩
     by_cases e:k=m
     ·subst e;exact .inr h2
     ·exact .inl ⟨k,by omega,h2⟩
  have hN:∀ m,d∈dNd (pt l n) (n:Int) m↔∃ k,k<m/\(nd (pt l n).nodes k).op≠6/\d=⟨(nd (pt l n).nodes k).id,(n:Int),(k:Int)+1⟩:=λ m=>by
   induction m with
   | zero=>exact⟨λ h=>(by cases h),λ ⟨i,h,_⟩=>absurd h (Nat.not_lt_zero _)⟩
   | succ m ih =>
    show d∈dNd (pt l n) (n:Int) m ++ (if (nd (pt l n).nodes m).op=6 then []else [_])↔_;rw[List.mem_append,ih];constructor
    ·rintro(⟨k,h1,h2⟩|h)
     ·exact⟨k,by omega,h2⟩
     ·split at h
      ·cases h
      ·rename_i h6
       exact⟨m,Nat.lt_succ_self _,h6,List.mem_singleton.1 h⟩
    ·rintro⟨k,h1,h2,h3⟩
     by_cases e:k=m
     ·subst e;rw[if_neg h2];exact .inr (List.mem_singleton.2 h3)
     ·exact .inl ⟨k,by omega,h2,h3⟩
  show d∈dPt l n ++ (dPh (pt l n) (n:Int) (pt l n).phis.length ++ dNd (pt l n) (n:Int) (pt l n).nodes.length)↔_;rw[List.mem_append,iW,List.mem_append,hP,hN];constructor
  ·rintro(⟨i,h1,h2⟩|h)
   ·exact⟨i,by omega,h2⟩
   ·exact⟨n,Nat.lt_succ_self _,h⟩
  ·rintro⟨i,h1,h2⟩
   by_cases e:i=n
   ·subst e;exact .inr h2
   ·exact .inl ⟨i,by omega,h2⟩
theorem jN(p:Pt)(i:Int):∀ m,m<=p.phis.length->(dPh p i m).map Df.id=(p.phis.take m).map Ph.id
 | 0,_=>rfl
 | m+1,h=>by
  show(dPh p i m ++ [_]).map Df.id=_;rw[List.map_append,jN p i m (by omega),List.take_add_one,List.getElem?_eq_getElem (by omega),List.map_append];unfold ph;rw[List.getD_eq_getElem?_getD,List.getElem?_eq_getElem (by omega)];rfl
theorem jO(p:Pt)(i:Int):∀ m,m<=p.nodes.length->(dNd p i m).map Df.id=mkN (p.nodes.take m)
 | 0,_=>rfl
 | m+1,h=>by
  show(dNd p i m ++ (if (nd p.nodes m).op=6 then []else [_])).map Df.id=_;have hm:nd p.nodes m=p.nodes[m]:=by unfold nd;rw[List.getD_eq_getElem?_getD,List.getElem?_eq_getElem (by omega)];rfl
  rw[List.map_append,jO p i m (by omega),List.take_add_one,List.getElem?_eq_getElem (by omega)];show _=mkN (p.nodes.take m ++ [p.nodes[m]]);rw[mkN_app,hm];split <;> rfl
section
variable {k:J.Lk} {regs:Nat->List Int} {U:Nat->Nat} {F:Nat->Option Wq} {V0:Nat->Int} {v:Int}
theorem iR(hrn:Rn k regs U F V0 v){i:Nat}(hF:F i≠none):(gT k regs F i).phis.map Ph.id=(sF F i).phis:=by
 have hl:=hrn.phis (eA hF);show((List.range (regs i).length).map _).map Ph.id=_;rw[List.map_map];refine List.ext_getElem? λ j=>?_
 rw[List.getElem?_map];by_cases hj:j<(regs i).length
 ·rw[List.getElem?_range hj]
  show some ((sF F i).phis.getD j 0)=_;rw[List.getD_eq_getElem?_getD,List.getElem?_eq_getElem (by omega)];rfl
 ·rw[List.getElem?_eq_none (by simp;omega),List.getElem?_eq_none (by omega)];rfl
theorem fin_df(hrn:Rn k regs U F V0 v)(hall:∀ x,x<k.n->F x≠none):DfOk (dPt (finL k regs F) (finL k regs F).length) v.toNat:=by
 have hids:∀ i,i<k.n->((dPh (pt (finL k regs F) i) (i:Int) (pt (finL k regs F) i).phis.length ++ dNd (pt (finL k regs F) i) (i:Int) (pt (finL k regs F) i).nodes.length).map Df.id)=(sF F i).phis ++ mkN (sF F i).nodes:=λ i hi=>by
  rw[dE k regs F hi,List.map_append,jN _ _ _ (Nat.le_refl _),jO _ _ _ (Nat.le_refl _),List.take_length,List.take_length,iR hrn (hall i hi)];rfl
 have hwi:∀ i,i<k.n->WiV (V0 i) (sF F i)/\0<=V0 i/\(sF F i).v<=v:=λ i hi=>by
  have hs:=eA (hall i hi);obtain⟨now,e,_⟩:=hrn.prt hs;obtain⟨_,h2,_,h4,_⟩:=hrn.is i _ hs;refine⟨?_,h2,h4⟩;rw[e];exact partS_wi ..
 have key:∀ m,m<=k.n->((dPt (finL k regs F) m).map Df.id).Nodup/\∀ x∈(dPt (finL k regs F) m).map Df.id,∃ i,i<m/\x∈(sF F i).phis ++ mkN (sF F i).nodes:=λ m=>by
  induction m with
  | zero=>intro _;exact⟨List.nodup_nil,λ x hx=>by cases hx⟩
  | succ m ih =>
   intro hm;obtain⟨h1,h2⟩:=ih (by omega)
   have e:(dPt (finL k regs F) (m+1)).map Df.id=(dPt (finL k regs F) m).map Df.id ++ ((sF F m).phis ++ mkN (sF F m).nodes):=by
    show(dPt (finL k regs F) m ++ _).map Df.id=_;rw[List.map_append,hids m (by omega)]
   rw[e];refine⟨?_,λ x hx=>?_⟩
   ·rw[List.nodup_append]
    refine⟨h1,(hwi m (by omega)).1.nd,λ a ha b hb eab=>?_⟩;obtain⟨i,hi,hx⟩:=h2 a ha;have r1:=(hwi i (by omega)).1.rg a hx;have r2:=(hwi m (by omega)).1.rg b hb;have:=hrn.sep i m _ _ (by omega) (eA (hall i (by omega))) (eA (hall m (by omega)));omega
   ·rcases List.mem_append.1 hx with hx|hx
    ·obtain⟨i,hi,hx⟩:=h2 x hx
     exact⟨i,by omega,hx⟩
    ·exact⟨m,Nat.lt_succ_self _,hx⟩
 rw[bL];obtain⟨h1,h2⟩:=key k.n (Nat.le_refl _);refine⟨λ d hd=>?_,h1⟩;obtain⟨i,hi,hx⟩:=h2 d.id (List.mem_map_of_mem hd);obtain⟨w1,w2,w3⟩:=hwi i hi;have:=w1.rg _ hx;have:=hrn.v0;omega
end
end Go.Proofs.YtkfahppdklecdaaGreatDoor
namespace Go.Proofs.YtkfahppdklecdaaGreatDoor
open Go.RowKit M
open Fl
section
variable {l:List In} {k:J.Lk} {F:Nat->Option Wq} {V0:Nat->Int} {v:Int}
theorem iL(regs:Nat->List Int)(F:Nat->Option Wq){i:Nat}(hi:i<k.n):aY (pt (finL k regs F) i).en=aY (pt k.L i).en:=by
 rw[dE k regs F hi];have hiE:i<k.E.length:=hi;have he:k.E[i]?=some (k.E.getD i Te.z):=by rw[List.getD_eq_getElem?_getD,List.getElem?_eq_getElem hiE];rfl
 rw[show k.L=layP k.l k.a k.B from rfl,iT (show(layE k.l k.a k.B)[i]?=some (k.E.getD i Te.z) from he)];rfl
theorem iE(k:J.Lk):k.L.length=k.n:=by unfold J.Lk.L J.Lk.n layP;rw[List.length_map]
theorem iX(regs:Nat->List Int)(F:Nat->Option Wq):bF (finL k regs F)=bF k.L:=by
 refine List.ext_getElem? λ i=>?_
 by_cases hi:i<k.n
 ·have h1:i<(bF (finL k regs F)).length:=by rw[bP,bL];exact hi
  have h2:i<(bF k.L).length:=by rw[bP,iE];exact hi
  have e1:=dY (finL k regs F) i (by rw[bL];exact hi);have e2:=dY k.L i (by rw[iE];exact hi);rw[iL regs F hi,<- e2]at e1;rw[List.getElem?_eq_getElem h1,List.getElem?_eq_getElem h2];rw[List.getD_eq_getElem?_getD,List.getD_eq_getElem?_getD,List.getElem?_eq_getElem h1,List.getElem?_eq_getElem h2]at e1;exact congrArg some e1
 ·rw[List.getElem?_eq_none (by rw[bP,bL];omega),List.getElem?_eq_none (by rw[bP,iE];omega)]
theorem iO{L L':List Pt}{i:Nat}(h:aY (pt L i).en=aY (pt L' i).en)(b a:Int):∀ m,prK L b a i m=prK L' b a i m
 | 0=>rfl
 | m+1=>by
  show prK L b a i m ++ _=prK L' b a i m ++ _;rw[iO h b a m,h]
theorem iP{L L':List Pt}(b:Int):∀ n,(∀ i,i<n->aY (pt L i).en=aY (pt L' i).en)->prA L b n=prA L' b n
 | 0,_=>rfl
 | n+1,h=>by
  show prA L b n ++ prK L b (n:Int) n _=prA L' b n ++ prK L' b (n:Int) n _;rw[iP b n (λ i hi=>h i (by omega)),iO (h n (Nat.lt_succ_self _)),h n (Nat.lt_succ_self _)]
theorem jF{L:List Pt}{i:Nat}{b:Int}(a:Int)(h:b ∉ aY (pt L i).en):∀ m,m<=(aY (pt L i).en).length->prK L b a i m=[]
 | 0,_=>rfl
 | m+1,hm=>by
  show prK L b a i m ++ (if (aY (pt L i).en).getD m 0=b then [a]else [])=[]
  rw[jF a h m (by omega),if_neg (λ e=>h (by
   rw[<- e,List.getD_eq_getElem?_getD,List.getElem?_eq_getElem (by omega)];exact List.getElem_mem _))]
  rfl
theorem jH{L:List Pt}{b:Int}:∀ n,(∀ i,i<n->b ∉ aY (pt L i).en)->prA L b n=[]
 | 0,_=>rfl
 | n+1,h=>by
  show prA L b n ++ prK L b (n:Int) n _=[];rw[jH n (λ i hi=>h i (by omega)),jF _ (h n (Nat.lt_succ_self _)) _ (Nat.le_refl _)];rfl
theorem iA(h2:k.B=aR l)(h3:k.a=bM (aR l))(hc:(aS l).2=0){i:Nat}(hi:i<k.n):(i=0/\k.a=1/\(layE k.l k.a k.B)[i]?=some ⟨1,0,false,0,0,1,0⟩)∨∃ j,j<(gOf l).n/\i=j+k.a/\(layE k.l k.a k.B)[i]?=some (endB k.l k.a (bk k.B j)):=by
 have ha:=gV (aR l);have hbl:=dR hc;have hkn:k.n=k.a+(gOf l).n:=by unfold J.Lk.n;rw[iC (by rw[h3];exact ha),h2,hbl]
 by_cases c:k.a<=i
 ·refine .inr ⟨i - k.a,by omega,by omega,?_⟩
  have:=jL (l:=k.l) (a:=k.a) (B:=k.B) (by rw[h3];exact ha) (i:=i - k.a) (by rw[h2,hbl];omega);rw[show i - k.a+k.a=i by omega]at this;exact this
 ·have e1:k.a=1:=by rw[h3];omega
  have e0:i=0:=by omega
  refine .inl ⟨e0,e1,?_⟩;rw[e0,e1];exact iH
theorem kN(hc:(aS l).2=0)(h1:k.l=l)(h2:k.B=aR l)(h3:k.a=bM (aR l))(regs:Nat->List Int)(F:Nat->Option Wq):EnOk (finL k regs F):=by
 have hG:=bJ hc;have hgP:bF k.L=gP l:=by unfold J.Lk.L gP;rw[h1,h2,h3]
 have hlen:=iU hc;have hbl:=dR hc;have hpos:=jJ hc;have hkn:k.n=(gP l).length:=by rw[<- hgP,bP,iE]
 have hend:∀ i,i<k.n->∀ e,(layE k.l k.a k.B)[i]?=some e->k.E.getD i Te.z=e:=λ i hi e he=>by
  have he':k.E[i]?=some e:=he;rw[List.getD_eq_getElem?_getD,he'];rfl
 have hrow:∀ i,i<k.n->aY (pt (finL k regs F) i).en=(gP l).getD i []:=λ i hi=>by
  rw[iL regs F hi,<- hgP,dY _ _ (by rw[iE];exact hi)]
 refine⟨λ i hi=>?_,λ i hi s hs=>?_,λ b hb=>?_,λ b hb=>?_,?_⟩
 ·rw[bL]at hi
  rw[dE k regs F hi];show(k.E.getD i Te.z).op=1∨((k.E.getD i Te.z).op=2/\cndB (k.E.getD i Te.z).cond=true/\(k.E.getD i Te.z).to'≠(k.E.getD i Te.z).els)∨(k.E.getD i Te.z).op=3;rcases iA h2 h3 hc hi with ⟨_,_,he⟩|⟨j,hj,_,he⟩
  ·rw[hend i hi _ he];exact .inl rfl
  ·rw[hend i hi _ he]
   obtain⟨_,_,b3,b4,_⟩:=eV hc hj;have hb:=bkF hc hj;unfold endB;rw[h1,h2,b4,b3,Int.toNat_natCast];have hnd:((gOf l).sk j).Nodup:=Fg.sk_nodup;have hsl:=Fg.sk_len (gOf l) j;obtain⟨sk,hsk⟩:∃ s,(gOf l).sk j=s:=⟨_,rfl⟩;rw[hsk]at hnd hsl ⊢
   match sk,hnd,hsl with
   | [],_,_=>exact .inr (.inr rfl)
   | [s],_,_=>exact .inl rfl
   | s :: t :: rest,hnd,hsl =>
    refine .inr (.inl ⟨rfl,?_,?_⟩)
    ·have h2':2<=((gOf l).su ((gOf l).la j)).length:=by simp at hsl;omega
     have hla:=hb.la.ok hG;have hpl:bQ l ((gOf l).la j:Int)=true:=gK.2 hla
     have h3':2<=(fM (l.getD ((gOf l).la j) z) ((gOf l).la j:Int)).length:=by
      rw[<- succ_at hpl]
      have:((gOf l).su ((gOf l).la j)).length=(bG l ((gOf l).la j:Int)).length:=by
       show((bG l ((gOf l).la j:Int)).map Int.toNat).length=_;rw[List.length_map]
      omega
     have hj':jmpB (l.getD ((gOf l).la j) z).op=true:=by
      unfold fM at h3';split at h3'
      ·simp at h3'
      ·split at h3'
       ·simp at h3'
       ·split at h3'
        ·simp at h3'
        ·split at h3'
         ·assumption
         ·simp at h3'
     show cndB (if jmpB (l.getD ((gOf l).la j) z).op=true then _ else 0)=true;rw[if_pos hj'];have:=fF.1 hj';unfold cndB;rw[decide_eq_true_iff];omega
    ·show Int.ofNat t+(k.a:Int)≠Int.ofNat s+(k.a:Int)
     intro e;have e2:Int.ofNat t=Int.ofNat s:=by omega
     have:t=s:=by injection e2
     rw[List.nodup_cons]at hnd;exact hnd.1 (by rw[this];exact List.mem_cons_self)
 ·rw[bL]at hi
  rw[hrow i hi]at hs;have:=kK hc i s hs;rw[bL,hkn];exact this
 ·rw[bL]at hb
  rw[iX,hgP];exact iD hc b (by omega)
 ·rw[bL]at hb
  rw[dE k regs F hb,bL];exact(iP _ _ (λ i hi=>iL regs F hi)).symm
 ·rw[dE k regs F (by omega)]
  refine jH _ (λ i hi hm=>?_);have hri:aY (pt k.L i).en=(gP l).getD i []:=by rw[<- hgP,dY _ _ (by rw[iE];exact hi)]
  rcases iA h2 h3 hc hi with ⟨_,ea,he⟩|⟨j,hj,_,he⟩
  ·rw[show k.L=layP k.l k.a k.B from rfl,iT he]at hm
   simp[aY]at hm
  ·rw[show k.L=layP k.l k.a k.B from rfl,iT he]at hm
   obtain⟨_,_,_,b4,_⟩:=eV hc hj;rw[iQ (by rw[h2,b4,List.length_map];exact jY l j),h2,b4]at hm;obtain⟨t,ht,e⟩:=hm;obtain⟨t',ht',rfl⟩:=List.mem_map.1 ht
   have ht0:t'=0/\k.a=0:=by
    have e':(0:Int)=((t':Nat):Int)+(k.a:Int):=e;omega
   rw[ht0.1]at ht';have hpr:j∈(gOf l).pk 0:=Fg.pk_mem.2 ⟨hj,ht'⟩;have ha0:bM (aR l)=0:=by rw[<- h3];exact ht0.2
   unfold bM at ha0;split at ha0
   ·rename_i h0
    obtain⟨_,_,_,_,b5⟩:=eV hc hpos;rw[b5,List.length_map]at h0;rw[List.eq_nil_of_length_eq_zero h0]at hpr;cases hpr
   ·omega
end
section
variable {l:List In} {k:J.Lk} {F:Nat->Option Wq} {V0:Nat->Int} {v:Int}
def AvE(T:List Df)(g:List (List Int))(i:Nat)(x:Int):Prop:=∃ d∈T,d.id=x/\d.at'<1073741824/\∃ a:Nat,d.part=(a:Int)/\(J.Dm.gL g).D a i
open Classical in
theorem jM{g:List (List Int)}{a b:Nat}(h:(J.Dm.gL g).D a b):J.Dm.domB g (a:Int) (b:Int)=true:=by
 unfold J.Dm.domB;exact decide_eq_true ⟨by omega,by omega,by simpa using h⟩
theorem AvE.ahd{T:List Df}{g:List (List Int)}{i:Nat}{x:Int}(h:AvE T g i x):AhdOk T g x (i:Int) 1073741824:=by
 obtain⟨d,h1,h2,h3,a,h4,h5⟩:=h;refine⟨d,h1,h2,?_⟩;by_cases e:a=i
 ·subst e;exact .inl ⟨h4,h3⟩
 ·refine .inr ⟨by rw[h4];omega,a,i,h4,rfl,h5.1.lt,h5.2.1.lt,?_⟩
  exact jM h5
theorem AvE.above{T:List Df}{g:List (List Int)}{i u:Nat}{x at':Int}(h:AvE T g u x)(hd:(J.Dm.gL g).D u i)(hne:u≠i):AhdOk T g x (i:Int) at':=by
 obtain⟨d,h1,h2,h3,a,h4,h5⟩:=h
 have hai:a≠i:=λ e=>by
  subst e;exact hne (hd.anti h5)
 refine⟨d,h1,h2,.inr ⟨by rw[h4];omega,a,i,h4,rfl,h5.1.lt,hd.2.1.lt,?_⟩⟩;exact jM (h5.trans hd)
theorem iS(hc:(aS l).2=0){x:Nat}(hx0:x≠0)(hx:x<(gP l).length):(J.Dm.gL (gP l)).D (uP l x) x/\uP l x≠x/\uP l x<(gP l).length/\rkP l (uP l x)<rkP l x:=by
 have hR:=iD hc x hx;rcases J.Dm.upv_up (J.Dm.gL (gP l)) x with ⟨_,h⟩|⟨u,e,hi⟩
 ·exact absurd (J.Dm.Dg.d0 hR) (h 0 (λ e=>hx0 e.symm))
 ·have hu:uP l x=u:=by unfold uP;rw[e,Int.toNat_natCast]
  rw[hu];exact⟨hi.d,hi.ne,hi.d.1.lt,J.Dm.Dg.dn_lt hi⟩
theorem iJ{regs:Nat->List Int}{U:Nat->Nat}(hrn:Rn k regs U F V0 v)(hall:∀ x,x<k.n->F x≠none){i:Nat}(hi:i<k.n){x:Int}(hx:x∈(sF F i).phis):(⟨x,(i:Int),0⟩:Df)∈dPt (finL k regs F) k.n:=by
 refine iW.2 ⟨i,hi,.inl ?_⟩;rw[dE k regs F hi];rw[<- iR hrn (hall i hi)]at hx;obtain⟨p,hp,rfl⟩:=List.mem_map.1 hx;obtain⟨j,hj,e⟩:=List.getElem_of_mem hp;exact⟨j,hj,by unfold ph;rw[List.getD_eq_getElem?_getD,List.getElem?_eq_getElem hj,e];rfl⟩
theorem jK{L:List Nd}{x:Int}(h:x∈mkN L):∃ j,j<L.length/\(nd L j).op≠6/\(nd L j).id=x:=by
 unfold mkN at h;obtain⟨n,hn,rfl⟩:=List.mem_map.1 h;obtain⟨h1,h2⟩:=List.mem_filter.1 hn;obtain⟨j,hj,e⟩:=List.getElem_of_mem h1;have hnd:nd L j=n:=by unfold nd;rw[List.getD_eq_getElem?_getD,List.getElem?_eq_getElem hj,e];rfl
 exact⟨j,hj,by rw[hnd];exact of_decide_eq_true h2,by rw[hnd]⟩
theorem kR{L:List Nd}{m j:Nat}(h:j<(L.take m).length):nd (L.take m) j=nd L j/\j<m/\j<L.length:=by
 rw[List.length_take]at h;refine⟨?_,by omega,by omega⟩;unfold nd;rw[List.getD_eq_getElem?_getD,List.getD_eq_getElem?_getD,List.getElem?_take_of_lt (by omega)]
theorem iK{regs:Nat->List Int}(F:Nat->Option Wq){i:Nat}(hi:i<k.n){j:Nat}(hj:j<(sF F i).nodes.length)(h6:(nd (sF F i).nodes j).op≠6):(⟨(nd (sF F i).nodes j).id,(i:Int),(j:Int)+1⟩:Df)∈dPt (finL k regs F) k.n:=by
 refine iW.2 ⟨i,hi,.inr ⟨j,?_⟩⟩;rw[dE k regs F hi];exact⟨hj,h6,rfl⟩
theorem kM(hc:(aS l).2=0)(hl:l.length<=200)(h1:k.l=l)(h2:k.B=aR l)(h3:k.a=bM (aR l))(hrn:Rn k (bD k) (uP l) F V0 v)(hall:∀ x,x<k.n->F x≠none):IrOk (finL k (bD k) F) v.toNat:=by
 have hB:=iG hc hl k h1 h2 h3;have hg:=hB.gd;have hgP:bF k.L=gP l:=by unfold J.Lk.L gP;rw[h1,h2,h3]
 have hkn:k.n=(gP l).length:=by rw[<- hgP,bP,iE]
 have hn0:0<k.n:=by have:=hg.nB;have:=hg.B0;omega
 have hnN:=hg.nN;have hdf:=fin_df hrn hall;rw[bL]at hdf
 have hsm:∀ i,i<k.n->(sF F i).nodes.length<1000000000:=λ i hi=>by
  have hs:=eA (hall i hi);obtain⟨now,e,_⟩:=hrn.prt hs;have:=partS_nodes k (bD k) i now (V0 i);obtain⟨b1,b2,b3,_⟩:=hg.bks _ (hg.blk hi);have hlN:=hg.lN;rw[e];omega
 -- what a part is made of,and what it uses
 have huz:∀ i,i<k.n->(∀ u,i≠0->u=uP l i->∀ r,r<11->AvE (dPt (finL k (bD k) F) k.n) (gP l) u ((sF F u).now r))->∃ now,sF F i=cN k (bD k) i now (V0 i)/\(i=0∨∀ r,r<11->i≠0/\AvE (dPt (finL k (bD k) F) k.n) (gP l) (uP l i) (now r)):=λ i hi hav=>by
  have hs:=eA (hall i hi);obtain⟨now,e,hn⟩:=hrn.prt hs;refine⟨now,e,hn.imp id (λ ⟨hi0,t,ht,hnt⟩ r hr=>⟨hi0,?_⟩)⟩;have:sF F (uP l i)=t:=by unfold sF;rw[ht];rfl
  have h:=hav (uP l i) hi0 rfl r hr;rw[this]at h;rw[hnt];exact h
 have hvl:∀ i,i<k.n->∀ (D:Int->Prop),(∀ x,D x->i≠0/\AvE (dPt (finL k (bD k) F) k.n) (gP l) (uP l i) x)->∀ x,Vl D (sF F i) x->AvE (dPt (finL k (bD k) F) k.n) (gP l) i x:=λ i hi D hD x hx=>by
  have hR:=iD hc i (by omega);rcases hx with h|h|h
  ·obtain⟨hi0,d,d1,d2,d3,a,d4,d5⟩:=hD x h
   exact⟨d,d1,d2,d3,a,d4,d5.trans (iS hc hi0 (by omega)).1⟩
  ·exact⟨_,iJ hrn hall hi h,rfl,by show(0:Int)<_;omega,i,rfl,J.Dm.Dg.D.self hR⟩
  ·obtain⟨j,hj,h6,e⟩:=jK h
   refine⟨_,iK F hi hj h6,e,?_,i,rfl,J.Dm.Dg.D.self hR⟩;have:=hsm i hi;show(j:Int)+1<_;omega
 have hav:∀ m i,i<k.n->rkP l i<m->∀ r,r<11->AvE (dPt (finL k (bD k) F) k.n) (gP l) i ((sF F i).now r):=λ m=>by
  induction m with
  | zero=>intro i _ h;exact absurd h (Nat.not_lt_zero _)
  | succ m ih =>
   intro i hi hm r hr
   obtain⟨now,e,hn⟩:=huz i hi (λ u hi0 hu r hr=>by
    have hd:=iS hc hi0 (by omega);rw[hu];exact ih _ (by omega) (by omega) r hr)
   have hu:=partS_uz hg hi (v:=V0 i) (D:=λ x=>i≠0/\AvE (dPt (finL k (bD k) F) k.n) (gP l) (uP l i) x) hn;rw[<- e]at hu;exact hvl i hi _ (λ x hx=>hx) _ (hu.now r hr)
 have hav':∀ i,i<k.n->∀ r,r<11->AvE (dPt (finL k (bD k) F) k.n) (gP l) i ((sF F i).now r):=λ i hi=>hav (rkP l i+1) i hi (Nat.lt_succ_self _)
 have hnow:∀ i,i<k.n->∃ now,sF F i=cN k (bD k) i now (V0 i)/\(i=0∨∀ r,r<11->i≠0/\AvE (dPt (finL k (bD k) F) k.n) (gP l) (uP l i) (now r)):=λ i hi=>huz i hi (λ u hi0 hu r hr=>by
  have hd:=iS hc hi0 (by omega);rw[hu];exact hav' _ (by omega) r hr)
 refine⟨by rw[bL];exact hn0,by rw[bL];omega,by have:=hrn.le hg;omega,by rw[bL];exact hdf,λ i hi j hj=>?_,kN hc h1 h2 h3 _ _,λ i hi=>?_⟩
 ·rw[bL]at hi
  rw[dE k _ F hi]at hj ⊢;obtain⟨now,e,_⟩:=hnow i hi;have ha:=i9 hg hi now (V0 i);rw[<- e]at ha;have hj':j<(sF F i).nodes.length:=hj;refine ha _ ?_;show nd (sF F i).nodes j∈_;unfold nd;rw[List.getD_eq_getElem?_getD,List.getElem?_eq_getElem hj'];exact List.getElem_mem hj'
 ·rw[bL]at hi
  rw[iX,hgP,bL];obtain⟨now,e,hn⟩:=hnow i hi;have hu:=partS_uz hg hi (v:=V0 i) (D:=λ x=>i≠0/\AvE (dPt (finL k (bD k) F) k.n) (gP l) (uP l i) x) hn;have haa:=i8 k (bD k) i now (V0 i);rw[<- e]at hu haa;have hpr:∀ p∈bK k i,0<=p/\p<(k.n:Int):=predL_rng
  have hpl:∀ j,j<(gT k (bD k) F i).phis.length->(ph (gT k (bD k) F i).phis j).fr=eB F (bK k i) ((bD k i).getD j 0)/\j<(bD k i).length:=λ j hj=>by
   have hj':j<(bD k i).length:=by simpa[gT,finPh]using hj
   refine⟨?_,hj'⟩;unfold ph;show((finPh k (bD k) F i).getD j Ph.z).fr=_;unfold finPh;rw[List.getD_eq_getElem?_getD,List.getElem?_map,List.getElem?_range hj'];rfl
  refine⟨λ j hj=>?_,λ j hj t ht=>?_,λ j hj u huu=>?_,λ j hj=>?_,λ u huu=>?_⟩
  ·rw[dE k _ F hi]at hj ⊢
   rw[(hpl j hj).1];simp[eB,gT]
  ·rw[dE k _ F hi]at hj ht ⊢
   obtain⟨e1,hjr⟩:=hpl j hj;rw[e1];have ht':t<(bK k i).length:=ht;have hpm:(bK k i).getD t 0∈bK k i:=by rw[List.getD_eq_getElem?_getD,List.getElem?_eq_getElem ht'];exact List.getElem_mem ht'
   obtain⟨p0,p1⟩:=hpr _ hpm;obtain⟨p,hp⟩:∃ p:Nat,(bK k i).getD t 0=(p:Int):=⟨((bK k i).getD t 0).toNat,by omega⟩;have hrm:(bD k i).getD j 0∈bD k i:=by rw[List.getD_eq_getElem?_getD,List.getElem?_eq_getElem hjr];exact List.getElem_mem hjr
   obtain⟨r0,r1⟩:=(hg.rg i hi).1 _ hrm
   have hv:(eB F (bK k i) ((bD k i).getD j 0)).getD t 0=(sF F p).now ((bD k i).getD j 0).toNat:=by
    unfold eB;rw[List.getD_eq_getElem?_getD,List.getElem?_map,List.getElem?_eq_getElem ht'];rw[List.getD_eq_getElem?_getD,List.getElem?_eq_getElem ht']at hp;have hp':(bK k i)[t]=(p:Int):=hp;simp[hp']
   show AhdOk _ _ ((eB F (bK k i) ((bD k i).getD j 0)).getD t 0) ((bK k i).getD t 0) 1073741824;rw[hv,hp];exact(hav' p (by omega) _ (by omega)).ahd
  ·rw[dE k _ F hi]at hj huu
   have hj':j<(sF F i).nodes.length:=hj;rcases hu.use j hj' u huu with h|h|h
   ·obtain⟨hi0,hd⟩:=h
    have hdm:=iS hc hi0 (by omega);exact hd.above hdm.1 hdm.2.1
   ·exact⟨_,iJ hrn hall hi h,rfl,.inl ⟨rfl,by show(0:Int)<(j:Int)+1;omega⟩⟩
   ·obtain⟨j',hj1,h6,e2⟩:=jK h
    obtain⟨n1,n2,n3⟩:=kR hj1;rw[n1]at h6 e2;exact⟨_,iK F hi n3 h6,e2,.inl ⟨rfl,by show(j':Int)+1<(j:Int)+1;omega⟩⟩
  ·rw[dE k _ F hi]at hj ⊢
   have hj':j<(sF F i).nodes.length:=hj;have:=haa (nd (sF F i).nodes j) (by unfold nd;rw[List.getD_eq_getElem?_getD,List.getElem?_eq_getElem hj'];exact List.getElem_mem hj');show(nd (sF F i).nodes j).args.length<=4094;omega
  ·rw[dE k _ F hi]at huu
   refine AvE.ahd (hvl i hi _ (λ x hx=>hx) u ?_);have huu':u∈eJ ⟨(k.E.getD i Te.z).op,(k.E.getD i Te.z).cond,(k.E.getD i Te.z).wide,(sF F i).ta,(sF F i).tb,(k.E.getD i Te.z).to',(k.E.getD i Te.z).els⟩:=huu;have hb:=hg.blk hi;obtain⟨b1,b2,b3,b4,b5⟩:=hg.bks _ hb;by_cases ca:k.a<=i
   ·have h0:Uz (λ x=>i≠0/\AvE (dPt (finL k (bD k) F) k.n) (gP l) (uP l i) x) (bZ i now (V0 i) (bD k i)):=by
     by_cases e0:i=0
     ·rw[e0];exact Uz.write0 ..
     ·exact Uz.writeN e0 _ _ (hn.resolve_left e0)
    have hbk:=(h0.block k.l (bk k.B (i - k.a)).fr.toNat (bk k.B (i - k.a)).to.toNat (bk k.B (i - k.a)).la.toNat (k.E.getD i Te.z).op (k.E.getD i Te.z).wide (λ j h1 h2=>by
     have:=hg.dk _ hb j (by omega) (by omega);exact⟨this.1,this.2.1⟩) (hg.ri _ hb)).2
    have he:cY k.l (bZ i now (V0 i) (bD k i)) (bk k.B (i - k.a)).fr.toNat (bk k.B (i - k.a)).to.toNat (bk k.B (i - k.a)).la.toNat (k.E.getD i Te.z).op (k.E.getD i Te.z).wide=sF F i:=by
     rw[e];unfold cN cJ;rw[if_pos ca]
    rw[he]at hbk;unfold eJ at huu';split at huu'
    ·rename_i e2
     have:=hbk.1 e2;simp only[List.mem_cons,List.not_mem_nil,or_false]at huu';rcases huu' with rfl|rfl
     ·exact this.1
     ·exact this.2
    ·split at huu'
     ·rename_i e3
      simp only[List.mem_cons,List.not_mem_nil,or_false]at huu';subst huu';exact hbk.2 e3
     ·cases huu'
   ·exfalso
    rcases iA h2 h3 hc hi with ⟨_,_,he⟩|⟨j,_,ej,_⟩
    ·have he':k.E[i]?=some ⟨1,0,false,0,0,1,0⟩:=he
     rw[show k.E.getD i Te.z=⟨1,0,false,0,0,1,0⟩ by rw[List.getD_eq_getElem?_getD,he'];rfl]at huu';simp[eJ]at huu'
    ·omega
end
theorem jG{L:List Pt}{i:Nat}{b a:Int}:∀ m,∀ t,t<m->(aY (pt L i).en).getD t 0=b->a∈prK L b a i m
 | 0,_,h,_=>absurd h (Nat.not_lt_zero _)
 | m+1,t,h,e=>by
  show a∈prK L b a i m ++ (if (aY (pt L i).en).getD m 0=b then [a]else []);by_cases c:t=m
  ·subst c;rw[if_pos e];exact List.mem_append_right _ (List.mem_singleton.2 rfl)
  ·exact List.mem_append_left _ (jG m t (by omega) e)
theorem jI{L:List Pt}{b:Int}:∀ n,∀ i,i<n->b∈aY (pt L i).en->(i:Int)∈prA L b n
 | 0,_,h,_=>absurd h (Nat.not_lt_zero _)
 | n+1,i,h,hb=>by
  show(i:Int)∈prA L b n ++ prK L b (n:Int) n _;by_cases c:i=n
  ·subst c
   obtain⟨t,ht,e⟩:=List.getElem_of_mem hb;exact List.mem_append_right _ (jG _ t ht (by rw[List.getD_eq_getElem?_getD,List.getElem?_eq_getElem ht];exact e))
  ·exact List.mem_append_left _ (jI n i (by omega) hb)
theorem kL{G:J.Dm.Dg}{i z:Nat}(h:G.R z)(hi:i≠0):G.W i z∨∃ y,G.e y i/\G.W i y:=by
 induction h with
 | zero hp _=>exact .inl (.zero hp (λ e=>hi e.symm))
 | @step a b ha he _ ih =>
  rcases ih with h|h
  ·by_cases c:b=i
   ·subst c;exact .inr ⟨a,he,h⟩
   ·exact .inl (.step h he c)
  ·exact .inr h
theorem jV{G:J.Dm.Dg}{p i x:Nat}(h:G.F p i)(hi:i≠0)(hx:∀ y,G.e y i->y=x):False:=by
 obtain⟨_,hR,⟨y,hd,he⟩,hn⟩:=h;obtain rfl:=hx y he;by_cases c:p=i
 ·subst c
  rcases kL hR hi with h|⟨y',he',hw⟩
  ·exact J.Dm.Dg.Av.no h rfl
  ·obtain rfl:=hx y' he'
   rcases hd.2.2 with e|e
   ·rw[e]at hw;exact J.Dm.Dg.Av.no hw rfl
   ·exact e hw
 ·refine hn.resolve_left c ⟨hd.1,hR,.inr λ hw=>?_⟩
  cases hw with
  | zero _ _=>exact hi rfl
  | step h1 h2 _ =>
   have:=hx _ h2;subst this;rcases hd.2.2 with e|e
   ·exact J.Dm.Dg.Av.no h1 e.symm
   ·exact e h1
open Classical in
theorem iI{g:List (List Int)}{y:Nat}{x:Int}(h:x∈J.Dm.frontR g y):∃ t:Nat,x=(t:Int)/\(J.Dm.gL g).F y t:=by
 unfold J.Dm.frontR at h;obtain⟨t,ht,e⟩:=List.mem_map.1 h;exact⟨t,e.symm,of_decide_eq_true (List.mem_filter.1 ht).2⟩
theorem kT{l:List In}{k:J.Lk}(hc:(aS l).2=0)(h1:k.l=l)(h2:k.B=aR l)(h3:k.a=bM (aR l)){i:Nat}(hi:i<k.n)(h:(bK k i).length=1):bD k i=[]:=by
 have hgP:bF k.L=gP l:=by unfold J.Lk.L gP;rw[h1,h2,h3]
 have hkn:k.n=(gP l).length:=by rw[<- hgP,bP,iE]
 cases hr:bD k i with
 | nil=>rfl
 | cons r rs =>
  exfalso;have hm:r∈bD k i:=by rw[hr];exact List.mem_cons_self
  unfold bD at hm;rw[hgP]at hm;obtain⟨x,_,_,hsp⟩:=J.meetL_mem.1 hm
  have hF:∃ p,(J.Dm.gL (gP l)).F p i:=by
   have key:∀ q:Int,(i:Int)∈(J.Dm.frontL (gP l)).getD q.toNat []->∃ p,(J.Dm.gL (gP l)).F p i:=λ q hq=>by
    unfold J.Dm.frontL at hq;rw[List.getD_eq_getElem?_getD,List.getElem?_map]at hq;cases hg:(List.range (gP l).length)[q.toNat]? with
    | none=>rw[hg]at hq;cases hq
    | some y =>
     rw[hg]at hq;have hq':(i:Int)∈J.Dm.frontR (gP l) y:=hq;obtain⟨t,e,hf⟩:=iI hq';have e':t=i:=by omega
     subst e';exact⟨y,hf⟩
   cases hsp with
   | one _ h=>exact key _ h
   | more _ h=>exact key _ h
  obtain⟨p,hF⟩:=hF;have hpn:bK k i≠[]:=λ e=>by rw[e]at h;cases h
  have hi0:i≠0:=λ e=>by
   subst e;have h0:=(kN hc h1 h2 h3 (λ _=>[]) (λ _=>none)).none;rw[dE k _ _ hi]at h0;exact hpn h0
  have hed:∀ y,(J.Dm.gL (gP l)).e y i->(y:Int)∈bK k i:=λ y he=>by
   obtain⟨e1,e2,_⟩:=J.Dm.gL_e.1 he;rw[<- hgP,dY _ _ (by rw[iE];omega)]at e2;exact jI _ y (by omega) e2
  obtain⟨w,hw⟩:∃ w,bK k i=[w]:=by
   match hp:bK k i,h with
   | [w],_=>exact⟨w,rfl⟩
  obtain⟨x0,_,he0⟩:=hF.2.2.1;have hx0:=hed x0 he0;rw[hw,List.mem_singleton]at hx0;refine jV hF hi0 (x:=x0) (λ y he=>?_);have:=hed y he;rw[hw,List.mem_singleton]at this;omega
end Go.Proofs.YtkfahppdklecdaaGreatDoor
