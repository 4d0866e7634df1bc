import Derived.Test.YtkfahppdklecdaaGreatDoorZ31
set_option maxRecDepth 100000
set_option maxHeartbeats 16000000
namespace Go.Proofs.YtkfahppdklecdaaGreatDoor
open Go.RowKit M
structure Cl(P:Wq->Prop):Prop where
 put:∀ s n,P s->P (putS s n)
 upd:∀ s s':Wq,P s->s'.v=s.v->s'.nodes=s.nodes->s'.phis=s.phis->P s'
theorem Cl.opd{P:Wq->Prop}(c:Cl P){s:Wq}(h:P s)(x:In)(wide:Bool):P (opdS s x wide):=by
 unfold opdS;split
 ·exact h
 ·exact c.put _ _ h
theorem Cl.mid{P:Wq->Prop}(c:Cl P){s:Wq}(h:P s)(x:In)(op:Int)(wide:Bool):P (aluM s x op wide):=by
 unfold aluM;split
 ·exact h
 ·exact c.opd h x wide
theorem Cl.step{P:Wq->Prop}(c:Cl P){s:Wq}(h:P s)(x:In):P (eC s x):=by
 have hd:P (doS s x):=by
  unfold doS;split
  ·unfold aluS
   split
   ·exact c.mid h ..
   ·exact c.put _ _ (c.mid h ..)
  ·split
   ·exact c.put _ _ h
   ·split
    ·exact c.put _ _ h
    ·split
     ·unfold accS
      split
      ·exact c.put _ _ h
      ·split
       ·exact c.put _ _ h
       ·exact c.put _ _ (c.put _ _ h)
     ·exact h
 unfold eC;split
 ·exact c.upd _ _ hd rfl rfl rfl
 ·exact hd
theorem Cl.blk{P:Wq->Prop}(c:Cl P){s:Wq}(h:P s)(p:List In)(f:Nat):∀ k,P (blkS p f k s)
 | 0=>c.upd _ _ h rfl rfl rfl
 | k+1=>c.upd _ _ (c.step (c.blk h p f k) _) rfl rfl rfl
theorem Cl.block{P:Wq->Prop}(c:Cl P){s:Wq}(h:P s)(p:List In)(f t la:Nat)(op:Int)(wide:Bool):P (cY p s f t la op wide):=by
 have hb:P { blkS p f (t - f) s with at':=(la:Int) }:=c.upd _ _ (c.blk h p f _) rfl rfl rfl;unfold cY askS;split
 ·exact c.upd _ _ (c.opd hb _ wide) rfl rfl rfl
 ·split
  ·exact c.upd _ _ hb rfl rfl rfl
  ·exact hb
theorem Cl.start{P:Wq->Prop}(c:Cl P){s:Wq}(h:P s):P (gC s):=by
 unfold gC dF;exact c.upd _ _ (c.put _ _ (c.upd _ _ (c.put _ _ (c.put _ _ h)) rfl rfl rfl)) rfl rfl rfl
def mkN(l:List Nd):List Int:=(l.filter λ n=>decide (n.op≠6)).map Nd.id
theorem mkN_app(l:List Nd)(n:Nd):mkN (l ++ [n])=mkN l ++ (if n.op=6 then []else [n.id]):=by
 unfold mkN;rw[List.filter_append,List.map_append];by_cases h:n.op=6 <;> simp[h]
structure WiV(v0:Int)(s:Wq):Prop where
 le:v0<=s.v
 nd:(s.phis ++ mkN s.nodes).Nodup
 rg:∀ i∈s.phis ++ mkN s.nodes,v0<=i/\i<s.v
theorem WiV.cl(v0:Int):Cl (WiV v0):=by
 refine⟨λ s n h=>?_,λ s s' h e1 e2 e3=>⟨by rw[e1];exact h.le,by rw[e2,e3];exact h.nd,by rw[e1,e2,e3];exact h.rg⟩⟩
 have e:mkN (putS s n).nodes=mkN s.nodes ++ (if n.op=6 then []else [s.v]):=by
  show mkN (s.nodes ++ [putN s n])=_;rw[mkN_app];by_cases h6:n.op=6
  ·rw[if_pos h6,if_pos (show(putN s n).op=6 from h6)]
  ·rw[if_neg h6,if_neg (show ¬ (putN s n).op=6 from h6)]
   show mkN s.nodes ++ [putR s n]=_;unfold putR;rw[if_neg h6]
 have ev:(putS s n).v=if n.op=6 then s.v else s.v+1:=rfl
 have ep:(putS s n).phis=s.phis:=rfl;by_cases h6:n.op=6
 ·rw[if_pos h6]at ev
  rw[if_pos h6,List.append_nil]at e;exact⟨by rw[ev];exact h.le,by rw[e,ep];exact h.nd,by rw[e,ep,ev];exact h.rg⟩
 ·rw[if_neg h6]at ev
  rw[if_neg h6]at e;refine⟨by rw[ev];have:=h.le;omega,?_,?_⟩
  ·rw[e,ep,<- List.append_assoc,List.nodup_append]
   refine⟨h.nd,by simp,λ a ha b hb=>?_⟩;rw[List.mem_singleton.1 hb];have:=(h.rg a ha).2;omega
  ·rw[e,ep,ev,<- List.append_assoc]
   intro i hi;rcases List.mem_append.1 hi with hi|hi
   ·have:=h.rg i hi;omega
   ·rw[List.mem_singleton.1 hi];have:=h.le;omega
theorem WiV.begin'(now:Nat->Int)(v:Int):WiV v (cG now v):=⟨Int.le_refl _,by simp[cG,mkN],by simp[cG,mkN]⟩
theorem WiV.phi{v0:Int}{s:Wq}(h:WiV v0 s)(r:Int):WiV v0 (phiS s r):=by
 have hle:=h.le;refine⟨by show v0<=s.v+1;omega,?_,?_⟩
 ·show(s.phis ++ [s.v] ++ mkN s.nodes).Nodup
  have hp:(s.phis ++ [s.v] ++ mkN s.nodes).Perm (s.phis ++ mkN s.nodes ++ [s.v]):=by
   rw[List.append_assoc,List.append_assoc];exact(List.Perm.refl _).append (List.perm_append_comm)
  rw[hp.nodup_iff,List.nodup_append];refine⟨h.nd,by simp,λ a ha b hb=>?_⟩;rw[List.mem_singleton.1 hb];have:=(h.rg a ha).2;omega
 ·show ∀ i∈s.phis ++ [s.v] ++ mkN s.nodes,v0<=i/\i<s.v+1
  intro i hi
  have:i∈s.phis ++ mkN s.nodes∨i=s.v:=by
   simp only[List.mem_append,List.mem_singleton]at hi ⊢;rcases hi with (hi|hi)|hi
   ·exact .inl (.inl hi)
   ·exact .inr hi
   ·exact .inl (.inr hi)
  rcases this with hi|rfl
  ·have:=h.rg i hi;omega
  ·omega
theorem WiV.phis{v0:Int}:∀ (l:List Int) {s:Wq},WiV v0 s->WiV v0 (fL s l)
 | [],_,h=>h
 | r :: l,_,h=>WiV.phis l (h.phi r)
theorem WiV.write(l:List In)(part a:Nat)(now:Nat->Int)(v:Int)(regs:List Int)(f t la:Nat)(op:Int)(wide:Bool):WiV v (cJ l part a now v regs f t la op wide):=by
 have h0:WiV v (bZ part now v regs):=by
  unfold bZ;refine WiV.phis regs ?_;split
  ·exact(WiV.cl v).start (WiV.begin' now v)
  ·exact WiV.begin' now v
 unfold cJ;split
 ·exact(WiV.cl v).block h0 ..
 ·exact h0
def ndP(n:Nd):Prop :=
 (n.op=1∨n.op=2∨n.op=3)∨(n.op=4/\opsB n.alu=true)∨(n.op=5/\isSz n.size=true/\-32768<=n.off/\n.off<=32767)∨(n.op=6/\isSz n.size=true/\-32768<=n.off/\n.off<=32767)∨(n.op=7/\1<=n.imm/\n.imm<=5/\n.args.length=arity n.imm)
def AllN(s:Wq):Prop:=∀ n∈s.nodes,ndOk n
theorem AllN.put{s:Wq}(h:AllN s){n:Nd}(hn:ndP n):AllN (putS s n):=by
 intro x hx;rcases List.mem_append.1 (show x∈s.nodes ++ [putN s n] from hx)with hx|hx
 ·exact h x hx
 ·rw[List.mem_singleton.1 hx]
  rcases hn with c|c|c|⟨c1,c2,c3,c4⟩|c
  ·exact .inl c
  ·exact .inr (.inl c)
  ·exact .inr (.inr (.inl c))
  ·refine .inr (.inr (.inr (.inl ⟨c1,c2,c3,c4,?_⟩)))
   show putR s n = -1;unfold putR;rw[if_pos c1]
  ·exact .inr (.inr (.inr (.inr c)))
theorem AllN.upd{s s':Wq}(h:AllN s)(e:s'.nodes=s.nodes):AllN s':=λ n hn=>h n (by rw[<- e];exact hn)
theorem AllN.num{s:Wq}(h:AllN s)(x:Int):AllN (numS s x):=h.put (.inl (.inl rfl))
theorem AllN.opd{s:Wq}(h:AllN s)(x:In)(wide:Bool):AllN (opdS s x wide):=by
 unfold opdS;split
 ·exact h
 ·exact h.num _
theorem alu_ops{op:Int}(h:aluB op=true):opsB (op - op % 16)=true:=by
 obtain⟨h1,h2,h3,h4⟩:=aluB_true.1 h;unfold opsB;rw[decide_eq_true_eq];omega
theorem size_ok{op:Int}(h:0<dJ op):isSz (dJ op)=true:=by
 unfold isSz;rw[decide_eq_true_eq];unfold dJ at h ⊢;split <;> (try split) <;> (try split) <;> (try split) <;> simp_all
def OffOk(x:In):Prop:=0<dJ x.op->-32768<=x.off/\x.off<=32767
theorem AllN.step{s:Wq}(h:AllN s)(x:In)(hd:Dk x)(ho:OffOk x):AllN (eC s x):=by
 have hdo:AllN (doS s x):=by
  unfold doS;split
  ·rename_i ha
   have hm:AllN (aluM s x (x.op - x.op % 16) (decide (x.op % 8=7))):=by
    unfold aluM;split
    ·exact h
    ·exact AllN.opd h x _
   unfold aluS;split
   ·exact hm
   ·exact hm.put (.inr (.inl ⟨rfl,alu_ops ha⟩))
  ·split
   ·exact h.num _
   ·split
    ·rename_i hc
     obtain⟨c1,c2⟩:=hd.call hc;have e:x.imm % 18446744073709551616=x.imm:=by omega
     refine h.put (.inr (.inr (.inr (.inr ⟨rfl,?_,?_,?_⟩))))
     ·show 1<=x.imm % 18446744073709551616;omega
     ·show x.imm % 18446744073709551616<=5;omega
     ·show((List.range (arity x.imm)).map λ i=>s.now (i+1)).length=arity (x.imm % 18446744073709551616)
      rw[e];simp
    ·split
     ·rename_i hz
      obtain⟨o1,o2⟩:=ho hz;have hs:=size_ok hz;unfold accS;split
      ·exact h.put (.inr (.inr (.inl ⟨rfl,hs,o1,o2⟩)))
      ·split
       ·exact h.put (.inr (.inr (.inr (.inl ⟨rfl,hs,o1,o2⟩))))
       ·exact(h.num _).put (.inr (.inr (.inr (.inl ⟨rfl,hs,o1,o2⟩))))
     ·exact h
 unfold eC;split
 ·exact hdo.upd rfl
 ·exact hdo
theorem AllN.blk{s:Wq}(h:AllN s)(p:List In)(f:Nat):∀ k,(∀ i,f<=i->i<f+k->Dk (p.getD i z)/\OffOk (p.getD i z))->AllN (blkS p f k s)
 | 0,_=>h.upd rfl
 | k+1,hd=>((AllN.blk h p f k (λ i h1 h2=>hd i h1 (by omega))).step _ (hd (f+k) (by omega) (by omega)).1 (hd (f+k) (by omega) (by omega)).2).upd rfl
theorem AllN.write(l:List In)(part a:Nat)(now:Nat->Int)(v:Int)(regs:List Int)(f t la:Nat)(op:Int)(wide:Bool)(hd:∀ i,f<=i->i<t->Dk (l.getD i z)/\OffOk (l.getD i z)):AllN (cJ l part a now v regs f t la op wide):=by
 have hph:∀ (L:List Int) {s:Wq},AllN s->AllN (fL s L):=λ L=>by
  induction L with
  | nil=>intro s h;exact h
  | cons r L ih=>intro s h;exact ih (h.upd rfl:AllN (phiS s r))
 have hb:AllN (cG now v):=λ n hn=>by cases hn
 have h0:AllN (bZ part now v regs):=by
  unfold bZ;refine hph regs ?_;split
  ·unfold gC dF dO
   exact((((((hb.num 0).upd rfl).put (.inl (.inr (.inl rfl)))).upd rfl).put (.inl (.inr (.inr rfl)))).upd rfl)
  ·exact hb
 unfold cJ;split
 ·unfold cY askS
  have hk:AllN { blkS l f (t - f) (bZ part now v regs)with at':=(la:Int) }:=(h0.blk l f (t - f) (λ i h1 h2=>hd i h1 (by omega))).upd rfl;split
  ·exact(hk.opd _ wide).upd rfl
  ·split
   ·exact hk.upd rfl
   ·exact hk
 ·exact h0
def Vl(D:Int->Prop)(s:Wq)(i:Int):Prop:=D i∨i∈s.phis∨i∈mkN s.nodes
structure Uz(D:Int->Prop)(s:Wq):Prop where
 now:∀ r,r<11->Vl D s (s.now r)
 use:∀ k,k<s.nodes.length->∀ u∈dD (nd s.nodes k),D u∨u∈s.phis∨u∈mkN (s.nodes.take k)
theorem Vl.put{D:Int->Prop}{s:Wq}{i:Int}(h:Vl D s i)(n:Nd):Vl D (putS s n) i:=by
 rcases h with h|h|h
 ·exact .inl h
 ·exact .inr (.inl h)
 ·refine .inr (.inr ?_)
  show i∈mkN (s.nodes ++ [putN s n]);rw[mkN_app];exact List.mem_append_left _ h
theorem Vl.new{D:Int->Prop}{s:Wq}{n:Nd}(hn:n.op≠6):Vl D (putS s n) s.v:=by
 refine .inr (.inr ?_);show s.v∈mkN (s.nodes ++ [putN s n]);rw[mkN_app,if_neg (show ¬ (putN s n).op=6 from hn)];refine List.mem_append_right _ (List.mem_singleton.2 ?_);show s.v=putR s n;unfold putR;rw[if_neg hn]
theorem Uz.put{D:Int->Prop}{s:Wq}(h:Uz D s){n:Nd}(hu:∀ u∈dD n,Vl D s u):Uz D (putS s n):=by
 refine⟨λ r hr=>(h.now r hr).put n,λ k hk u hu'=>?_⟩
 have hk':k<s.nodes.length+1:=by
  have e:(putS s n).nodes.length=s.nodes.length+1:=by show(s.nodes ++ [putN s n]).length=_;simp
  rw[e]at hk;exact hk
 have hN:(putS s n).nodes=s.nodes ++ [putN s n]:=rfl;have hP:(putS s n).phis=s.phis:=rfl;rw[hN]at hu' ⊢;rw[hP];by_cases e:k<s.nodes.length
 ·have e1:nd (s.nodes ++ [putN s n]) k=nd s.nodes k:=by
   unfold nd;rw[List.getD_eq_getElem?_getD,List.getD_eq_getElem?_getD,List.getElem?_append_left e]
  rw[e1]at hu';have:=h.use k e u hu';rw[List.take_append_of_le_length (by omega)];exact this
 ·obtain rfl:k=s.nodes.length:=by omega
  have e1:nd (s.nodes ++ [putN s n]) s.nodes.length=putN s n:=by
   unfold nd;rw[List.getD_eq_getElem?_getD,List.getElem?_append_right (Nat.le_refl _)];simp
  rw[e1]at hu';rw[List.take_append_of_le_length (Nat.le_refl _),List.take_length];exact hu u hu'
theorem Uz.upd{D:Int->Prop}{s s':Wq}(h:Uz D s)(e1:s'.nodes=s.nodes)(e2:s'.phis=s.phis)(e3:∀ r,r<11->Vl D s (s'.now r)):Uz D s' :=
 ⟨λ r hr=>by unfold Vl;rw[e1,e2];exact e3 r hr,λ k hk u hu=>by rw[e1]at hk hu ⊢;rw[e2];exact h.use k hk u hu⟩
theorem Uz.keep{D:Int->Prop}{s s':Wq}(h:Uz D s)(e1:s'.nodes=s.nodes)(e2:s'.phis=s.phis)(e3:s'.now=s.now):Uz D s' :=
 h.upd e1 e2 (λ r hr=>by rw[e3];exact h.now r hr)
theorem Uz.num{D:Int->Prop}{s:Wq}(h:Uz D s)(x:Int):Uz D (numS s x):=h.put (λ u hu=>by simp[dD,numN]at hu)
theorem Uz.opd{D:Int->Prop}{s:Wq}(h:Uz D s)(x:In)(wide:Bool):Uz D (opdS s x wide):=by
 unfold opdS;split
 ·exact h
 ·exact h.num _
theorem Vl.opd{D:Int->Prop}{s:Wq}{i:Int}(h:Vl D s i)(x:In)(wide:Bool):Vl D (opdS s x wide) i:=by
 unfold opdS;split
 ·exact h
 ·exact h.put _
theorem Uz.opdR{D:Int->Prop}{s:Wq}(h:Uz D s)(x:In)(wide:Bool)(hr:Ri x):Vl D (opdS s x wide) (opdR s x):=by
 unfold Go.Proofs.YtkfahppdklecdaaGreatDoor.opdR opdS;split
 ·exact h.now _ (by have:=hr.src;omega)
 ·exact Vl.new (show(1:Int)≠6 by decide)
def LdOk(x:In):Prop:=x.op % 8=1->0<dJ x.op
theorem Uz.step{D:Int->Prop}{s:Wq}(h:Uz D s)(x:In)(hd:Dk x)(hl:LdOk x):Uz D (eC s x):=by
 have hdst:x.dst.toNat<11:=by have:=hd.ri.dst;omega
 have hsrc:x.src.toNat<11:=by have:=hd.ri.src;omega
 have key:Uz D (doS s x)/\(dU x=true->Vl D (doS s x) (doR s x)):=by
  unfold doS doR;split
  ·have hM:∀ op wide,Uz D (aluM s x op wide)/\(∀ i,Vl D s i->Vl D (aluM s x op wide) i)/\Vl D (aluM s x op wide) (aluO s x op):=λ op wide=>by
    unfold aluM aluO;split
    ·exact⟨h,λ _ hi=>hi,h.now _ hdst⟩
    ·exact⟨h.opd x wide,λ _ hi=>hi.opd x wide,h.opdR x wide hd.ri⟩
   obtain⟨m1,m2,m3⟩:=hM (x.op - x.op % 16) (decide (x.op % 8=7))
   have ma:Vl D (aluM s x (x.op - x.op % 16) (decide (x.op % 8=7))) (aluA s x (x.op - x.op % 16)):=by
    unfold aluA;split
    ·exact m3
    ·exact m2 _ (h.now _ hdst)
   unfold aluS aluR;split
   ·exact⟨m1,λ _=>m3⟩
   ·refine⟨m1.put (λ u hu=>?_),λ _=>Vl.new (show(4:Int)≠6 by decide)⟩
    simp[dD,aluN]at hu;rcases hu with rfl|rfl
    ·exact ma
    ·exact m3
  ·split
   ·exact⟨h.num _,λ _=>Vl.new (show(1:Int)≠6 by decide)⟩
   ·split
    ·refine⟨h.put (λ u hu=>?_),λ _=>Vl.new (show(7:Int)≠6 by decide)⟩
     simp[dD,eK]at hu;obtain⟨i,hi,rfl⟩:=hu;exact h.now _ (by have:=arity_le x.imm;omega)
    ·split
     ·unfold accS accR
      split
      ·refine⟨h.put (λ u hu=>?_),λ _=>Vl.new (show(5:Int)≠6 by decide)⟩
       simp[dD,accN]at hu;subst hu;exact h.now _ hsrc
      ·rename_i n1 n2 n3 n4 n5
       have hns:dU x=true->False:=λ hs=>by
        unfold dU at hs;simp[n1,n2,n3,n5]at hs
       split
       ·refine⟨h.put (λ u hu=>?_),λ hs=>(hns hs).elim⟩
        simp[dD,accN]at hu;rcases hu with rfl|rfl
        ·exact h.now _ hdst
        ·exact h.now _ hsrc
       ·refine⟨(h.num _).put (λ u hu=>?_),λ hs=>(hns hs).elim⟩
        simp[dD,accN]at hu;rcases hu with rfl|rfl
        ·exact(h.now _ hdst).put _
        ·exact Vl.new (show(1:Int)≠6 by decide)
     ·rename_i n1 n2 n3 n4
      refine⟨h,λ hs=>?_⟩;exfalso;unfold dU at hs;simp[n1,n2,n3]at hs;exact n4 (hl hs)
 unfold eC;split
 ·rename_i hs
  refine key.1.upd rfl rfl (λ r hr=>?_);show Vl D (doS s x) (updI (doS s x).now (cQ x).toNat (doR s x) r);unfold updI;split
  ·exact key.2 hs
  ·exact key.1.now r hr
 ·exact key.1
theorem Uz.blk{D:Int->Prop}{s:Wq}(h:Uz D s)(p:List In)(f:Nat):∀ k,(∀ i,f<=i->i<f+k->Dk (p.getD i z)/\LdOk (p.getD i z))->Uz D (blkS p f k s)
 | 0,_=>h.keep rfl rfl rfl
 | k+1,hd=>((Uz.blk h p f k (λ i h1 h2=>hd i h1 (by omega))).step _ (hd (f+k) (by omega) (by omega)).1 (hd (f+k) (by omega) (by omega)).2).keep rfl rfl rfl
theorem Uz.block{D:Int->Prop}{s:Wq}(h:Uz D s)(p:List In)(f t la:Nat)(op:Int)(wide:Bool)(hd:∀ i,f<=i->i<t->Dk (p.getD i z)/\LdOk (p.getD i z))(hr:Ri (p.getD la z)) :
  Uz D (cY p s f t la op wide)/\(op=2->Vl D (cY p s f t la op wide) (cY p s f t la op wide).ta/\Vl D (cY p s f t la op wide) (cY p s f t la op wide).tb)/\(op=3->Vl D (cY p s f t la op wide) (cY p s f t la op wide).ta):=by
 have hk:Uz D { blkS p f (t - f) s with at':=(la:Int) }:=(h.blk p f (t - f) (λ i h1 h2=>hd i h1 (by omega))).keep rfl rfl rfl;have hdst:(p.getD la z).dst.toNat<11:=by have:=hr.dst;omega
 unfold cY askS;split
 ·rename_i e
  have ho:=hk.opd (p.getD la z) wide;refine⟨ho.keep rfl rfl rfl,λ _=>⟨?_,?_⟩,λ e3=>by omega⟩
  ·exact(hk.now _ hdst).opd _ wide
  ·exact hk.opdR _ wide hr
 ·split
  ·exact⟨hk.keep rfl rfl rfl,λ e=>by omega,λ _=>hk.now 0 (by decide)⟩
  ·exact⟨hk,λ e=>by omega,λ e=>by omega⟩
theorem Uz.phi{D:Int->Prop}{s:Wq}(h:Uz D s)(r:Int):Uz D (phiS s r):=by
 have hm:∀ i,Vl D s i->Vl D (phiS s r) i:=λ i hi=>by
  rcases hi with hi|hi|hi
  ·exact .inl hi
  ·exact .inr (.inl (List.mem_append_left _ hi))
  ·exact .inr (.inr hi)
 refine⟨λ j hj=>?_,λ k hk u hu=>?_⟩
 ·show Vl D (phiS s r) (updI s.now r.toNat s.v j)
  unfold updI;split
  ·exact .inr (.inl (List.mem_append_right _ (List.mem_singleton.2 rfl)))
  ·exact hm _ (h.now j hj)
 ·rcases h.use k hk u hu with c|c|c
  ·exact .inl c
  ·exact .inr (.inl (List.mem_append_left _ c))
  ·exact .inr (.inr c)
theorem Uz.phis{D:Int->Prop}:∀ (l:List Int) {s:Wq},Uz D s->Uz D (fL s l)
 | [],_,h=>h
 | r :: l,_,h=>Uz.phis l (h.phi r)
theorem Uz.begin'{D:Int->Prop}{now:Nat->Int}{v:Int}(h:∀ r,r<11->D (now r)):Uz D (cG now v) :=
 ⟨λ r hr=>.inl (h r hr),λ _ hk=>absurd hk (Nat.not_lt_zero _)⟩
theorem Uz.reg{D:Int->Prop}{s s':Wq}(h:Uz D s){i:Nat}{x:Int}(hx:Vl D s x)(e1:s'.nodes=s.nodes)(e2:s'.phis=s.phis)(e3:s'.now=updI s.now i x∨s'.now=λ _=>x):Uz D s':=by
 refine h.upd e1 e2 (λ r hr=>?_);rcases e3 with e|e
 ·rw[e];unfold updI
  split
  ·exact hx
  ·exact h.now r hr
 ·rw[e];exact hx
theorem Uz.start(D:Int->Prop)(now:Nat->Int)(v:Int):Uz D (gC (cG now v)):=by
 have hA:Uz D (dO (cG now v)):=by
  refine⟨λ r _=>.inr (.inr ?_),λ k hk u hu=>?_⟩
  ·show v∈mkN ([] ++ [putN (cG now v) (numN 0)])
   rw[mkN_app,if_neg (show ¬ (putN (cG now v) (numN 0)).op=6 from(by decide:¬ (1:Int)=6))];exact List.mem_append_right _ (List.mem_singleton.2 rfl)
  ·have e:(dO (cG now v)).nodes=[putN (cG now v) (numN 0)]:=rfl
   rw[e]at hk hu;have:k=0:=by simpa using hk
   subst this;simp[nd,dD,putN,numN]at hu
 have hp:∀ {s:Wq} (n:Int),(n=2∨n=3)->Uz D s->Uz D (putS s (ctxN n))/\Vl D (putS s (ctxN n)) s.v:=λ {s} n hn h=>by
  refine⟨h.put (λ u hu=>?_),Vl.new (show n≠6 by omega)⟩;rcases hn with rfl|rfl <;> simp[dD,ctxN]at hu
 have hB:Uz D (dF (cG now v)):=(hp 2 (.inl rfl) hA).1.reg (i:=1) (hp 2 (.inl rfl) hA).2 rfl rfl (.inl rfl);exact(hp 3 (.inr rfl) hB).1.reg (i:=10) (hp 3 (.inr rfl) hB).2 rfl rfl (.inl rfl)
theorem Uz.write0{D:Int->Prop}(now:Nat->Int)(v:Int)(regs:List Int):Uz D (bZ 0 now v regs):=Uz.phis regs (Uz.start D now v)
theorem Uz.writeN{D:Int->Prop}{part:Nat}(hp:part≠0){now:Nat->Int}(v:Int)(regs:List Int)(h:∀ r,r<11->D (now r)):Uz D (bZ part now v regs):=by
 unfold bZ;rw[if_neg hp];exact Uz.phis regs (Uz.begin' h)
theorem putv(s:Wq)(n:Nd):(putS s n).v<=s.v+1:=by
 show(if n.op=6 then s.v else s.v+1)<=s.v+1;split <;> omega
theorem opdv(s:Wq)(x:In)(wide:Bool):(opdS s x wide).v<=s.v+1:=by
 unfold opdS;split
 ·omega
 ·exact putv s _
theorem aluMv(s:Wq)(x:In)(op:Int)(wide:Bool):(aluM s x op wide).v<=s.v+1:=by
 unfold aluM;split
 ·omega
 ·exact opdv s x wide
theorem dov(s:Wq)(x:In):(doS s x).v<=s.v+2:=by
 unfold doS;split
 ·unfold aluS
  split
  ·exact Int.le_trans (aluMv ..) (by omega)
  ·refine Int.le_trans (putv ..) ?_
   have:=aluMv s x (x.op - x.op % 16) (decide (x.op % 8=7));omega
 ·split
  ·exact Int.le_trans (putv s _) (by omega)
  ·split
   ·exact Int.le_trans (putv s _) (by omega)
   ·split
    ·unfold accS
     split
     ·exact Int.le_trans (putv s _) (by omega)
     ·split
      ·exact Int.le_trans (putv s _) (by omega)
      ·refine Int.le_trans (putv ..) ?_
       have:=putv s (numN (immV x.imm true));unfold numS;omega
    ·omega
theorem stepv(s:Wq)(x:In):(eC s x).v<=s.v+2:=by
 unfold eC;split
 ·exact dov s x
 ·exact dov s x
theorem blkv(p:List In)(f:Nat)(s:Wq):∀ k:Nat,(blkS p f k s).v<=s.v+2*(k:Int)
 | 0=>by show s.v<=_;omega
 | k+1=>by
  have h1:=blkv p f s k;have h2:=stepv (blkS p f k s) (p.getD (f+k) z);have e:(blkS p f (k+1) s).v=(eC (blkS p f k s) (p.getD (f+k) z)).v:=rfl;rw[e];omega
theorem blockv(p:List In)(s:Wq)(f t la:Nat)(op:Int)(wide:Bool):(cY p s f t la op wide).v<=s.v+2*((t - f:Nat):Int)+1:=by
 have h:=blkv p f s (t - f);unfold cY askS;split
 ·have h2:=opdv { blkS p f (t - f) s with at':=(la:Int) } (p.getD la z) wide
  have e:({ blkS p f (t - f) s with at':=(la:Int) }:Wq).v=(blkS p f (t - f) s).v:=rfl;rw[e]at h2;show(opdS { blkS p f (t - f) s with at':=(la:Int) } (p.getD la z) wide).v<=_;omega
 ·split
  ·show(blkS p f (t - f) s).v<=_;omega
  ·show(blkS p f (t - f) s).v<=_;omega
theorem phisv:∀ (l:List Int) (s:Wq),(fL s l).v=s.v+(l.length:Int)
 | [],s=>by show s.v=_;simp
 | r :: l,s=>by
  have h:=phisv l (phiS s r);have e:(phiS s r).v=s.v+1:=rfl;show(fL (phiS s r) l).v=_;rw[h,e];simp;omega
theorem writev(l:List In)(part a:Nat)(now:Nat->Int)(v:Int)(regs:List Int)(f t la:Nat)(op:Int)(wide:Bool) :
  (cJ l part a now v regs f t la op wide).v<=v+(if part=0 then 3 else 0)+(regs.length:Int)+(if a<=part then 2*((t - f:Nat):Int)+1 else 0):=by
 have h0:(bZ part now v regs).v=v+(if part=0 then 3 else 0)+(regs.length:Int):=by
  unfold bZ;rw[phisv];by_cases hp:part=0
  ·rw[if_pos hp,if_pos hp]
   show v+1+1+1+(regs.length:Int)=_;omega
  ·rw[if_neg hp,if_neg hp]
   show v+(regs.length:Int)=_;omega
 unfold cJ;by_cases ha:a<=part
 ·rw[if_pos ha,if_pos ha]
  have:=blockv l (bZ part now v regs) f t la op wide;omega
 ·rw[if_neg ha,if_neg ha]
  omega
end Go.Proofs.YtkfahppdklecdaaGreatDoor
