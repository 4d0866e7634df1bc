import Derived.Test.YtkfahppdklecdaaGreatDoorZ09
set_option maxRecDepth 100000
set_option maxHeartbeats 16000000
namespace Go.Proofs.YtkfahppdklecdaaGreatDoor.J
namespace Dm
structure Tr(G:Dg)(par hi:Nat->Nat):Prop where
 src:∀ i j,G.e i j->i<G.N
 up:∀ m,0<m->m<G.N->par m<m/\G.e (par m) m
 hi1:∀ k,k<G.N->k<hi k/\hi k<=G.N
 ins:∀ k m,k<G.N->k<m->m<hi k->k<=par m
 out:∀ k m,k<G.N->hi k<=m->m<G.N->par m<k∨hi k<=par m
 edge:∀ k z,G.e k z->z<hi k
variable {G:Dg} {par hi:Nat->Nat}
def Anc(hi:Nat->Nat)(k m:Nat):Prop:=k<=m/\m<hi k
theorem Tr.self(T:Tr G par hi){k:Nat}(hk:k<G.N):Anc hi k k:=⟨Nat.le_refl _,(T.hi1 k hk).1⟩
theorem Tr.lam(T:Tr G par hi){k m:Nat}(hm:m<G.N)(h:Anc hi k m):hi m<=hi k:=by
 obtain⟨h1,h2⟩:=h;by_cases c:hi m<=hi k
 ·exact c
 ·exfalso
  have hk:k<G.N:=by omega
  have a1:=(T.hi1 m hm).2;have a2:=T.ins m (hi k) hm (by omega) (by omega);have a3:=T.out k (hi k) hk (Nat.le_refl _) (by omega);have a4:=(T.up (hi k) (by omega) (by omega)).1;omega
theorem Tr.trans(T:Tr G par hi){a b c:Nat}(hb:b<G.N)(h1:Anc hi a b)(h2:Anc hi b c):Anc hi a c:=by
 have:=T.lam hb h1;unfold Anc at *;omega
theorem Tr.sub(T:Tr G par hi){m b z:Nat}(h:Anc hi m b)(he:G.e b z)(hz:m<=z):Anc hi m z:=by
 have h1:=T.edge b z he;have h2:=T.lam (T.src _ _ he) h;exact⟨hz,by omega⟩
theorem Tr.parAnc(T:Tr G par hi){k m:Nat}(hm:0<m)(hN:m<G.N)(hk:k<G.N):Anc hi k m↔k=m∨Anc hi k (par m):=by
 have h1:=(T.up m hm hN).1;constructor
 ·rintro⟨a,b⟩
  by_cases e:k=m
  ·exact .inl e
  ·have:=T.ins k m hk (by omega) b
   exact .inr ⟨this,by omega⟩
 ·rintro(e|⟨a,b⟩)
  ·subst e;exact T.self hk
  ·refine⟨by omega,?_⟩
   by_cases c:m<hi k
   ·exact c
   ·have:=T.out k m hk (by omega) hN
    omega
theorem Tr.rep(T:Tr G par hi){m:Nat}(hm:0<m)(hN:m<G.N):Anc hi (par m) m :=
 (T.parAnc hm hN (by have:=(T.up m hm hN).1;omega)).2 (.inr (T.self (by have:=(T.up m hm hN).1;omega)))
theorem Tr.all(T:Tr G par hi)(h0:0<G.N):∀ m,m<G.N->Anc hi 0 m:=by
 intro m
 induction m using Nat.strongRecOn with
 | _ m ih =>
  intro hm;by_cases e:m=0
  ·subst e;exact T.self h0
  ·have h1:=(T.up m (by omega) hm).1
   exact(T.parAnc (by omega) hm h0).2 (.inr (ih _ h1 (by omega)))
theorem Tr.line(_:Tr G par hi){a b c:Nat}(h1:Anc hi a c)(h2:Anc hi b c)(h:a<=b):Anc hi a b:=⟨h,by unfold Anc at *;omega⟩
theorem Tr.down(T:Tr G par hi)(x:Nat):∀ m,m<G.N->¬ Anc hi x m->G.W x m:=by
 intro m
 induction m using Nat.strongRecOn with
 | _ m ih =>
  intro hm hx;by_cases e:m=0
  ·subst e
   refine .zero hm (λ c=>?_);subst c;exact hx (T.self hm)
  ·obtain⟨h1,h2⟩:=T.up m (by omega) hm
   have hne:¬ m=x:=λ c=>by subst c;exact hx (T.self hm)
   refine .step (ih _ h1 (by omega) λ c=>hx ?_) h2 hne;have hxN:x<G.N:=by unfold Anc at c;omega
   exact(T.parAnc (by omega) hm hxN).2 (.inr c)
theorem Tr.downFr(T:Tr G par hi){S:Nat->Prop}{u v:Nat}(hS:∀ y,u<y->¬ S y)(hu:u<G.N)(hv:G.Fr S v u):∀ m,m<G.N->Anc hi u m->G.Fr S v m:=by
 intro m
 induction m using Nat.strongRecOn with
 | _ m ih =>
  intro hm hx;by_cases e:u=m
  ·subst e;exact hv
  ·obtain⟨a,b⟩:=hx
   obtain⟨h1,h2⟩:=T.up m (by omega) hm;have:=((T.parAnc (by omega) hm hu).1 ⟨a,b⟩).resolve_left e;exact .step (ih _ h1 (by omega) this) h2 (hS m (by omega))
theorem Tr.downAv(T:Tr G par hi){S:Nat->Prop}{u:Nat}(hS:∀ y,u<y->¬ S y)(hv:G.Av S u){m:Nat}(hm:m<G.N)(h:Anc hi u m):G.Av S m :=
 Dg.Av.on hv (T.downFr hS hv.lt .here m hm h)
theorem Dg.Fr.mono{S S':Nat->Prop}(h:∀ x,S' x->S x){s b:Nat}(hb:G.Fr S s b):G.Fr S' s b:=by
 induction hb with
 | here=>exact .here
 | step _ he h1 ih=>exact .step ih he (λ c=>h1 (h _ c))
def Sp(G:Dg)(v w:Nat):Prop:=∃ p,G.Fr (λ z=>z<=w) v p/\G.e p w
theorem Sp.edge{p w:Nat}(h:G.e p w):Sp G p w:=⟨p,.here,h⟩
theorem Tr.frSrc(T:Tr G par hi){S:Nat->Prop}{v p:Nat}(h:G.Fr S v p):p<G.N->v<G.N:=by
 induction h with
 | here=>exact id
 | step _ he _ ih=>exact λ _=>ih (T.src _ _ he)
theorem Tr.skip(T:Tr G par hi){v x y:Nat}(h:Sp G v y)(hv:v<x)(hy:x<y):G.W x y:=by
 obtain⟨p,hf,he⟩:=h;have hvN:v<G.N:=T.frSrc hf (T.src _ _ he);have h1:G.W x v:=T.down x v hvN (λ c=>by unfold Anc at c;omega);have h2:G.Fr (λ z=>z=x) v p:=Dg.Fr.mono (λ z (e:z=x)=>by show z<=y;omega) hf;exact .step (Dg.Av.on h1 h2) he (by omega)
theorem Tr.domAnc(T:Tr G par hi){x w:Nat}(h:G.D x w):Anc hi x w:=by
 by_cases c:Anc hi x w
 ·exact c
 ·exfalso
  have hw:=h.2.1.lt;have:=T.down x w hw c;rcases h.2.2 with e|e
  ·subst e;exact c (T.self hw)
  ·exact e this
theorem Tr.reach(T:Tr G par hi){m:Nat}(h:m<G.N):G.R m :=
 Dg.W.r (a:=G.N) (T.down G.N m h (λ c=>by unfold Anc at c;omega))
theorem Tr.round(T:Tr G par hi){d w:Nat}(hw:w<G.N)(ha:Anc hi d w)(h:∀ y,d<y->Anc hi y w->∀ v,Sp G v y->d<=v):G.D d w:=by
 have hdN:d<G.N:=by unfold Anc at ha;omega
 refine⟨T.reach hdN,T.reach hw,?_⟩;by_cases e:d=w
 ·exact .inl e
 right;intro hW
 have key:∀ b,G.W d b->b<d∨∃ x m,x<d/\G.Fr (λ z=>z<m) x b/\d<m/\Anc hi m b/\¬ Anc hi m w:=by
  intro b hb
  induction hb with
  | zero h0 h1=>exact .inl (by have:¬ 0=d:=h1;omega)
  | @step b z hb he hz ih =>
   have hz':¬ z=d:=hz;have hzN:=G.lt _ _ he;by_cases c:z<d
   ·exact .inl c
   ·right
    rcases ih with ih|⟨x,m,hx,hf,hm,hab,hnb⟩
    ·refine⟨b,z,ih,.step .here he (Nat.lt_irrefl _),by omega,T.self hzN,λ hbad=>?_⟩
     have:=h z (by omega) hbad b (Sp.edge he);omega
    ·by_cases c2:z<m
     ·refine⟨x,z,hx,.step (Dg.Fr.mono (λ y (hy:y<z)=>by show y<m;omega) hf) he (Nat.lt_irrefl _),by omega,T.self hzN,λ hbad=>?_⟩
      have:=h z (by omega) hbad x ⟨b,Dg.Fr.mono (λ y (hy:y<=z)=>by show y<m;omega) hf,he⟩;omega
     ·exact⟨x,m,hx,.step hf he c2,hm,T.sub hab he (by omega),hnb⟩
 rcases key w hW with c|⟨x,m,_,_,hm,hab,hnb⟩
 ·unfold Anc at ha;omega
 ·exact hnb hab
structure Sd(G:Dg)(s w:Nat):Prop where
 sp:Sp G s w
 le:∀ v,Sp G v w->s<=v
theorem Sd.one{s t w:Nat}(h:Sd G s w)(k:Sd G t w):s=t:=Nat.le_antisymm (h.le _ k.sp) (k.le _ h.sp)
theorem Tr.sdEx(T:Tr G par hi){w:Nat}(h0:0<w)(hw:w<G.N):∃ s,Sd G s w:=by
 have:∀ v,Sp G v w->∃ s,Sd G s w:=by
  intro v
  induction v using Nat.strongRecOn with
  | _ v ih =>
   intro hv;by_cases c:∃ v',v'<v/\Sp G v' w
   ·obtain⟨v',h1,h2⟩:=c
    exact ih v' h1 h2
   ·exact⟨v,hv,λ v' hv'=>by
     by_cases e:v<=v'
     ·exact e
     ·exact absurd ⟨v',by omega,hv'⟩ c⟩
 exact this _ (Sp.edge (T.up w h0 hw).2)
open Classical in
noncomputable def sdv(G:Dg)(w:Nat):Nat:=if h:∃ s,Sd G s w then h.choose else 0
theorem Tr.sdv(T:Tr G par hi):∀ w,0<w->w<G.N->Sd G (Dm.sdv G w) w:=by
 intro w h0 hw;have h:=T.sdEx h0 hw;unfold Dm.sdv;rw[dif_pos h];exact h.choose_spec
theorem Sd.lt(T:Tr G par hi){s w:Nat}(h:Sd G s w)(h0:0<w)(hw:w<G.N):s<w:=by
 have h1:=T.up w h0 hw;have:=h.le _ (Sp.edge h1.2);omega
theorem Tr.frAnc(T:Tr G par hi){m b:Nat}(hm:m<G.N)(h:G.Fr (λ z=>z<m) m b):Anc hi m b:=by
 induction h with
 | here=>exact T.self hm
 | step _ he h1 ih=>exact T.sub ih he (by omega)
theorem Sd.anc(T:Tr G par hi){s w:Nat}(h:Sd G s w)(h0:0<w)(hw:w<G.N):Anc hi s w:=by
 have hl:=h.lt T h0 hw;obtain⟨p,hf,he⟩:=h.sp;exact T.sub (T.frAnc (by omega) (Dg.Fr.mono (λ z (hz:z<s)=>by show z<=w;omega) hf)) he (by omega)
theorem Tr.domSd(T:Tr G par hi){s w x:Nat}(h:Sd G s w)(h0:0<w)(hx:G.D x w)(hne:x≠w):Anc hi x s:=by
 have hw:=hx.2.1.lt;have ha:=T.domAnc hx;have hs:=h.anc T h0 hw;have hl:=h.lt T h0 hw;by_cases c:x<=s
 ·exact T.line ha hs c
 ·exfalso
  have:=T.skip h.sp (x:=x) (by omega) (by unfold Anc at ha;omega);rcases hx.2.2 with e|e
  ·exact hne e
  ·exact e this
theorem Tr.idomS(T:Tr G par hi){s w:Nat}(sd:Nat->Nat)(hsd:∀ y,0<y->y<G.N->Sd G (sd y) y)(h0:0<w)(hw:w<G.N)(h:sd w=s)(hl:∀ y,s<y->Anc hi y w->s<=sd y):G.I w s:=by
 have hS:=hsd w h0 hw;rw[h]at hS
 have hd:G.D s w:=T.round hw (hS.anc T h0 hw) (λ y hy ha v hv=>by
  have hyN:y<G.N:=by unfold Anc at ha;omega
  have:=(hsd y (by omega) hyN).le v hv;have:=hl y hy ha;omega)
 refine⟨by have:=hS.lt T h0 hw;omega,hd,λ x hx hdx=>?_⟩;have ha:=T.domSd hS h0 hdx hx;rcases Dg.D.row hdx hd with r|r
 ·exact r
 ·have:=T.domAnc r
  unfold Anc at *;obtain rfl:x=s:=by omega
  exact r
theorem Tr.idomU(T:Tr G par hi){s u w a:Nat}(sd:Nat->Nat)(hsd:∀ y,0<y->y<G.N->Sd G (sd y) y)(h0:0<w)(hw:w<G.N)(h:sd w=s)(hu:s<u)(hua:Anc hi u w)(hl:∀ y,s<y->Anc hi y w->sd u<=sd y)(hI:G.I u a):G.I w a:=by
 have huN:u<G.N:=by unfold Anc at hua;omega
 have hS:=hsd w h0 hw;rw[h]at hS;have hSu:=hsd u (by omega) huN
 have up1:∀ x,x≠w->G.D x w->G.D x u:=λ x hne hx=>by
  have ha:=T.domSd hS h0 hx hne;have hxu:x<u:=by unfold Anc at ha;omega
  refine⟨hx.1,T.reach huN,.inr λ hW=>?_⟩;have:=T.downAv (λ y hy (c:y=x)=>by omega) hW hw hua;rcases hx.2.2 with e|e
  ·exact hne e
  ·exact e this
 have up2:∀ x,x≠u->G.D x u->G.D x w:=λ x hne hx=>by
  have ha:=T.domSd hSu (by omega) hx hne;have hau:=T.domAnc hx;refine T.round hw (T.trans huN hau hua) (λ y hy hyw v hv=>?_);have hyN:y<G.N:=by unfold Anc at hyw;omega
  by_cases c:s<y
  ·have h1:=hl y c hyw
   have h2:=(hsd y (by omega) hyN).le v hv;unfold Anc at ha;omega
  ·by_cases c2:x<=v
   ·exact c2
   ·exfalso
    have h1:=T.skip hv (x:=x) (by omega) hy;have hyu:Anc hi y u:=T.line hyw hua (by omega);have h2:=T.downAv (λ z hz (e:z=x)=>by omega) h1 huN hyu;rcases hx.2.2 with e|e
    ·exact hne e
    ·exact e h2
 have hal:=(hsd u (by omega) huN).lt T (by omega) huN;have hau:=(T.domAnc hI.d).1;have hne:=hI.ne;refine⟨λ e=>?_,up2 a hI.ne hI.d,λ x hx hdx=>?_⟩
 ·unfold Anc at hua;omega
 ·refine hI.top x (λ e=>?_) (up1 x hx hdx)
  subst e;have:=T.domSd hS h0 hdx hx;unfold Anc at this;omega
theorem Tr.cand(T:Tr G par hi){v w:Nat}(hv:v<w)(h:Sp G v w):(∃ p,G.e p w/\p=v)∨∃ p m,G.e p w/\w<m/\Anc hi m p/\Sp G v m:=by
 obtain⟨p,hf,he⟩:=h
 have key:∀ b,G.Fr (λ z=>z<=w) v b->b=v∨∃ m,w<m/\Anc hi m b/\G.Fr (λ z=>z<m) v b/\Sp G v m:=by
  intro b hb
  induction hb with
  | here=>exact .inl rfl
  | @step b z hb he hz ih =>
   have hz':¬ z<=w:=hz;have hzN:=G.lt _ _ he;right;rcases ih with rfl|⟨m,hm,ha,hf,hs⟩
   ·exact⟨z,by omega,T.self hzN,.step .here he (Nat.lt_irrefl _),Sp.edge he⟩
   ·by_cases c:z<m
    ·exact⟨z,by omega,T.self hzN,.step (Dg.Fr.mono (λ y (hy:y<z)=>by show y<m;omega) hf) he (Nat.lt_irrefl _),⟨b,Dg.Fr.mono (λ y (hy:y<=z)=>by show y<m;omega) hf,he⟩⟩
    ·exact⟨m,hm,T.sub ha he (by omega),.step hf he c,hs⟩
 rcases key p hf with e|⟨m,hm,ha,_,hs⟩
 ·exact .inl ⟨p,he,e⟩
 ·exact .inr ⟨p,m,he,hm,ha,hs⟩
theorem Tr.candOk(T:Tr G par hi){s p m w:Nat}(he:G.e p w)(hm:w<m)(ha:Anc hi m p)(hs:Sp G s m):Sp G s w:=by
 have hmN:m<G.N:=by have:=T.src _ _ he;unfold Anc at ha;omega
 obtain⟨q,hf,hq⟩:=hs;have h1:G.Fr (λ z=>z<=w) s m:=.step (Dg.Fr.mono (λ z (hz:z<=w)=>by show z<=m;omega) hf) hq (by omega);exact⟨p,T.downFr (λ y hy=>by omega) hmN h1 p (T.src _ _ he) ha,he⟩
end Dm
end Go.Proofs.YtkfahppdklecdaaGreatDoor.J
namespace Go.Proofs.YtkfahppdklecdaaGreatDoor.J
namespace Dm
variable {G:Dg} {par hi:Nat->Nat}
structure Fo(G:Dg)(hi:Nat->Nat)(s:Nat->Nat)(L:Nat)(up least:List Int):Prop where
 l1:up.length=G.N
 l2:least.length=G.N
 lo:∀ k,k<L->k<G.N->up.getD k 0 = -1/\least.getD k 0=(k:Int)
 hi:∀ k,L<=k->k<G.N->∃ a b:Nat,up.getD k 0=(a:Int)/\least.getD k 0=(b:Int)/\a<k/\Anc hi a k/\a<b/\Anc hi b k /\
  ∀ y,a<y->Anc hi y k->L<=y/\s b<=s y
theorem bA(l:List Int)(i j:Nat)(x:Int):(l.set i x).getD j 0=if j=i/\i<l.length then x else l.getD j 0:=by
 rw[List.getD_eq_getElem?_getD,List.getD_eq_getElem?_getD,List.getElem?_set];by_cases e:i=j
 ·subst e
  by_cases h:i<l.length
  ·simp[h]
  ·rw[if_pos rfl,if_neg h,List.getElem?_eq_none (by omega)];simp[h]
 ·rw[if_neg e]
  have:¬ (j=i/\i<l.length):=λ c=>e c.1.symm
  simp[this]
theorem Fo.root{s:Nat->Nat}{L:Nat}{up least:List Int}(h:Fo G hi s L up least){k:Nat}(hk:k<G.N):up.getD k 0 = -1↔k<L:=by
 constructor
 ·intro e
  by_cases c:k<L
  ·exact c
  ·obtain⟨a,b,h1,_⟩:=h.hi k (by omega) hk
   omega
 ·intro c;exact(h.lo k c hk).1
theorem Fo.upv{s:Nat->Nat}{L:Nat}{up least:List Int}(h:Fo G hi s L up least){k:Nat}(hk:k<G.N)(hL:L<=k):∃ a:Nat,up.getD k 0=(a:Int)/\a<k:=by
 obtain⟨a,b,h1,_,h2,_⟩:=h.hi k hL hk;exact⟨a,h1,h2⟩
theorem Fo.cut(T:Tr G par hi){s:Nat->Nat}{L n a:Nat}{up least:List Int}(h:Fo G hi s L up least)(hn:n<G.N)(hL:L<=n)(ha:up.getD n 0=(a:Int))(hLa:L<=a){bn ba:Nat}(hbn:least.getD n 0=(bn:Int))(hba:least.getD a 0=(ba:Int)) :
  Fo G hi s L (up.set n (up.getD a 0)) (if s ba<s bn then least.set n (ba:Int)else least):=by
 obtain⟨a0,b0,e1,e2,h3,h4,h5,h6,h7⟩:=h.hi n hL hn;obtain rfl:a0=a:=by omega
 obtain rfl:b0=bn:=by omega
 obtain⟨a2,b2,f1,f2,g3,g4,g5,g6,g7⟩:=h.hi a0 hLa (by omega);obtain rfl:b2=ba:=by omega
 have hll:(if s b2<s b0 then least.set n (b2:Int)else least).length=G.N:=by split <;> simp[h.l2]
 refine⟨by simp[h.l1],hll,λ k hk hkN=>?_,λ k hk hkN=>?_⟩
 ·have hne:¬ k=n:=by omega
  refine⟨by rw[bA,if_neg (λ c=>hne c.1)];exact(h.lo k hk hkN).1,?_⟩;split
  ·rw[bA,if_neg (λ c=>hne c.1)];exact(h.lo k hk hkN).2
  ·exact(h.lo k hk hkN).2
 ·by_cases e:k=n
  ·subst e
   have hl2:k<up.length:=by rw[h.l1];exact hkN
   have hl3:k<least.length:=by rw[h.l2];exact hkN
   refine⟨a2,if s b2<s b0 then b2 else b0,by rw[bA,if_pos ⟨rfl,hl2⟩];exact f1,?_,by omega,T.trans (by omega) g4 h4,?_,?_,λ y hy hyk=>?_⟩
   ·split
    ·rw[bA,if_pos ⟨rfl,hl3⟩]
    ·exact e2
   ·split <;> omega
   ·split
    ·exact T.trans (by omega) g6 h4
    ·exact h6
   ·by_cases c:a0<y
    ·have:=h7 y c hyk
     refine⟨this.1,?_⟩;split <;> omega
    ·have:=g7 y hy (T.line hyk h4 (by omega))
     refine⟨this.1,?_⟩;split <;> omega
  ·obtain⟨a',b',k1,k2,k3⟩:=h.hi k hk hkN
   refine⟨a',b',by rw[bA,if_neg (λ c=>e c.1)];exact k1,?_,k3⟩;split
   ·rw[bA,if_neg (λ c=>e c.1)];exact k2
   ·exact k2
theorem Fo.link(T:Tr G par hi){s:Nat->Nat}{L:Nat}{up least:List Int}(h:Fo G hi s (L+1) up least)(h0:0<L)(hL:L<G.N):Fo G hi s L (up.set L (par L:Int)) least:=by
 refine⟨by simp[h.l1],h.l2,λ k hk hkN=>?_,λ k hk hkN=>?_⟩
 ·rw[bA,if_neg (λ c=>by omega)]
  exact h.lo k (by omega) hkN
 ·by_cases e:k=L
  ·subst e
   have hl:k<up.length:=by rw[h.l1];exact hkN
   have hp:=T.up k h0 hkN;refine⟨par k,k,by rw[bA,if_pos ⟨rfl,hl⟩],(h.lo k (by omega) hkN).2,hp.1,T.rep h0 hkN,hp.1,T.self hkN,λ y hy hyk=>?_⟩
   have:y=k:=by
    rcases(T.parAnc h0 hkN (by unfold Anc at hyk;omega)).1 hyk with e|c
    ·exact e
    ·unfold Anc at c;omega
   subst this;exact⟨Nat.le_refl _,Nat.le_refl _⟩
  ·obtain⟨a,b,k1,k2,k3,k4,k5,k6,k7⟩:=h.hi k (by omega) hkN
   refine⟨a,b,by rw[bA,if_neg (λ c=>e c.1)];exact k1,k2,k3,k4,k5,k6,λ y hy hyk=>?_⟩;have:=k7 y hy hyk;exact⟨by omega,this.2⟩
theorem Fo.start(s:Nat->Nat):Fo G hi s G.N (List.replicate G.N (-1)) ((List.range G.N).map Int.ofNat):=by
 refine⟨by simp,by simp,λ k _ hk=>⟨?_,?_⟩,λ k h1 h2=>by omega⟩
 ·rw[List.getD_eq_getElem?_getD,List.getElem?_replicate,if_pos hk];rfl
 ·rw[List.getD_eq_getElem?_getD,List.getElem?_map,List.getElem?_range hk];rfl
inductive Ch(up:List Int)(L i:Nat):List Int->Nat->Prop
 | nil:Ch up L i [] i
 | snoc {xs:List Int} {m a:Nat}:Ch up L i xs m->L<=m->a<m->up.getD m 0=(a:Int)->L<=a->Ch up L i (xs ++ [(m:Int)]) a
theorem Ch.snoc_inv{up:List Int}{L i:Nat}{xs:List Int}{n:Int}{e:Nat}(h:Ch up L i (xs ++ [n]) e):∃ m:Nat,n=(m:Int)/\Ch up L i xs m/\L<=m/\e<m/\up.getD m 0=(e:Int)/\L<=e:=by
 generalize hy:xs ++ [n]=ys at h;cases h with
 | nil=>simp at hy
 | @snoc xs' m _ h1 h2 h3 h4 h5 =>
  obtain⟨rfl,h6⟩:=List.append_inj' hy rfl;injection h6 with h6
  exact⟨m,h6,h1,h2,h3,h4,h5⟩
theorem Ch.keep{up:List Int}{L i:Nat}{xs:List Int}{e n:Nat}{v:Int}(h:Ch up L i xs e)(hn:n<=e):Ch (up.set n v) L i xs e:=by
 induction h with
 | nil=>exact .nil
 | @snoc xs m a h1 h2 h3 h4 h5 ih =>
  exact .snoc (ih (by omega)) h2 h3 (by rw[bA,if_neg (λ c=>by omega)];exact h4) h5
theorem Ch.le{up:List Int}{L i:Nat}{xs:List Int}{e:Nat}(h:Ch up L i xs e):e+xs.length<=i:=by
 induction h with
 | nil=>simp
 | snoc _ _ _ _ _ ih=>simp;omega
structure Bk(G:Dg)(hi:Nat->Nat)(s:Nat->Nat)(L i:Nat)(up least xs:List Int):Prop where
 fo:Fo G hi s L up least
 ch:∃ top:Nat,Ch up L i xs top/\L<=top/\top<G.N/\up.getD top 0<(L:Int)
theorem Bk.step(T:Tr G par hi){s:Nat->Nat}{L i:Nat}{up least xs:List Int}{n:Int}(h:Bk G hi s L i up least (xs ++ [n]))(hi':i<G.N) :
  ∃ m a bn ba:Nat,n=(m:Int)/\m<G.N/\a<G.N/\bn<G.N/\ba<G.N/\L<=bn/\L<=ba/\up.getD m 0=(a:Int)/\least.getD m 0=(bn:Int)/\least.getD a 0=(ba:Int) /\
   Bk G hi s L i (up.set m (up.getD a 0)) (if s ba<s bn then least.set m (ba:Int)else least) xs:=by
 obtain⟨fo,top,hc,h1,h2,h3⟩:=h;obtain⟨m,rfl,hm,k1,k2,k3,k4⟩:=hc.snoc_inv;have hmN:m<G.N:=by have:=hm.le;omega
 obtain⟨a1,bn,e1,e2,_,_,_,e6,e7⟩:=fo.hi m k1 hmN;obtain⟨a2,ba,f1,f2,_,_,_,f6,f7⟩:=fo.hi top h1 h2;have hl:m<up.length:=by rw[fo.l1];exact hmN
 refine⟨m,top,bn,ba,rfl,hmN,h2,by unfold Anc at e6;omega,by unfold Anc at f6;omega,(e7 bn (by omega) e6).1,(f7 ba (by omega) f6).1,k3,e2,f2,fo.cut T hmN k1 k3 h1 e2 f2,m,hm.keep (Nat.le_refl _),k1,hmN,?_⟩;rw[bA,if_pos ⟨rfl,hl⟩];exact h3
theorem Bk.done{s:Nat->Nat}{L i:Nat}{up least:List Int}(h:Bk G hi s L i up least []):∃ b:Nat,least.getD i 0=(b:Int)/\L<=b/\Anc hi b i/\∀ y,L<=y->Anc hi y i->s b<=s y:=by
 obtain⟨fo,top,hc,h1,h2,h3⟩:=h;generalize hx:([]:List Int)=xs at hc;cases hc with
 | snoc _ _ _ _ _=>simp at hx
 | nil =>
  obtain⟨a,b,e1,e2,e3,e4,e5,e6,e7⟩:=fo.hi i h1 h2;exact⟨b,e2,(e7 b e5 e6).1,e6,λ y hy hyi=>(e7 y (by omega) hyi).2⟩
structure Bst(G:Dg)(hi:Nat->Nat)(s:Nat->Nat)(L i b:Nat):Prop where
 lo:i<L->b=i
 hi:L<=i->L<=b/\Anc hi b i/\∀ y,L<=y->Anc hi y i->s b<=s y
end Dm
end Go.Proofs.YtkfahppdklecdaaGreatDoor.J
namespace Go.Proofs.YtkfahppdklecdaaGreatDoor.J
namespace Dm
variable {G:Dg} {par hi:Nat->Nat}
def Rel(G:Dg)(hi:Nat->Nat)(n:Nat)(v:Int):Prop :=
 (v=(sdv G n:Int)/\∀ y,sdv G n<y->Anc hi y n->sdv G n<=sdv G y) ∨
 ∃ u:Nat,v=(u:Int)/\sdv G n<u/\Anc hi u n/\sdv G u<sdv G n/\∀ y,sdv G n<y->Anc hi y n->sdv G u<=sdv G y
structure Ab(G:Dg)(par hi:Nat->Nat)(L:Nat)(semi up least res:List Int)(wait:List (List Int)):Prop where
 fo:Fo G hi (sdv G) L up least
 sl:semi.length=G.N
 rl:res.length=G.N
 wl:wait.length=G.N
 slo:∀ k,k<L->k<G.N->semi.getD k 0=(k:Int)
 shi:∀ k,L<=k->k<G.N->semi.getD k 0=(sdv G k:Int)
 ws:∀ f,f<G.N->∀ x∈wait.getD f [],∃ n:Nat,x=(n:Int)/\L<=n/\n<G.N/\sdv G n=f/\∀ c,L<=c->c<G.N->par c=f->¬ Anc hi c n
 rlo:∀ k,k<L->k<G.N->res.getD k 0 = -1
 rhi:∀ n,L<=n->n<G.N->(n:Int)∈wait.getD (sdv G n) []∨Rel G hi n (res.getD n 0)
structure Mn(G:Dg)(hi:Nat->Nat)(w m:Nat)(done:List Int):Prop where
 le:m<=w
 ok:m=w∨Sp G m w
 all:∀ p:Nat,(p:Int)∈done->(p<w->m<=p)/\∀ u,w<u->Anc hi u p->m<=sdv G u
theorem Mn.start(w:Nat):Mn G hi w w []:=⟨Nat.le_refl _,.inl rfl,λ _ h=>by cases h⟩
theorem Mn.step(T:Tr G par hi){w m p b:Nat}{done:List Int}(h:Mn G hi w m done)(he:G.e p w)(hb:Bst G hi (sdv G) (w+1) p b){v:Nat}(hv1:b<w->v=b)(hv2:b=w->v=m)(hv3:w<b->v=sdv G b):Mn G hi w (min m v) (done ++ [(p:Int)]):=by
 have hpN:=T.src _ _ he;by_cases c:p<w+1
 ·have hbp:=hb.lo c
  subst hbp;by_cases c2:b=w
  ·have:=hv2 c2
   refine⟨by have:=h.le;omega,?_,λ q hq=>?_⟩
   ·rw[this,Nat.min_self];exact h.ok
   ·rcases List.mem_append.1 hq with hq|hq
    ·have:=h.all q hq;exact⟨λ k=>by have:=this.1 k;omega,λ u hu ha=>by have:=this.2 u hu ha;omega⟩
    ·have:q=b:=by have:=List.mem_singleton.1 hq;omega
     subst this;exact⟨λ k=>by omega,λ u hu ha=>by unfold Anc at ha;omega⟩
  ·have hv:=hv1 (by omega)
   refine⟨by have:=h.le;omega,?_,λ q hq=>?_⟩
   ·right
    by_cases c3:m<=v
    ·rw[Nat.min_eq_left c3]
     rcases h.ok with e|e
     ·omega
     ·exact e
    ·rw[Nat.min_eq_right (by omega),hv];exact Sp.edge he
   ·rcases List.mem_append.1 hq with hq|hq
    ·have:=h.all q hq;exact⟨λ k=>by have:=this.1 k;omega,λ u hu ha=>by have:=this.2 u hu ha;omega⟩
    ·have:q=b:=by have:=List.mem_singleton.1 hq;omega
     subst this;exact⟨λ k=>by omega,λ u hu ha=>by unfold Anc at ha;omega⟩
 ·obtain⟨k1,k2,k3⟩:=hb.hi (by omega)
  have hv:=hv3 (by omega);have hbN:b<G.N:=by unfold Anc at k2;omega
  have hsp:=T.candOk he (by omega) k2 (T.sdv b (by omega) hbN).sp;rw[<- hv]at hsp;refine⟨by have:=h.le;omega,?_,λ q hq=>?_⟩
  ·by_cases c3:m<=v
   ·rw[Nat.min_eq_left c3];exact h.ok
   ·rw[Nat.min_eq_right (by omega)];exact .inr hsp
  ·rcases List.mem_append.1 hq with hq|hq
   ·have:=h.all q hq;exact⟨λ k=>by have:=this.1 k;omega,λ u hu ha=>by have:=this.2 u hu ha;omega⟩
   ·have:q=p:=by have:=List.mem_singleton.1 hq;omega
    subst this;exact⟨λ k=>by omega,λ u hu ha=>by have:=k3 u (by omega) ha;omega⟩
theorem Mn.done(T:Tr G par hi){w m:Nat}{done:List Int}(h:Mn G hi w m done)(h0:0<w)(hw:w<G.N)(hall:∀ p:Nat,G.e p w->(p:Int)∈done):m=sdv G w:=by
 have hp:=T.up w h0 hw;have h1:=(h.all _ (hall _ hp.2)).1 hp.1
 have hs:Sd G m w:=by
  refine⟨?_,λ v hv=>?_⟩
  ·rcases h.ok with e|e
   ·omega
   ·exact e
  ·by_cases c:v<w
   ·rcases T.cand c hv with ⟨p,he,rfl⟩|⟨p,u,he,hu,ha,hsu⟩
    ·exact(h.all p (hall p he)).1 c
    ·have h2:=(h.all p (hall p he)).2 u hu ha
     have huN:u<G.N:=by have:=T.src _ _ he;unfold Anc at ha;omega
     have:=(T.sdv u (by omega) huN).le v hsu;omega
   ·omega
 exact hs.one (T.sdv w h0 hw)
theorem Tr.child(T:Tr G par hi){f:Nat}:∀ n,n<G.N->f<n->Anc hi f n->∃ c,f<c/\c<=n/\par c=f/\Anc hi c n:=by
 intro n
 induction n using Nat.strongRecOn with
 | _ n ih =>
  intro hn hf ha;have hfN:f<G.N:=by omega
  have h1:=(T.up n (by omega) hn).1;rcases(T.parAnc (by omega) hn hfN).1 ha with e|c
  ·omega
  ·by_cases e:f=par n
   ·exact⟨n,hf,Nat.le_refl _,e.symm,T.self hn⟩
   ·obtain⟨d,k1,k2,k3,k4⟩:=ih (par n) h1 (by omega) (by unfold Anc at c;omega) c
    exact⟨d,k1,by omega,k3,(T.parAnc (by omega) hn (by omega)).2 (.inr k4)⟩
theorem Ab.onway(T:Tr G par hi){w n f:Nat}(hf:par w=f)(h0:0<w)(hw:w<G.N)(hn:n<G.N)(hwn:w<=n)(hs:sdv G n=f)(hc:∀ c,w+1<=c->c<G.N->par c=f->¬ Anc hi c n):Anc hi w n:=by
 have hS:=T.sdv n (by omega) hn;have ha:=hS.anc T (by omega) hn;have hl:=hS.lt T (by omega) hn;rw[hs]at ha hl;obtain⟨c,k1,k2,k3,k4⟩:=T.child n hn hl ha;by_cases e:c=w
 ·subst e;exact k4
 ·by_cases c2:w<c
  ·exact absurd k4 (hc c (by omega) (by omega) k3)
  ·exfalso
   have h1:=T.ins c w (by omega) (by omega) (by unfold Anc at k4;omega);omega
theorem Rel.of(T:Tr G par hi){w n f b:Nat}(hf:par w=f)(h0:0<w)(hw:w<G.N)(hn:n<G.N)(hwn:w<=n)(hs:sdv G n=f)(hc:∀ c,w+1<=c->c<G.N->par c=f->¬ Anc hi c n)
  (hb:Bst G hi (sdv G) w n b):Rel G hi n (if sdv G b<f then (b:Int)else (f:Int)):=by
 have hwa:=Ab.onway T hf h0 hw hn hwn hs hc;obtain⟨k1,k2,k3⟩:=hb.hi hwn;have hp:=(T.up w h0 hw).1
 have key:∀ y,f<y->Anc hi y n->w<=y:=λ y hy ha=>by
  by_cases c:w<=y
  ·exact c
  ·exfalso
   have h1:=T.line ha hwa (by omega);rcases(T.parAnc h0 hw (by omega)).1 h1 with e|e
   ·omega
   ·unfold Anc at e;omega
 by_cases c:sdv G b<f
 ·rw[if_pos c]
  exact .inr ⟨b,rfl,by omega,k2,by omega,λ y hy ha=>k3 y (key y (by omega) ha) ha⟩
 ·rw[if_neg c]
  refine .inl ⟨by rw[hs],λ y hy ha=>?_⟩;have:=k3 y (key y (by omega) ha) ha;omega
structure Aw(G:Dg)(par hi:Nat->Nat)(w:Nat)(semi up least res:List Int)(wait:List (List Int))(done:List Int):Prop where
 fo:Fo G hi (sdv G) w up least
 sl:semi.length=G.N
 rl:res.length=G.N
 wl:wait.length=G.N
 slo:∀ k,k<w->k<G.N->semi.getD k 0=(k:Int)
 shi:∀ k,w<=k->k<G.N->semi.getD k 0=(sdv G k:Int)
 ws:∀ f,f<G.N->∀ x∈wait.getD f [],∃ n:Nat,x=(n:Int)/\w<=n/\n<G.N/\sdv G n=f/\∀ c,w+1<=c->c<G.N->par c=f->¬ Anc hi c n
 rlo:∀ k,k<w->k<G.N->res.getD k 0 = -1
 rhi:∀ n,w<=n->n<G.N->(n:Int)∈wait.getD (sdv G n) []∨Rel G hi n (res.getD n 0)
 rdn:∀ n:Nat,(n:Int)∈done->Rel G hi n (res.getD n 0)
theorem eQ(l:List (List Int))(i j:Nat)(x:List Int):(l.set i x).getD j []=if j=i/\i<l.length then x else l.getD j []:=by
 rw[List.getD_eq_getElem?_getD,List.getD_eq_getElem?_getD,List.getElem?_set];by_cases e:i=j
 ·subst e
  by_cases h:i<l.length
  ·simp[h]
  ·rw[if_pos rfl,if_neg h,List.getElem?_eq_none (by omega)];simp[h]
 ·rw[if_neg e]
  have:¬ (j=i/\i<l.length):=λ c=>e c.1.symm
  simp[this]
theorem Ab.put(T:Tr G par hi){w:Nat}{semi semi' up least res:List Int}{wait:List (List Int)}(h:Ab G par hi (w+1) semi' up least res wait)(h0:0<w)(hw:w<G.N)(he:semi=semi'.set w (sdv G w:Int)) :
  Aw G par hi w semi (up.set w (par w:Int)) least res (wait.set (sdv G w) (wait.getD (sdv G w) [] ++ [(w:Int)])) []:=by
 have hsl:w<semi'.length:=by rw[h.sl];exact hw
 have hS:=T.sdv w h0 hw;have hlt:=hS.lt T h0 hw;have hwl:sdv G w<wait.length:=by rw[h.wl];omega
 subst he;refine⟨h.fo.link T h0 hw,by simp[h.sl],h.rl,by simp[h.wl],λ k hk hkN=>?_,λ k hk hkN=>?_,λ f hf x hx=>?_,λ k hk hkN=>h.rlo k (by omega) hkN,λ n hn hnN=>?_,λ n hn=>by cases hn⟩
 ·rw[bA,if_neg (λ c=>by omega)];exact h.slo k (by omega) hkN
 ·rw[bA]
  by_cases e:k=w
  ·rw[if_pos ⟨e,hsl⟩,e]
  ·rw[if_neg (λ c=>e c.1)];exact h.shi k (by omega) hkN
 ·rw[eQ]at hx
  have old:∀ x∈wait.getD f [],∃ n:Nat,x=(n:Int)/\w<=n/\n<G.N/\sdv G n=f/\∀ c,w+1<=c->c<G.N->par c=f->¬ Anc hi c n:=λ x hx=>by
   obtain⟨n,k1,k2,k3,k4,k5⟩:=h.ws f hf x hx;exact⟨n,k1,by omega,k3,k4,k5⟩
  by_cases e:f=sdv G w
  ·rw[if_pos ⟨e,hwl⟩]at hx
   rcases List.mem_append.1 hx with hx|hx
   ·rw[<- e]at hx;exact old x hx
   ·exact⟨w,List.mem_singleton.1 hx,Nat.le_refl _,hw,e.symm,λ c hc _ _ ha=>by unfold Anc at ha;omega⟩
  ·rw[if_neg (λ c=>e c.1)]at hx;exact old x hx
 ·rw[eQ]
  by_cases e:n=w
  ·subst e
   rw[if_pos ⟨rfl,hwl⟩];exact .inl (List.mem_append_right _ (List.mem_singleton.2 rfl))
  ·rcases h.rhi n (by omega) hnN with k|k
   ·left
    split
    ·rename_i c;rw[<- c.1];exact List.mem_append_left _ k
    ·exact k
   ·exact .inr k
theorem Aw.tell(T:Tr G par hi){w:Nat}{semi up up' least least' res:List Int}{wait:List (List Int)}{done:List Int}{n b:Nat}(h:Aw G par hi w semi up least res wait done)(h0:0<w)(hw:w<G.N)
  (hx:(n:Int)∈wait.getD (par w) []) (hfo:Fo G hi (sdv G) w up' least') (hb:Bst G hi (sdv G) w n b):Aw G par hi w semi up' least' ((res.set n (par w:Int)).set n (if sdv G b<par w then (b:Int)else (par w:Int))) wait (done ++ [(n:Int)]):=by
 have hp:=(T.up w h0 hw).1;obtain⟨n',e,k1,k2,k3,k4⟩:=h.ws (par w) (by omega) _ hx;obtain rfl:n=n':=by omega
 have hR:=Rel.of T rfl h0 hw k2 k1 k3 k4 hb;have hnl:n<res.length:=by rw[h.rl];exact k2
 have hg:∀ k,((res.set n (par w:Int)).set n (if sdv G b<par w then (b:Int)else (par w:Int))).getD k 0=if k=n then (if sdv G b<par w then (b:Int)else (par w:Int))else res.getD k 0:=λ k=>by
  rw[bA,bA,List.length_set];by_cases e:k=n
  ·rw[if_pos ⟨e,hnl⟩,if_pos e]
  ·rw[if_neg (λ c=>e c.1),if_neg (λ c=>e c.1),if_neg e]
 refine⟨hfo,h.sl,by simp[h.rl],h.wl,h.slo,h.shi,h.ws,λ k hk hkN=>?_,λ m hm hmN=>?_,λ m hm=>?_⟩
 ·rw[hg,if_neg (by omega)];exact h.rlo k hk hkN
 ·rw[hg]
  by_cases e:m=n
  ·rw[if_pos e,e];exact .inr hR
  ·rw[if_neg e];exact h.rhi m hm hmN
 ·rw[hg]
  by_cases e:m=n
  ·rw[if_pos e,e];exact hR
  ·rw[if_neg e]
   rcases List.mem_append.1 hm with c|c
   ·exact h.rdn m c
   ·have:=List.mem_singleton.1 c;omega
theorem Aw.done(T:Tr G par hi){w:Nat}{semi up least res:List Int}{wait:List (List Int)}(h:Aw G par hi w semi up least res wait (wait.getD (par w) []))(h0:0<w)(hw:w<G.N):Ab G par hi w semi up least res (wait.set (par w) []):=by
 have hp:=(T.up w h0 hw).1;have hwl:par w<wait.length:=by rw[h.wl];omega
 refine⟨h.fo,h.sl,h.rl,by simp[h.wl],h.slo,h.shi,λ f hf x hx=>?_,h.rlo,λ n hn hnN=>?_⟩
 ·rw[eQ]at hx
  by_cases e:f=par w
  ·rw[if_pos ⟨e,hwl⟩]at hx;cases hx
  ·rw[if_neg (λ c=>e c.1)]at hx
   obtain⟨n,k1,k2,k3,k4,k5⟩:=h.ws f hf x hx;refine⟨n,k1,k2,k3,k4,λ c hc hcN hpc=>?_⟩;by_cases e2:c=w
   ·subst e2;exact absurd hpc.symm e
   ·exact k5 c (by omega) hcN hpc
 ·rw[eQ]
  rcases h.rhi n hn hnN with k|k
  ·by_cases e:sdv G n=par w
   ·rw[e]at k;exact .inr (h.rdn n k)
   ·rw[if_neg (λ c=>e c.1)];exact .inl k
  ·exact .inr k
theorem rep_getI(N k:Nat)(x:Int)(h:k<N):(List.replicate N x).getD k 0=x:=by
 rw[List.getD_eq_getElem?_getD,List.getElem?_replicate,if_pos h];rfl
theorem range_getI(N k:Nat)(h:k<N):((List.range N).map Int.ofNat).getD k 0=(k:Int):=by
 rw[List.getD_eq_getElem?_getD,List.getElem?_map,List.getElem?_range h];rfl
theorem Ab.start:Ab G par hi G.N ((List.range G.N).map Int.ofNat) (List.replicate G.N (-1)) ((List.range G.N).map Int.ofNat) (List.replicate G.N (-1)) (List.replicate G.N []):=by
 refine⟨Fo.start _,by simp,by simp,by simp,λ k _ hk=>range_getI _ _ hk,λ k h1 h2=>by omega,λ f hf x hx=>?_,λ k _ hk=>rep_getI _ _ _ hk,λ n h1 h2=>by omega⟩;rw[List.getD_eq_getElem?_getD,List.getElem?_replicate]at hx;split at hx <;> cases hx
structure Lp(G:Dg)(hi:Nat->Nat)(k:Nat)(res:List Int):Prop where
 rl:res.length=G.N
 lo:∀ n,n<k->n<G.N->G.Up n (res.getD n 0)
 z:k=0->0<G.N->res.getD 0 0 = -1
 hi:∀ n,k<=n->0<n->n<G.N->Rel G hi n (res.getD n 0)
theorem Ab.last(T:Tr G par hi){L:Nat}{semi up least res:List Int}{wait:List (List Int)}(h:Ab G par hi L semi up least res wait)(hL:L<=1)(h1:L=0->G.N=0):Lp G hi 0 res:=by
 refine⟨h.rl,λ n hn=>by omega,λ _ h0=>h.rlo 0 (by omega) h0,λ n _ hn hnN=>?_⟩;rcases h.rhi n (by omega) hnN with k|k
 ·exfalso
  have hS:=T.sdv n hn hnN;have hl:=hS.lt T hn hnN;obtain⟨n',e,k1,k2,k3,k4⟩:=h.ws (sdv G n) (by omega) _ k;obtain rfl:n=n':=by omega
  obtain⟨c,g1,g2,g3,g4⟩:=T.child n hnN hl (hS.anc T hn hnN);exact k4 c (by omega) (by omega) g3 g4
 ·exact k
theorem Dg.no0:G.Up 0 (-1):=by
 refine .inl ⟨rfl,λ x hx hd=>hx (hd.anti (Dg.d0 hd.1))⟩
theorem Lp.step(T:Tr G par hi){k:Nat}{semi res:List Int}(h:Lp G hi k res)(hk:k<G.N)(hs:∀ n,0<n->n<G.N->semi.getD n 0=(sdv G n:Int)) :
  (¬ (res.getD k 0≠-1/\res.getD k 0≠semi.getD k 0)->Lp G hi (k+1) res) /\
  (res.getD k 0≠-1/\res.getD k 0≠semi.getD k 0->∃ u:Nat,res.getD k 0=(u:Int)/\u<G.N/\Lp G hi (k+1) (res.set k (res.getD u 0))):=by
 by_cases e:k=0
 ·subst e
  have hz:=h.z rfl hk;refine⟨λ _=>⟨h.rl,λ n hn hnN=>?_,λ c=>by omega,λ n hn h0 hnN=>h.hi n (by omega) h0 hnN⟩,λ c=>absurd hz c.1⟩;obtain rfl:n=0:=by omega
  rw[hz];exact Dg.no0
 ·have hS:=T.sdv k (by omega) hk
  have hl:=hS.lt T (by omega) hk;rcases h.hi k (Nat.le_refl _) (by omega) hk with ⟨e1,h2⟩|⟨u,e1,h2,h3,h4,h5⟩
  ·have hI:=T.idomS (Dm.sdv G) T.sdv (by omega) hk rfl h2
   refine⟨λ _=>⟨h.rl,λ n hn hnN=>?_,λ c=>by omega,λ n hn h0 hnN=>h.hi n (by omega) h0 hnN⟩,λ c=>?_⟩
   ·by_cases e2:n=k
    ·subst e2;exact .inr ⟨_,e1,hI⟩
    ·exact h.lo n (by omega) hnN
   ·exfalso;exact c.2 (by rw[hs k (by omega) hk,e1])
  ·have hu:u<k:=by
    have:u≠k:=λ c=>by subst c;omega
    unfold Anc at h3;omega
   refine⟨λ c=>?_,λ _=>⟨u,e1,by omega,by simp[h.rl],λ n hn hnN=>?_,λ c=>by omega,λ n hn h0 hnN=>?_⟩⟩
   ·exfalso;apply c
    rw[hs k (by omega) hk,e1];omega
   ·have hkl:k<res.length:=by rw[h.rl];exact hk
    rw[bA];by_cases e2:n=k
    ·rw[if_pos ⟨e2,hkl⟩,e2]
     rcases h.lo u hu (by omega)with ⟨_,c⟩|⟨a,ea,hI⟩
     ·exact absurd (Dg.d0 (T.reach (m:=u) (by omega))) (c 0 (by omega))
     ·exact .inr ⟨a,ea,T.idomU (Dm.sdv G) T.sdv (by omega) hk rfl h2 h3 h5 hI⟩
    ·rw[if_neg (λ c=>e2 c.1)];exact h.lo n (by omega) hnN
   ·rw[bA,if_neg (λ c=>by omega)];exact h.hi n (by omega) h0 hnN
theorem Lp.done{res:List Int}(h:Lp G hi G.N res):∀ n,n<G.N->G.Up n (res.getD n 0):=λ n hn=>h.lo n hn hn
end Dm
end Go.Proofs.YtkfahppdklecdaaGreatDoor.J
namespace Go.Proofs.YtkfahppdklecdaaGreatDoor.J
namespace Dm
structure Ws where
 nodes:List Nat
 frm:List Int
 left:List Nat
def Ws.meet(S:Ws)(x:Nat)(i:Int):Ws:={ nodes:=S.nodes ++ [x],frm:=S.frm ++ [i],left:=S.left }
def Ws.leave(S:Ws)(x:Nat):Ws:={ nodes:=S.nodes,frm:=S.frm,left:=S.left ++ [x] }
def isN(N:Nat)(cl x:Int):Prop:=0<=x/\x<(N:Int)/\x≠cl
instance (N:Nat) (cl x:Int):Decidable (isN N cl x):=by unfold isN;infer_instance
def opn(N:Nat)(cl:Int)(S:Ws)(x:Int):Bool:=decide (isN N cl x/\x.toNat ∉ S.nodes)
def vz(N:Nat)(cl:Int)(su:Nat->List Int):Nat->Ws->Nat->Ws
 | 0,S,_=>S
 | f+1,S,i=>((su (S.nodes.getD i 0)).foldl (λ S x=>if opn N cl S x=true then vz N cl su f (S.meet x.toNat i) S.nodes.length else S) S).leave (S.nodes.getD i 0)
def vzs(N:Nat)(cl:Int)(su:Nat->List Int)(f i:Nat)(S:Ws)(x:Int):Ws:=if opn N cl S x=true then vz N cl su f (S.meet x.toNat i) S.nodes.length else S
theorem vz_succ(N:Nat)(cl:Int)(su:Nat->List Int)(f:Nat)(S:Ws)(i:Nat):vz N cl su (f+1) S i=((su (S.nodes.getD i 0)).foldl (vzs N cl su f i) S).leave (S.nodes.getD i 0):=rfl
theorem cV{α:Type}(l m:List α)(d:α){i:Nat}(h:i<l.length):(l ++ m).getD i d=l.getD i d:=by
 rw[List.getD_eq_getElem?_getD,List.getElem?_append_left h,<- List.getD_eq_getElem?_getD]
theorem eR{α:Type}(l:List α)(x d:α):(l ++ [x]).getD l.length d=x:=by
 rw[List.getD_eq_getElem?_getD,List.getElem?_append_right (Nat.le_refl _)];simp
theorem bV{l:List Nat}{i:Nat}(h:i<l.length):l.getD i 0∈l:=by
 rw[List.getD_eq_getElem?_getD,List.getElem?_eq_getElem h];exact List.getElem_mem h
theorem eF{l:List Nat}{x:Nat}(h:x∈l):∃ j,j<l.length/\l.getD j 0=x:=by
 obtain⟨j,hj,e⟩:=List.getElem_of_mem h;exact⟨j,hj,by rw[List.getD_eq_getElem?_getD,List.getElem?_eq_getElem hj,e];rfl⟩
theorem nodup_len{l:List Nat}(N:Nat)(hn:l.Nodup)(h:∀ x∈l,x<N):l.length<=N:=by
 have:=List.Nodup.length_le_of_subset hn (l₂:=List.range N) (λ x hx=>List.mem_range.2 (h x hx))
 rwa [List.length_range]at this
structure Vz(N:Nat)(cl:Int)(su:Nat->List Int)(S T:Ws)(i:Nat)(hi:Nat->Nat):Prop where
 pn:∃ l,T.nodes=S.nodes ++ l
 pf:∃ l,T.frm=S.frm ++ l
 lf:T.frm.length=T.nodes.length
 nd:T.nodes.Nodup
 lt:∀ x∈T.nodes,isN N cl (x:Int)
 nw:∀ m,S.nodes.length<=m->m<T.nodes.length->∃ p:Nat,T.frm.getD m 0=(p:Int)/\p<m/\(p=i∨S.nodes.length<=p)/\((T.nodes.getD m 0:Nat):Int)∈su (T.nodes.getD p 0)
 hi1:∀ k,S.nodes.length<=k->k<T.nodes.length->k<hi k/\hi k<=T.nodes.length
 ins:∀ k m,S.nodes.length<=k->k<T.nodes.length->k<m->m<hi k->(k:Int)<=T.frm.getD m 0
 out:∀ k m,S.nodes.length<=k->k<T.nodes.length->hi k<=m->m<T.nodes.length->T.frm.getD m 0<(k:Int)∨(hi k:Int)<=T.frm.getD m 0
 edge:∀ k,S.nodes.length<=k->k<T.nodes.length->∀ x∈su (T.nodes.getD k 0),isN N cl x->∃ j,j<hi k/\((T.nodes.getD j 0:Nat):Int)=x
theorem Vz.len{N:Nat}{cl:Int}{su:Nat->List Int}{S T:Ws}{i:Nat}{hi:Nat->Nat}(h:Vz N cl su S T i hi):S.nodes.length<=T.nodes.length:=by
 obtain⟨l,e⟩:=h.pn;rw[e];simp
theorem Vz.old{N:Nat}{cl:Int}{su:Nat->List Int}{S T:Ws}{i:Nat}{hi:Nat->Nat}(h:Vz N cl su S T i hi){k:Nat}(hk:k<S.nodes.length):T.nodes.getD k 0=S.nodes.getD k 0:=by
 obtain⟨l,e⟩:=h.pn;rw[e];exact cV _ _ _ hk
theorem Vz.oldF{N:Nat}{cl:Int}{su:Nat->List Int}{S T:Ws}{i:Nat}{hi:Nat->Nat}(h:Vz N cl su S T i hi){k:Nat}(hk:k<S.frm.length):T.frm.getD k 0=S.frm.getD k 0:=by
 obtain⟨l,e⟩:=h.pf;rw[e];exact cV _ _ _ hk
structure Wf(N:Nat)(cl:Int)(S:Ws):Prop where
 lf:S.frm.length=S.nodes.length
 nd:S.nodes.Nodup
 lt:∀ x∈S.nodes,isN N cl (x:Int)
theorem Wf.le{N:Nat}{cl:Int}{S:Ws}(h:Wf N cl S):S.nodes.length<=N:=nodup_len N h.nd (λ x hx=>by have:=h.lt x hx;unfold isN at this;omega)
theorem Vz.wf{N:Nat}{cl:Int}{su:Nat->List Int}{S T:Ws}{i:Nat}{hi:Nat->Nat}(h:Vz N cl su S T i hi):Wf N cl T:=⟨h.lf,h.nd,h.lt⟩
theorem Vz.refl{N:Nat}{cl:Int}{su:Nat->List Int}{S:Ws}(i:Nat)(hi:Nat->Nat)(h:Wf N cl S):Vz N cl su S S i hi :=
 ⟨⟨[],by simp⟩,⟨[],by simp⟩,h.lf,h.nd,h.lt,λ m h1 h2=>by omega,λ k h1 h2=>by omega,λ k m h1 h2=>by omega,λ k m h1 h2=>by omega,λ k h1 h2=>by omega⟩
theorem Wf.meet{N:Nat}{cl:Int}{S:Ws}{x i:Int}(h:Wf N cl S)(ho:opn N cl S x=true):Wf N cl (S.meet x.toNat i):=by
 unfold opn at ho;obtain⟨h1,h2⟩:=of_decide_eq_true ho;have hx:((x.toNat:Nat):Int)=x:=by unfold isN at h1;omega
 refine⟨by simp[Ws.meet,h.lf],?_,λ y hy=>?_⟩
 ·show(S.nodes ++ [x.toNat]).Nodup
  rw[List.nodup_append];refine⟨h.nd,List.pairwise_singleton _ _,λ a ha b hb e=>?_⟩;rw[List.mem_singleton.1 hb]at e;subst e;exact h2 ha
 ·rcases List.mem_append.1 hy with c|c
  ·exact h.lt y c
  ·rw[List.mem_singleton.1 c,hx];exact h1
theorem Vz.more{N:Nat}{cl:Int}{su:Nat->List Int}{S T U:Ws}{i:Nat}{h1 h2:Nat->Nat}{x:Int}(hi:i<S.nodes.length)(h:Vz N cl su S T i h1)(ho:opn N cl T x=true)(hx:x∈su (S.nodes.getD i 0))(k:Vz N cl su (T.meet x.toNat i) U T.nodes.length h2)
  (hrow:∀ y∈su ((T.meet x.toNat i).nodes.getD T.nodes.length 0),isN N cl y->∃ j,j<U.nodes.length/\((U.nodes.getD j 0:Nat):Int)=y) :
  Vz N cl su S U i (λ m=>if m<T.nodes.length then h1 m else if m=T.nodes.length then U.nodes.length else h2 m):=by
 unfold opn at ho;obtain⟨ho1,ho2⟩:=of_decide_eq_true ho;have hx':((x.toNat:Nat):Int)=x:=by unfold isN at ho1;omega
 have hl1:=h.len;have hm:(T.meet x.toNat i).nodes.length=T.nodes.length+1:=by simp[Ws.meet]
 have hmf:(T.meet x.toNat i).frm.length=T.nodes.length+1:=by simp[Ws.meet,h.lf]
 have hl2:=k.len;rw[hm]at hl2
 have n1:∀ {m},m<T.nodes.length->U.nodes.getD m 0=T.nodes.getD m 0:=λ {m} c=>by
  rw[k.old (by omega)];exact cV _ _ _ c
 have f1:∀ {m},m<T.nodes.length->U.frm.getD m 0=T.frm.getD m 0:=λ {m} c=>by
  rw[k.oldF (by omega)];exact cV _ _ _ (by rw[h.lf];exact c)
 have n2:U.nodes.getD T.nodes.length 0=x.toNat:=by
  rw[k.old (by omega)];exact eR _ _ _
 have f2:U.frm.getD T.nodes.length 0=(i:Int):=by
  rw[k.oldF (by omega),<- h.lf];exact eR _ _ _
 refine⟨?_,?_,k.lf,k.nd,k.lt,λ m hm1 hm2=>?_,λ m hm1 hm2=>?_,λ a m ha1 ha2 hm1 hm2=>?_,λ a m ha1 ha2 hm1 hm2=>?_,λ a ha1 ha2 y hy hyN=>?_⟩
 ·obtain⟨l,e⟩:=h.pn;obtain⟨l',e'⟩:=k.pn
  exact⟨l ++ ([x.toNat] ++ l'),by rw[e'];show T.nodes ++ [x.toNat] ++ l'=_;rw[e];simp⟩
 ·obtain⟨l,e⟩:=h.pf;obtain⟨l',e'⟩:=k.pf
  exact⟨l ++ ([(i:Int)] ++ l'),by rw[e'];show T.frm ++ [(i:Int)] ++ l'=_;rw[e];simp⟩
 ·by_cases c:m<T.nodes.length
  ·obtain⟨p,e1,e2,e3,e4⟩:=h.nw m hm1 c
   exact⟨p,by rw[f1 c];exact e1,e2,e3,by rw[n1 c,n1 (by omega)];exact e4⟩
  ·by_cases c2:m=T.nodes.length
   ·subst c2
    refine⟨i,f2,by omega,.inl rfl,?_⟩;rw[n2,hx',n1 (by omega),h.old hi];exact hx
   ·obtain⟨p,e1,e2,e3,e4⟩:=k.nw m (by omega) hm2
    exact⟨p,e1,e2,.inr (by omega),e4⟩
 ·by_cases c:m<T.nodes.length
  ·rw[if_pos c];have:=h.hi1 m hm1 c;omega
  ·rw[if_neg c]
   by_cases c2:m=T.nodes.length
   ·rw[if_pos c2];omega
   ·rw[if_neg c2];exact k.hi1 m (by omega) hm2
 ·by_cases c:a<T.nodes.length
  ·rw[if_pos c]at hm2
   have:=(h.hi1 a ha1 c).2;rw[f1 (by omega)];exact h.ins a m ha1 c hm1 hm2
  ·rw[if_neg c]at hm2
   by_cases c2:a=T.nodes.length
   ·rw[if_pos c2]at hm2
    obtain⟨p,e1,e2,e3,e4⟩:=k.nw m (by omega) hm2;omega
   ·rw[if_neg c2]at hm2
    exact k.ins a m (by omega) ha2 hm1 hm2
 ·by_cases c:a<T.nodes.length
  ·rw[if_pos c]at hm1 ⊢
   have h3:=(h.hi1 a ha1 c).2;by_cases c3:m<T.nodes.length
   ·rw[f1 c3];exact h.out a m ha1 c hm1 c3
   ·by_cases c4:m=T.nodes.length
    ·subst c4;rw[f2];left;omega
    ·obtain⟨p,e1,e2,e3,e4⟩:=k.nw m (by omega) hm2
     right;omega
  ·rw[if_neg c]at hm1 ⊢
   by_cases c2:a=T.nodes.length
   ·rw[if_pos c2]at hm1;omega
   ·rw[if_neg c2]at hm1 ⊢
    exact k.out a m (by omega) ha2 hm1 hm2
 ·by_cases c:a<T.nodes.length
  ·rw[if_pos c]
   rw[n1 c]at hy;obtain⟨j,hj,e⟩:=h.edge a ha1 c y hy hyN;have h3:=(h.hi1 a ha1 c).2;exact⟨j,hj,by rw[n1 (by omega)];exact e⟩
  ·rw[if_neg c]
   by_cases c2:a=T.nodes.length
   ·rw[if_pos c2]
    subst c2;exact hrow y (by rw[<- k.old (by omega)];exact hy) hyN
   ·rw[if_neg c2]
    exact k.edge a (by omega) ha2 y hy hyN
theorem vz_ok(N:Nat)(cl:Int)(su:Nat->List Int):∀ (f:Nat) (S:Ws) (i:Nat),Wf N cl S->i<S.nodes.length->N<S.nodes.length+f ->
  ∃ hi,Vz N cl su S (vz N cl su f S i) i hi/\∀ y∈su (S.nodes.getD i 0),isN N cl y->∃ j,j<(vz N cl su f S i).nodes.length/\(((vz N cl su f S i).nodes.getD j 0:Nat):Int)=y
 | 0,S,i,hS,hi,hf=>by have:=hS.le;omega
 | f+1,S,i,hS,hi,hf=>by
  have fold:∀ (xs:List Int),(∀ x∈xs,x∈su (S.nodes.getD i 0))->∀ (T:Ws) (h1:Nat->Nat),Vz N cl su S T i h1 ->
    ∃ hi,Vz N cl su S (xs.foldl (vzs N cl su f i) T) i hi/\(∃ l,(xs.foldl (vzs N cl su f i) T).nodes=T.nodes ++ l)/\∀ y∈xs,isN N cl y->∃ j,j<(xs.foldl (vzs N cl su f i) T).nodes.length/\(((xs.foldl (vzs N cl su f i) T).nodes.getD j 0:Nat):Int)=y:=by
   intro xs
   induction xs with
   | nil=>intro _ T h1 h;exact⟨h1,h,⟨[],by simp⟩,λ y hy=>by cases hy⟩
   | cons x xs ih =>
    intro hxs T h1 h;rw[List.foldl_cons];have hl:=h.len;by_cases ho:opn N cl T x=true
    ·have hw:=Wf.meet (i:=(i:Int)) h.wf ho
     have hm:(T.meet x.toNat i).nodes.length=T.nodes.length+1:=by simp[Ws.meet]
     obtain⟨h2,k,hrow⟩:=vz_ok N cl su f (T.meet x.toNat i) T.nodes.length hw (by omega) (by omega);have hs:vzs N cl su f i T x=vz N cl su f (T.meet x.toNat i) T.nodes.length:=by unfold vzs;rw[if_pos ho]
     rw[hs];obtain⟨h3,k3,⟨l,el⟩,k4⟩:=ih (λ y hy=>hxs y (List.mem_cons_of_mem _ hy)) _ _ (Vz.more hi h ho (hxs x (List.mem_cons_self ..)) k hrow);obtain⟨l',el'⟩:=k.pn;refine⟨h3,k3,⟨[x.toNat] ++ l' ++ l,by rw[el,el'];simp[Ws.meet]⟩,λ y hy hyN=>?_⟩;rcases List.mem_cons.1 hy with e|hy
     ·have hkl:=k.len
      have hnl:T.nodes.length<(vz N cl su f (T.meet x.toNat i) T.nodes.length).nodes.length:=by omega
      refine⟨T.nodes.length,by rw[el];simp;omega,?_⟩;rw[el,cV _ _ _ hnl,k.old (by omega)];show(((T.nodes ++ [x.toNat]).getD T.nodes.length 0:Nat):Int)=y;rw[eR,e];rw[e]at hyN;unfold isN at hyN;omega
     ·exact k4 y hy hyN
    ·have hs:vzs N cl su f i T x=T:=by unfold vzs;rw[if_neg ho]
     rw[hs];obtain⟨h3,k3,⟨l,el⟩,k4⟩:=ih (λ y hy=>hxs y (List.mem_cons_of_mem _ hy)) T h1 h;refine⟨h3,k3,⟨l,el⟩,λ y hy hyN=>?_⟩;rcases List.mem_cons.1 hy with e|hy
     ·rw[e]at hyN
      have hin:x.toNat∈T.nodes:=by
       by_cases c:x.toNat∈T.nodes
       ·exact c
       ·exfalso;apply ho;unfold opn;exact decide_eq_true ⟨hyN,c⟩
      obtain⟨j,hj,ej⟩:=eF hin;refine⟨j,by rw[el];simp;omega,?_⟩;rw[el,cV _ _ _ hj,ej,e];unfold isN at hyN;omega
     ·exact k4 y hy hyN
  obtain⟨h3,k3,_,k4⟩:=fold (su (S.nodes.getD i 0)) (λ _ h=>h) S (λ _=>0) (Vz.refl i _ hS);rw[vz_succ];exact⟨h3,⟨k3.pn,k3.pf,k3.lf,k3.nd,k3.lt,k3.nw,k3.hi1,k3.ins,k3.out,k3.edge⟩,k4⟩
def gN(su:Nat->List Int)(T:Ws):Dg where
 N:=T.nodes.length
 e:=λ i j=>i<T.nodes.length/\j<T.nodes.length/\((T.nodes.getD j 0:Nat):Int)∈su (T.nodes.getD i 0)
 lt:=λ _ _ h=>h.2.1
def parN(T:Ws)(m:Nat):Nat:=(T.frm.getD m 0).toNat
theorem nodup_getD{l:List Nat}(h:l.Nodup){i j:Nat}(hi:i<l.length)(hj:j<l.length)(e:l.getD i 0=l.getD j 0):i=j:=by
 rw[List.getD_eq_getElem?_getD,List.getD_eq_getElem?_getD,List.getElem?_eq_getElem hi,List.getElem?_eq_getElem hj]at e;have hp:=List.pairwise_iff_getElem.1 h;rcases Nat.lt_trichotomy i j with c|c|c
 ·exact absurd e (hp i j hi hj c)
 ·exact c
 ·exact absurd e.symm (hp j i hj hi c)
def ws0:Ws:={ nodes:=[0],frm:=[-1],left:=[] }
theorem tree_ok{N:Nat}{cl:Int}{su:Nat->List Int}{f:Nat}(h0:isN N cl 0)(hf:N<1+f):∃ hi,Tr (gN su (vz N cl su f ws0 0)) (parN (vz N cl su f ws0 0)) hi:=by
 have hw:Wf N cl ws0:=⟨rfl,by simp[ws0],λ x hx=>by
  have:x=0:=by simpa[ws0]using hx
  rw[this];exact h0⟩
 obtain⟨hi,k,hrow⟩:=vz_ok N cl su f ws0 0 hw (by simp[ws0]) (by simpa[ws0]using hf);generalize vz N cl su f ws0 0=T at *;have hl:1<=T.nodes.length:=k.len;have hs:ws0.nodes.length=1:=rfl;refine⟨λ m=>if m=0 then T.nodes.length else hi m,λ i j h=>h.1,λ m h1 h2=>?_,λ m hm=>?_,λ a m ha h1 h2=>?_,λ a m ha h1 h2=>?_,λ a z hz=>?_⟩
 ·obtain⟨p,e1,e2,e3,e4⟩:=k.nw m (by omega) h2
  have e:parN T m=p:=by unfold parN;omega
  rw[e];exact⟨e2,by have:m<T.nodes.length:=h2;omega,h2,e4⟩
 ·by_cases c:m=0
  ·rw[if_pos c];exact⟨by omega,Nat.le_refl _⟩
  ·rw[if_neg c];exact k.hi1 m (by omega) hm
 ·by_cases c:a=0
  ·omega
  ·rw[if_neg c]at h2
   have:=k.ins a m (by omega) ha h1 h2;unfold parN;omega
 ·by_cases c:a=0
  ·rw[if_pos c]at h1;have:m<T.nodes.length:=h2;omega
  ·rw[if_neg c]at h1 ⊢
   have h3:=k.out a m (by omega) ha h1 h2;have h4:=(k.hi1 a (by omega) ha).1;obtain⟨p,e1,e2,e3,e4⟩:=k.nw m (by omega) h2;unfold parN;omega
 ·obtain⟨z1,z2,z3⟩:=hz
  by_cases c:a=0
  ·rw[if_pos c];exact z2
  ·rw[if_neg c]
   obtain⟨j,hj,e⟩:=k.edge a (by omega) z1 _ z3 (k.lt _ (bV z2));have:=(k.hi1 a (by omega) z1).2;have:j=z:=nodup_getD k.nd (by omega) z2 (by omega);omega
end Dm
end Go.Proofs.YtkfahppdklecdaaGreatDoor.J
namespace Go.Proofs.YtkfahppdklecdaaGreatDoor.J
namespace Dm
theorem vz_len{N:Nat}{cl:Int}{su:Nat->List Int}{f i:Nat}{S:Ws}(hS:Wf N cl S)(hi:i<S.nodes.length)(hf:N<S.nodes.length+f):S.nodes.length<=(vz N cl su f S i).nodes.length/\Wf N cl (vz N cl su f S i):=by
 obtain⟨h,k,_⟩:=vz_ok N cl su f S i hS hi hf;exact⟨k.len,k.wf⟩
theorem ws0_wf{N:Nat}{cl:Int}(h0:isN N cl 0):Wf N cl ws0:=⟨rfl,by simp[ws0],λ x hx=>by
 have:x=0:=by simpa[ws0]using hx
 rw[this];exact h0⟩
theorem vz_mem{N:Nat}{cl:Int}{su:Nat->List Int}{f:Nat}(h0:isN N cl 0)(hf:N<1+f)(b:Nat):b∈(vz N cl su f ws0 0).nodes↔(gD N su).Av (λ x=>(x:Int)=cl) b:=by
 have hw:=ws0_wf h0;obtain⟨hi,k,hrow⟩:=vz_ok N cl su f ws0 0 hw (by simp[ws0]) (by simpa[ws0]using hf);generalize vz N cl su f ws0 0=T at *;have hl:1<=T.nodes.length:=k.len;have hs:ws0.nodes.length=1:=rfl;have hz:T.nodes.getD 0 0=0:=by rw[k.old (by simp[ws0])];rfl
 have hN:0<N:=by unfold isN at h0;omega
 have hav0:(gD N su).Av (λ x=>(x:Int)=cl) 0:=.zero hN (λ c=>by unfold isN at h0;omega);constructor
 ·intro hb
  obtain⟨j,hj,e⟩:=eF hb;subst e;clear hb
  induction j using Nat.strongRecOn with
  | _ j ih =>
   by_cases c:j=0
   ·subst c;rw[hz];exact hav0
   ·obtain⟨p,e1,e2,e3,e4⟩:=k.nw j (by omega) hj
    have h1:=ih p e2 (by omega);have h2:=k.lt _ (bV hj);have h3:=k.lt _ (bV (l:=T.nodes) (i:=p) (by omega));unfold isN at h2 h3;exact .step h1 ⟨by omega,e4,by omega⟩ (λ c=>by omega)
 ·intro hb
  induction hb with
  | zero _ _=>rw[<- hz];exact bV hl
  | @step i j hi' he hj ih =>
   obtain⟨e1,e2,e3⟩:=he;obtain⟨n,hn,e⟩:=eF ih;have hok:isN N cl (j:Int):=⟨by omega,by have:j<N:=e3;omega,hj⟩
   have:∃ j',j'<T.nodes.length/\((T.nodes.getD j' 0:Nat):Int)=(j:Int):=by
    by_cases c:n=0
    ·subst c
     have:ws0.nodes.getD 0 0=i:=by rw[<- e,hz];rfl
     exact hrow j (by rw[this];exact e2) hok
    ·obtain⟨j',h1,h2⟩:=k.edge n (by omega) hn j (by rw[e];exact e2) hok
     exact⟨j',by have:=(k.hi1 n (by omega) hn).2;omega,h2⟩
   obtain⟨j',h1,h2⟩:=this;have:T.nodes.getD j' 0=j:=by omega
   rw[<- this];exact bV h1
theorem av_r{G:Dg}{b:Nat}:G.Av (λ x=>(x:Int) = -1) b↔G.R b :=
 ⟨Dg.Av.mono (λ _ c=>c.elim),Dg.Av.mono (λ x (c:(x:Int) = -1)=>by show False;omega)⟩
structure Nm(N:Nat)(su:Nat->List Int)(T:Ws):Prop where
 nd:T.nodes.Nodup
 lt:∀ x∈T.nodes,x<N
 z:0<N->T.nodes.getD 0 0=0
 z0:0<N->0<T.nodes.length
 is:∀ b,b∈T.nodes↔(gD N su).R b
theorem nm_ok{N:Nat}{su:Nat->List Int}{f:Nat}(hN:0<N)(hf:N<1+f):Nm N su (vz N (-1) su f ws0 0):=by
 have h0:isN N (-1) 0:=⟨by omega,by omega,by omega⟩;have hw:=ws0_wf h0;obtain⟨hi,k,hrow⟩:=vz_ok N (-1) su f ws0 0 hw (by simp[ws0]) (by simpa[ws0]using hf);exact⟨k.nd,λ x hx=>by have:=k.lt x hx;unfold isN at this;omega,λ _=>by rw[k.old (by simp[ws0])];rfl,λ _=>k.len,λ b=>(vz_mem h0 hf b).trans av_r⟩
theorem nm_no{su:Nat->List Int}:Nm 0 su { nodes:=[],frm:=[],left:=[] } :=
 ⟨List.nodup_nil,λ x hx=>(by cases hx),λ h=>(by omega),λ h=>(by omega),λ b=>⟨λ h=>(by cases h),λ h=>(by have:=h.lt;have e:(gD 0 su).N=0:=rfl;omega)⟩⟩
variable {N:Nat} {su:Nat->List Int} {T:Ws}
theorem Nm.num(h:Nm N su T){b:Nat}(hb:(gD N su).R b):∃ n,n<T.nodes.length/\T.nodes.getD n 0=b:=eF ((h.is b).2 hb)
theorem Nm.r(h:Nm N su T){n:Nat}(hn:n<T.nodes.length):(gD N su).R (T.nodes.getD n 0):=(h.is _).1 (bV hn)
theorem Nm.ed(h:Nm N su T){i j:Nat}(hi:i<T.nodes.length)(hj:j<T.nodes.length):(gN su T).e i j↔(gD N su).e (T.nodes.getD i 0) (T.nodes.getD j 0) :=
 ⟨λ k=>⟨h.lt _ (bV hi),k.2.2,h.lt _ (bV hj)⟩,λ k=>⟨hi,hj,k.2.1⟩⟩
theorem Nm.av(h:Nm N su T){S S':Nat->Prop}(hS:∀ n,n<T.nodes.length->(S' n↔S (T.nodes.getD n 0))){n:Nat}(hn:n<T.nodes.length):(gN su T).Av S' n↔(gD N su).Av S (T.nodes.getD n 0):=by
 constructor
 ·intro k
  clear hn
  induction k with
  | zero h0 h1 =>
   have hN:0<N:=by have:=h.lt _ (bV (l:=T.nodes) (i:=0) h0);omega
   have hz:=h.z hN;have:=mt (hS 0 h0).2 h1;rw[hz]at this ⊢;exact .zero hN this
  | @step i j hi he hj ih=>exact .step ih ((h.ed he.1 he.2.1).1 he) (mt (hS j he.2.1).2 hj)
 ·intro k
  generalize hb:T.nodes.getD n 0=b at k
  induction k generalizing n with
  | zero h0 h1 =>
   have hN:0<N:=h0;have hz:=h.z hN;obtain rfl:n=0:=nodup_getD h.nd hn (h.z0 hN) (by rw[hb,hz]);exact .zero hn (mt (hS 0 hn).1 (by rw[hb];exact h1))
  | @step i j hi he hj ih =>
   obtain⟨m,hm,e⟩:=h.num (Dg.Av.mono (λ _ c=>c.elim) hi:(gD N su).R i);refine .step (ih hm e) ((h.ed hm hn).2 (by rw[e,hb];exact he)) (mt (hS n hn).1 (by rw[hb];exact hj))
theorem Nm.rr(h:Nm N su T){n:Nat}(hn:n<T.nodes.length):(gN su T).R n:=(h.av (S:=λ _=>False) (S':=λ _=>False) (λ _ _=>Iff.rfl) hn).2 (h.r hn)
theorem Nm.w(h:Nm N su T){a b:Nat}(ha:a<T.nodes.length)(hb:b<T.nodes.length):(gN su T).W a b↔(gD N su).W (T.nodes.getD a 0) (T.nodes.getD b 0) :=
 h.av (λ n hn=>⟨λ e=>by show _=_;rw[show n=a from e],λ e=>nodup_getD h.nd hn ha e⟩) hb
theorem Nm.d(h:Nm N su T){a b:Nat}(ha:a<T.nodes.length)(hb:b<T.nodes.length):(gN su T).D a b↔(gD N su).D (T.nodes.getD a 0) (T.nodes.getD b 0):=by
 unfold Dg.D;rw[h.w ha hb];constructor
 ·rintro⟨h1,h2,h3⟩
  exact⟨h.r ha,h.r hb,h3.imp (λ e=>by rw[e]) id⟩
 ·rintro⟨h1,h2,h3⟩
  exact⟨h.rr ha,h.rr hb,h3.imp (λ e=>nodup_getD h.nd ha hb e) id⟩
def nodeOf(T:Ws)(v:Int):Int:=if v = -1 then -1 else ((T.nodes.getD v.toNat 0:Nat):Int)
theorem Nm.up(h:Nm N su T){b:Nat}{v:Int}(hb:b<T.nodes.length)(k:(gN su T).Up b v):(gD N su).Up (T.nodes.getD b 0) (nodeOf T v):=by
 unfold nodeOf;rcases k with ⟨rfl,k⟩|⟨a,rfl,k⟩
 ·rw[if_pos rfl]
  refine .inl ⟨rfl,λ x hx hd=>?_⟩;obtain⟨n,hn,rfl⟩:=h.num hd.1;exact k n (λ e=>hx (by rw[e])) ((h.d hn hb).2 hd)
 ·rw[if_neg (by omega),Int.toNat_natCast]
  have ha:a<T.nodes.length:=k.d.1.lt;refine .inr ⟨_,rfl,λ e=>k.ne (nodup_getD h.nd ha hb e),(h.d ha hb).1 k.d,λ x hx hd=>?_⟩;obtain⟨n,hn,rfl⟩:=h.num hd.1;exact(h.d hn ha).1 (k.top n (λ e=>hx (by rw[e])) ((h.d hn hb).2 hd))
end Dm
end Go.Proofs.YtkfahppdklecdaaGreatDoor.J
