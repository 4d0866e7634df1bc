import Derived.Test.YtkfahppdklecdaaGreatDoorZ13
set_option maxRecDepth 100000
set_option maxHeartbeats 16000000
namespace Go.Proofs.YtkfahppdklecdaaGreatDoor.J
namespace Dm
structure Ups(G:Dg)(up:List Int):Prop where
 ln:up.length=G.N
 is:∀ n,n<G.N->G.Up n (up.getD n 0)
 lt:∀ n,n<G.N->up.getD n 0<(n:Int)
structure Il(g:List (List Int))(T:Ws)(k:Nat)(l:List Int):Prop where
 ln:l.length=g.length
 is:∀ b,b<g.length->l.getD b 0=if ∃ n,n<k/\n<T.nodes.length/\T.nodes.getD n 0=b then upv (gL g) b else -1
theorem Il.start(g:List (List Int))(T:Ws):Il g T 0 (List.replicate g.length (-1)) :=
 ⟨by simp,λ b hb=>by rw[rep_getI _ _ _ hb,if_neg (by rintro⟨n,h,_⟩;omega)]⟩
theorem Il.skip{g:List (List Int)}{T:Ws}(hT:Nm g.length (λ i=>g.getD i []) T){up:List Int}(hu:Ups (gN (λ i=>g.getD i []) T) up){k:Nat}{l:List Int}(h:Il g T k l)(hk:k<T.nodes.length)(e:up.getD k 0 = -1):Il g T (k+1) l:=by
 have hU:=hT.up hk (hu.is k hk);rw[e]at hU;have hv:upv (gL g) (T.nodes.getD k 0) = -1:=(upv_is hU).symm;refine⟨h.ln,λ b hb=>?_⟩;rw[h.is b hb];by_cases c:∃ n,n<k/\n<T.nodes.length/\T.nodes.getD n 0=b
 ·obtain⟨n,h1,h2,h3⟩:=c
  rw[if_pos ⟨n,h1,h2,h3⟩,if_pos ⟨n,by omega,h2,h3⟩]
 ·rw[if_neg c]
  by_cases c2:∃ n,n<k+1/\n<T.nodes.length/\T.nodes.getD n 0=b
  ·rw[if_pos c2]
   obtain⟨n,h1,h2,h3⟩:=c2
   have:n=k:=by
    by_cases c3:n<k
    ·exact absurd ⟨n,c3,h2,h3⟩ c
    ·omega
   subst this;rw[<- h3,hv]
  ·rw[if_neg c2]
theorem Il.put{g:List (List Int)}{T:Ws}(hT:Nm g.length (λ i=>g.getD i []) T){up:List Int}(hu:Ups (gN (λ i=>g.getD i []) T) up){k:Nat}{l:List Int}(h:Il g T k l)(hk:k<T.nodes.length)(e:up.getD k 0≠-1) :
  ∃ u:Nat,up.getD k 0=(u:Int)/\u<T.nodes.length/\Il g T (k+1) (l.set (T.nodes.getD k 0) ((T.nodes.getD u 0:Nat):Int)):=by
 have hU:=hT.up hk (hu.is k hk);obtain⟨u,e2,hI⟩:=(hu.is k hk).resolve_left (λ c=>e c.1);have huN:u<T.nodes.length:=hI.d.1.lt;rw[e2]at hU;have e3:nodeOf T (u:Int)=((T.nodes.getD u 0:Nat):Int):=by unfold nodeOf;rw[if_neg (by omega),Int.toNat_natCast]
 rw[e3]at hU;have hv:=upv_is hU;refine⟨u,e2,huN,by simp[h.ln],λ b hb=>?_⟩;have hbl:T.nodes.getD k 0<l.length:=by rw[h.ln];exact hT.lt _ (bV hk)
 rw[bA];by_cases c:b=T.nodes.getD k 0
 ·rw[if_pos ⟨c,hbl⟩,if_pos ⟨k,by omega,hk,c.symm⟩,c]
  exact hv
 ·rw[if_neg (λ d=>c d.1),h.is b hb]
  by_cases c2:∃ n,n<k/\n<T.nodes.length/\T.nodes.getD n 0=b
  ·obtain⟨n,h1,h2,h3⟩:=c2
   rw[if_pos ⟨n,h1,h2,h3⟩,if_pos ⟨n,by omega,h2,h3⟩]
  ·rw[if_neg c2,if_neg]
   rintro⟨n,h1,h2,h3⟩;by_cases c3:n=k
   ·subst c3;exact c h3.symm
   ·exact c2 ⟨n,by omega,h2,h3⟩
theorem ext_getI{l m:List Int}(hl:l.length=m.length)(h:∀ i,i<l.length->l.getD i 0=m.getD i 0):l=m:=by
 apply List.ext_getElem hl;intro i h1 h2;have:=h i h1;rw[List.getD_eq_getElem?_getD,List.getD_eq_getElem?_getD,List.getElem?_eq_getElem h1,List.getElem?_eq_getElem h2]at this;exact this
theorem Il.done{g:List (List Int)}{T:Ws}(hT:Nm g.length (λ i=>g.getD i []) T){l:List Int}(h:Il g T T.nodes.length l):l=idomL g:=by
 refine ext_getI (by rw[h.ln,idomL_len]) λ b hb=>?_
 rw[h.ln]at hb;rw[h.is b hb,idomL_at hb];split
 ·rfl
 ·rename_i c
  refine(upv_no λ hr=>c ?_).symm;obtain⟨n,hn,e⟩:=hT.num hr;exact⟨n,hn,hn,e⟩
/-! Frontier -/
open Classical in
noncomputable def frK(g:List (List Int))(k a:Nat):List Int:=((List.range k).filter λ b=>decide ((gL g).F a b)).map Int.ofNat
theorem frK_all(g:List (List Int))(a:Nat):frK g g.length a=frontR g a:=rfl
open Classical in
theorem frK_succ(g:List (List Int))(k a:Nat):frK g (k+1) a=frK g k a ++ if (gL g).F a k then [(k:Int)]else []:=by
 unfold frK;rw[List.range_succ,List.filter_append,List.map_append];by_cases c:(gL g).F a k
 ·rw[if_pos c,List.filter_cons_of_pos (by simpa using c)];rfl
 ·rw[if_neg c,List.filter_cons_of_neg (by simpa using c)];rfl
structure Fr0(g:List (List Int))(T:Ws)(k:Nat)(rows:List (List Int))(last:List Int):Prop where
 rl:rows.length=g.length
 ll:last.length=T.nodes.length
 is:∀ a,a<g.length->rows.getD a []=frK g k a
 lt:∀ n,n<T.nodes.length->last.getD n 0<(k:Int)
theorem Fr0.start(g:List (List Int))(T:Ws):Fr0 g T 0 (List.replicate g.length []) (List.replicate T.nodes.length (-1)) :=
 ⟨by simp,by simp,λ a ha=>by
  rw[List.getD_eq_getElem?_getD,List.getElem?_replicate,if_pos ha];rfl,λ n hn=>by rw[rep_getI _ _ _ hn];omega⟩
theorem Fr0.skip{g:List (List Int)}{T:Ws}{k:Nat}{rows:List (List Int)}{last:List Int}(h:Fr0 g T k rows last)(hk:¬ (gL g).R k):Fr0 g T (k+1) rows last:=by
 refine⟨h.rl,h.ll,λ a ha=>?_,λ n hn=>by have:=h.lt n hn;omega⟩;rw[frK_succ,if_neg (λ c:(gL g).F a k=>hk c.2.1),List.append_nil];exact h.is a ha
structure Fr1(g:List (List Int))(T:Ws)(up:List Int)(x i:Nat)(done:List Int)(c:Int)(rows:List (List Int))(last:List Int):Prop where
 rl:rows.length=g.length
 ll:last.length=T.nodes.length
 is:∀ n,n<T.nodes.length->rows.getD (T.nodes.getD n 0) []=frK g x (T.nodes.getD n 0) ++ if last.getD n 0=(x:Int)then [(x:Int)]else []
 no:∀ a,a<g.length->¬ (gL g).R a->rows.getD a []=[]
 lt:∀ n,n<T.nodes.length->last.getD n 0<=(x:Int)
 ok:∀ n,n<T.nodes.length->last.getD n 0=(x:Int)->(∃ q,(gN (λ i=>g.getD i []) T).e q i/\(gN (λ i=>g.getD i []) T).D n q)/\∀ u:Nat,up.getD i 0=(u:Int)->¬ (gN (λ i=>g.getD i []) T).D n u
 cl:∀ n,n<T.nodes.length->last.getD n 0=(x:Int)->up.getD n 0=up.getD i 0∨up.getD n 0=c∨∃ m:Nat,up.getD n 0=(m:Int)/\m<T.nodes.length/\last.getD m 0=(x:Int)
 dn:∀ q:Nat,(q:Int)∈done->(q:Int)=up.getD i 0∨(q:Int)=c∨last.getD q 0=(x:Int)
theorem Fr1.start{g:List (List Int)}{T:Ws}{up:List Int}{x i:Nat}{rows:List (List Int)}{last:List Int}(hT:Nm g.length (λ i=>g.getD i []) T)(h:Fr0 g T x rows last):Fr1 g T up x i [] (up.getD i 0) rows last:=by
 have hne:∀ n,n<T.nodes.length->¬ last.getD n 0=(x:Int):=λ n hn c=>by have:=h.lt n hn;omega
 refine⟨h.rl,h.ll,λ n hn=>?_,λ a ha hr=>?_,λ n hn=>by have:=h.lt n hn;omega,λ n hn c=>absurd c (hne n hn),λ n hn c=>absurd c (hne n hn),λ q hq=>by cases hq⟩
 ·rw[if_neg (hne n hn),List.append_nil];exact h.is _ (hT.lt _ (bV hn))
 ·rw[h.is a ha]
  unfold frK
  rw[List.filter_eq_nil_iff.2 (λ b _=>by
   have:¬ (gL g).F a b:=λ c=>hr c.1
   simpa using this)]
  rfl
theorem Fr1.next{g:List (List Int)}{T:Ws}{up:List Int}{x i:Nat}{done:List Int}{c:Int}{rows:List (List Int)}{last:List Int}(h:Fr1 g T up x i done c rows last)(hc:c=up.getD i 0∨∃ m:Nat,c=(m:Int)/\m<T.nodes.length/\last.getD m 0=(x:Int))(p:Int):Fr1 g T up x i (done ++ [p]) p rows last:=by
 refine⟨h.rl,h.ll,h.is,h.no,h.lt,h.ok,λ n hn e=>?_,λ q hq=>?_⟩
 ·rcases h.cl n hn e with k|k|k
  ·exact .inl k
  ·rcases hc with hc|⟨m,h1,h2,h3⟩
   ·exact .inl (k.trans hc)
   ·exact .inr (.inr ⟨m,k.trans h1,h2,h3⟩)
  ·exact .inr (.inr k)
 ·rcases List.mem_append.1 hq with hq|hq
  ·rcases h.dn q hq with k|k|k
   ·exact .inl k
   ·rcases hc with hc|⟨m,h1,h2,h3⟩
    ·exact .inl (k.trans hc)
    ·have:q=m:=by omega
     exact .inr (.inr (by rw[this];exact h3))
   ·exact .inr (.inr k)
  ·exact .inr (.inl (List.mem_singleton.1 hq))
def Cur(g:List (List Int))(T:Ws)(up:List Int)(i:Nat)(c:Int):Prop :=
 c=up.getD i 0∨∃ m:Nat,c=(m:Int)/\m<T.nodes.length/\(∃ q,(gN (λ i=>g.getD i []) T).e q i/\(gN (λ i=>g.getD i []) T).D m q)/\(∀ u:Nat,up.getD i 0=(u:Int)->(gN (λ i=>g.getD i []) T).D u m)
theorem Cur.start{g:List (List Int)}{T:Ws}{up:List Int}{i p:Nat}(hT:Nm g.length (λ i=>g.getD i []) T)(hu:Ups (gN (λ i=>g.getD i []) T) up)(he:(gN (λ i=>g.getD i []) T).e p i):Cur g T up i (p:Int):=by
 have hp:=hT.rr he.1;refine .inr ⟨p,rfl,he.1,⟨p,he,Dg.D.self hp⟩,λ u e=>?_⟩;obtain⟨u',e',hI⟩:=(hu.is i he.2.1).resolve_left (λ c=>by have:=c.1;omega);obtain rfl:u=u':=by omega
 exact Dg.D.before hp he hI.d hI.ne
theorem Fr1.step{g:List (List Int)}{T:Ws}{up:List Int}{x i:Nat}{done:List Int}{c:Int}{rows:List (List Int)}{last:List Int}(hT:Nm g.length (λ i=>g.getD i []) T)(hu:Ups (gN (λ i=>g.getD i []) T) up)(h:Fr1 g T up x i done c rows last)(hc:Cur g T up i c)(h1:c≠up.getD i 0) :
  ∃ m:Nat,c=(m:Int)/\m<T.nodes.length/\T.nodes.getD m 0<g.length/\(last.getD m 0≠(x:Int)->Cur g T up i (up.getD m 0)/\up.getD m 0<(m:Int)/\-1<=up.getD m 0 /\
   Fr1 g T up x i done (up.getD m 0) (rows.set (T.nodes.getD m 0) (rows.getD (T.nodes.getD m 0) [] ++ [(x:Int)])) (last.set m (x:Int))):=by
 obtain⟨m,rfl,hm,hq,hd⟩:=hc.resolve_left h1;have hmg:=hT.lt _ (bV hm);refine⟨m,rfl,hm,hmg,λ h2=>?_⟩;have hU:=hu.is m hm
 have hcur:Cur g T up i (up.getD m 0):=by
  rcases hU with ⟨e,hno⟩|⟨a,e,hI⟩
  ·left
   rw[e];rcases Classical.em (∃ u:Nat,up.getD i 0=(u:Int))with ⟨u,eu⟩|hn
   ·exact absurd (hd u eu) (hno u (λ k=>h1 (by rw[eu,k])))
   ·by_cases hi:i<T.nodes.length
    ·rcases hu.is i hi with ⟨k,_⟩|⟨a,k,_⟩
     ·exact k.symm
     ·exact absurd ⟨a,k⟩ hn
    ·obtain⟨q,hqe,_⟩:=hq
     exact absurd hqe.2.1 hi
  ·by_cases c:up.getD m 0=up.getD i 0
   ·exact .inl c
   ·right
    obtain⟨q,hqe,hqd⟩:=hq;refine⟨a,e,hI.d.1.lt,⟨q,hqe,hI.d.trans hqd⟩,λ u eu=>hI.top u (λ k=>h1 (by rw[eu,k])) (hd u eu)⟩
 have hml:m<last.length:=by rw[h.ll];exact hm
 have hrl:T.nodes.getD m 0<rows.length:=by rw[h.rl];exact hmg
 have hlast:∀ n,(last.set m (x:Int)).getD n 0=if n=m then (x:Int)else last.getD n 0:=λ n=>by
  rw[bA];by_cases e:n=m
  ·rw[if_pos ⟨e,hml⟩,if_pos e]
  ·rw[if_neg (λ k=>e k.1),if_neg e]
 refine⟨hcur,?_,?_,by simp[h.rl],by simp[h.ll],λ n hn=>?_,λ a ha hr=>?_,λ n hn=>?_,λ n hn e=>?_,λ n hn e=>?_,λ q hq=>?_⟩
 ·exact hu.lt m hm
 ·have:=hU.range;omega
 ·rw[eQ,hlast]
  by_cases e:n=m
  ·subst e
   rw[if_pos ⟨rfl,hrl⟩,if_pos rfl,h.is n hn,if_neg h2,if_pos rfl,List.append_nil]
  ·rw[if_neg (λ k=>e (nodup_getD hT.nd hn hm k.1)),if_neg e];exact h.is n hn
 ·rw[eQ,if_neg (λ k=>hr (by rw[k.1];exact hT.r hm))];exact h.no a ha hr
 ·rw[hlast];split
  ·omega
  ·exact h.lt n hn
 ·rw[hlast]at e
  by_cases k:n=m
  ·subst k
   refine⟨hq,λ u eu hdu=>?_⟩;have:=(hd u eu).anti hdu;exact h1 (by rw[eu,this])
  ·rw[if_neg k]at e;exact h.ok n hn e
 ·rw[hlast]at e
  have key:∀ j:Nat,last.getD j 0=(x:Int)->(last.set m (x:Int)).getD j 0=(x:Int):=λ j ej=>by
   rw[hlast];split
   ·rfl
   ·exact ej
  by_cases k:n=m
  ·subst k;exact .inr (.inl rfl)
  ·rw[if_neg k]at e
   rcases h.cl n hn e with k|k|⟨j,k1,k2,k3⟩
   ·exact .inl k
   ·exact .inr (.inr ⟨m,k,hm,by rw[hlast,if_pos rfl]⟩)
   ·exact .inr (.inr ⟨j,k1,k2,key j k3⟩)
 ·rcases h.dn q hq with k|k|k
  ·exact .inl k
  ·have:q=m:=by omega
   exact .inr (.inr (by rw[hlast,if_pos this]))
  ·exact .inr (.inr (by
    rw[hlast];split
    ·rfl
    ·exact k))
theorem Fr1.fin{g:List (List Int)}{T:Ws}{up:List Int}{x i:Nat}{done:List Int}{c:Int}{rows:List (List Int)}{last:List Int}(hT:Nm g.length (λ i=>g.getD i []) T)(hu:Ups (gN (λ i=>g.getD i []) T) up)(h:Fr1 g T up x i done c rows last)
  (hc:c=up.getD i 0∨∃ m:Nat,c=(m:Int)/\m<T.nodes.length/\last.getD m 0=(x:Int)) (hi:i<T.nodes.length) (hx:T.nodes.getD i 0=x) (hall:∀ p,(gN (λ i=>g.getD i []) T).e p i->(p:Int)∈done):Fr0 g T (x+1) rows last:=by
 have hgl:∀ {a b:Nat},(gL g).D a b↔(gD g.length (λ i=>g.getD i [])).D a b:=Iff.rfl
 have mark:∀ z,z<T.nodes.length->last.getD z 0=(x:Int)->∀ y,(gN (λ i=>g.getD i []) T).D y z->(∀ u:Nat,up.getD i 0=(u:Int)->¬ (gN (λ i=>g.getD i []) T).D y u)->last.getD y 0=(x:Int):=by
  intro z
  induction z using Nat.strongRecOn with
  | _ z ih =>
   intro hz hl y hd hn;by_cases e:y=z
   ·rw[e];exact hl
   ·rcases hu.is z hz with ⟨_,k⟩|⟨a,ea,hI⟩
    ·exact absurd hd (k y e)
    ·have hda:=hI.top y e hd
     have haz:a<z:=by have:=hu.lt z hz;omega
     have haN:a<T.nodes.length:=hI.d.1.lt
     have hla:up.getD z 0=up.getD i 0∨last.getD a 0=(x:Int):=by
      rcases h.cl z hz hl with k|k|⟨m,k1,k2,k3⟩
      ·exact .inl k
      ·rcases hc with hc|⟨m,c1,c2,c3⟩
       ·exact .inl (k.trans hc)
       ·have:a=m:=by omega
        exact .inr (by rw[this];exact c3)
      ·have:a=m:=by omega
       exact .inr (by rw[this];exact k3)
     rcases hla with k|k
     ·exact absurd hda (hn a (by omega))
     ·exact ih a haz haN k y hda hn
 have key:∀ n,n<T.nodes.length->(last.getD n 0=(x:Int)↔(gL g).F (T.nodes.getD n 0) x):=by
  intro n hn;constructor
  ·intro hl
   obtain⟨⟨q,hq1,hq2⟩,hno⟩:=h.ok n hn hl;refine⟨hT.r hn,by rw[<- hx];exact hT.r hi,⟨T.nodes.getD q 0,(hT.d hn hq1.1).1 hq2,by rw[<- hx];exact(hT.ed hq1.1 hi).1 hq1⟩,?_⟩;by_cases e:T.nodes.getD n 0=x
   ·exact .inl e
   ·right
    intro hd;rw[<- hx]at hd;have hd':=(hT.d hn hi).2 hd;rcases hu.is i hi with ⟨_,k⟩|⟨a,ea,hI⟩
    ·exact k n (λ c=>e (by rw[c];exact hx)) hd'
    ·exact hno a ea (hI.top n (λ c=>e (by rw[c];exact hx)) hd')
  ·rintro⟨_,_,⟨p,hp1,hp2⟩,hnd⟩
   obtain⟨q,hq,rfl⟩:=hT.num hp1.2.1;rw[<- hx]at hp2;have hqe:=(hT.ed hq hi).2 hp2;have hqd:=(hT.d hn hq).2 hp1
   have hno:∀ u:Nat,up.getD i 0=(u:Int)->¬ (gN (λ i=>g.getD i []) T).D n u:=λ u eu hdu=>by
    obtain⟨a,ea,hI⟩:=(hu.is i hi).resolve_left (λ c=>by have:=c.1;omega);obtain rfl:u=a:=by omega
    have hdi:=hdu.trans hI.d;rcases hnd with e|e
    ·have:n=i:=nodup_getD hT.nd hn hi (by rw[e,hx])
     subst this;exact hI.ne (hI.d.anti hdu)
    ·exact e (by rw[<- hx];exact(hT.d hn hi).1 hdi)
   rcases h.dn q (hall q hqe)with k|k|k
   ·exact absurd hqd (hno q k.symm)
   ·rcases hc with hc|⟨m,c1,c2,c3⟩
    ·exact absurd hqd (hno q (by rw[<- hc];exact k.symm))
    ·have:q=m:=by omega
     exact mark q hq (by rw[this];exact c3) n hqd hno
   ·exact mark q hq k n hqd hno
 refine⟨h.rl,h.ll,λ a ha=>?_,λ n hn=>by have:=h.lt n hn;omega⟩;rw[frK_succ];by_cases hr:(gL g).R a
 ·obtain⟨n,hn,rfl⟩:=hT.num hr
  rw[h.is n hn];by_cases c:last.getD n 0=(x:Int)
  ·rw[if_pos c,if_pos ((key n hn).1 c)]
  ·rw[if_neg c,if_neg (λ k=>c ((key n hn).2 k))]
 ·rw[h.no a ha hr,if_neg (λ c:(gL g).F a x=>hr c.1),List.append_nil]
  unfold frK
  rw[List.filter_eq_nil_iff.2 (λ b _=>by
   have:¬ (gL g).F a b:=λ c=>hr c.1
   simpa using this)]
  rfl
theorem Fr0.done{g:List (List Int)}{T:Ws}{rows:List (List Int)}{last:List Int}(h:Fr0 g T g.length rows last):rows=frontL g:=by
 apply List.ext_getElem
 ·rw[h.rl];simp[frontL]
 ·intro a h1 h2
  rw[h.rl]at h1;have:=h.is a h1;rw[frK_all]at this;have e2:(frontL g).getD a []=frontR g a:=dN _ _ _ _ h1;rw[<- e2,List.getD_eq_getElem?_getD,List.getD_eq_getElem?_getD,List.getElem?_eq_getElem (by rw[h.rl];exact h1),List.getElem?_eq_getElem h2]at this;exact this
end Dm
end Go.Proofs.YtkfahppdklecdaaGreatDoor.J
