import Derived.Sort.QuietIn
import Derived.Test.YtkfahppdklecdaaGreatDoorZ18
import Derived.Test.YtkfahppdklecdaaGreatDoorZ16
import Derived.BigRegionIn
set_option maxRecDepth 100000
set_option maxHeartbeats 16000000
namespace Go.Proofs.YtkfahppdklecdaaGreatDoor.J
open Go.RowKit
section
variable {F:Fence} {n:Nat} {P:Program} {ops:Array Oper} {C:World->Prop}
def noDef(o:Oper):Bool:=match o.op with|.defer _=>false|_=>true
theorem noDef_out{o:Oper}(h:noDef o=true):∀ c,o.op≠.defer c:=λ c e=>by unfold noDef at h;rw[e]at h;cases h
theorem wpIn_quiet_r{o:Oper}{a:Act}{K:Act->Prop}{K':Act->World->Prop}{Q':Exit->Act->World->Prop}{w:World}(hd:noDef o=true)(hw:C w)(h:∀ a w',C w'->K a->K' a w')
  (ha:o.askedIn F P a C) (hh:o.quietIn F n P a C K):o.wpIn F n P a w K' Q':=by
 obtain⟨v,h1,h2⟩:=hh;have h3:=h1 w hw;unfold Oper.quietAtIn at h3;unfold Oper.wpIn;refine⟨ha w hw,?_⟩;rw[Oper.semAt_eq F.round a.eval o (noDef_out hd)];generalize (execOp a.eval o).run P w=r at *;cases r with
 | ok x w' =>
  cases x <;> simp only[Oper.quietUponIn]at h3 <;> simp only[Oper.uponIn]
  case value u =>
   obtain⟨e1,e2⟩:=h3;rw[e1,e2];exact h _ _ hw h2
  case skip =>
   obtain⟨e1,e2⟩:=h3;rw[e1,<- e2];exact h _ _ hw h2
  case enter f args =>
   obtain⟨e1,hd,hc⟩:=h3;rw[e1];exact⟨hd,hc.mono λ e w'' ⟨he,hw''⟩=>by subst he;exact h _ _ hw'' h2⟩
 | halt x w'=>simp only[Oper.quietUponIn]at h3
theorem wpOpIn_quiet_r{ops':Array Oper}{i:Nat}{a:Act}{K:Act->Prop}{K':Act->World->Prop}{Q':Exit->Act->World->Prop}{w:World}{o:Oper}(hi:ops[i]?=some o)(hi':ops'[i]?=some o)(hg:o.guard=none)(hd:noDef o=true)(hC:C w)(h:∀ a w',C w'->K a->K' a w')
  (hh:qOpIn F n P ops C i K a):wpOpIn F n P ops' Q' i K' a w:=by
 unfold qOpIn at hh;unfold wpOpIn;simp only[hi,hi',Region.wanted,hg,if_true]at hh ⊢;exact wpIn_quiet_r hd hC h hh.1 hh.2
theorem wpQuietIn_ops{ops':Array Oper}{Q:Act->Prop}:∀ (l:List Oper) (a:Act),(∀ o∈l,o.guard=none)->wpQuietIn F n P ops C Q l a->wpQuietIn F n P ops' C Q l a
 | [],_,_,h=>h
 | o :: rest,a,hg,h=>by
  have g:=hg o (List.mem_cons_self ..);simp only[wpQuietIn,Region.wanted,g,if_true]at h ⊢;exact⟨h.1,Oper.quietIn_mono (λ a h=>wpQuietIn_ops rest a (λ o ho=>hg o (List.mem_cons_of_mem _ ho)) h) h.2⟩
theorem region_quiet_r{id:Nat}{Q:Exit->Act->World->Prop}{a:Act}{w:World}{l:List Oper}(hm:P.follows .mixedOrders=true)(hB:Region.lexB .any l.toArray=true)(hg:l.all (λ o=>o.guard.isNone)=true)(hd:l.all noDef=true)
  (h:wpQuietIn F n P l.toArray (λ w'=>∃ n,w'=w.drewN n) (λ a'=>∀ w',(∃ n,w'=w.drewN n)->Q .normal a' w') l a):(Code.region id l.toArray true).wpIn F n P Q a w:=by
 simp only[Region.lexB,Bool.and_eq_true]at hB
 have key:∀ (fuel:Nat) (listed:Array Bool) (a:Act) (w':World),(∃ n,w'=w.drewN n)->wpAnyQIn F n P .any l.toArray (λ w'=>∃ n,w'=w.drewN n) (λ a'=>∀ w',(∃ n,w'=w.drewN n)->Q .normal a' w') fuel listed a->wpAnyIn F n P .any l.toArray Q fuel listed a w':=by
  intro fuel
  induction fuel with
  | zero=>intro listed a w' hw h;exact⟨h.1,h.2 _ hw⟩
  | succ k ih =>
   intro listed a w' hw h;refine⟨λ h0=>h.1 h0 _ hw,λ i hi=>?_⟩;obtain⟨_,o,ho,_⟩:=mem_ready.1 hi;have hm:o∈l:=List.mem_of_getElem? (by simpa using ho);exact wpOpIn_quiet_r ho ho (by simpa using List.all_eq_true.1 hg o hm) (List.all_eq_true.1 hd o hm) hw (λ a w2 hw2 hh=>ih _ a w2 hw2 hh) (h.2 i hi)
 refine wpIn_region_any hm (key _ _ _ _ ⟨1,rfl⟩ ?_);have:=wpAnyQIn_lex (F:=F) (n:=n) (P:=P) (C:=λ w'=>∃ n,w'=w.drewN n) (Q:=λ a'=>∀ w',(∃ n,w'=w.drewN n)->Q .normal a' w') (md:=.any) hB.1 l 0 (Array.replicate l.length false) a (by simp) (by simpa using hB.2) h;simpa using this
def lastOk(l:List Oper)(N:Nat):Bool :=
 (List.range N).all (λ j=>((l[N]?).map (λ o=>o.after.any (λ e=>Region.binds .any e && e.on == j))).getD false)
def lowOk(l:List Oper)(N:Nat):Bool:=(List.range N).all (λ i=>((l[i]?).map (λ o=>o.after.all (λ e=>decide (e.on<i)))).getD true)
theorem fK{id N:Nat}{Q:Exit->Act->World->Prop}{a:Act}{w:World}{l:List Oper}{z:Oper}(hm:P.follows .mixedOrders=true)(hz:l[N]?=some z)(hN:l.length=N+1)(hB:Region.lexB .any (l.take N).toArray=true)(hg:l.all (λ o=>o.guard.isNone)=true)(hd:l.all noDef=true)
  (hlow:lowOk l N=true) (hlast:lastOk l N=true) (hzl:z.after.all (λ e=>decide (e.on<N))=true)
  (h:wpQuietIn F n P l.toArray (λ w'=>∃ n,w'=w.drewN n) (λ a'=>∀ w',(∃ n,w'=w.drewN n)->wpListIn F n P l.toArray Q [z] a' w') (l.take N) a):(Code.region id l.toArray true).wpIn F n P Q a w:=by
 have gd:∀ o∈l,o.guard=none:=λ o ho=>by simpa using List.all_eq_true.1 hg o ho
 have low:∀ i o,l[i]?=some o->∀ e∈o.after,i<=N->e.on<i:=λ i o ho e he hi=>by
  rcases Nat.lt_or_ge i N with c|c
  ·have:=List.all_eq_true.1 hlow i (List.mem_range.2 c)
   rw[ho]at this;simp only[Option.map_some,Option.getD_some,Array.all_eq_true']at this;simpa using this e he
  ·obtain rfl:i=N:=by omega
   rw[hz]at ho;injection ho with ho
   subst ho;simp only[Array.all_eq_true']at hzl;simpa using hzl e he
 have cov:∀ j,j<N->∃ e∈z.after,Region.binds .any e=true/\e.on=j:=λ j hj=>by
  have:=List.all_eq_true.1 hlast j (List.mem_range.2 hj);rw[hz]at this;simp only[Option.map_some,Option.getD_some,Array.any_eq_true',Bool.and_eq_true,beq_iff_eq]at this;exact this
 simp only[Region.lexB,Bool.and_eq_true]at hB
 have key:∀ (fuel:Nat) (l1 l2:Array Bool) (a:Act) (w':World),l1.size=N->l2.size=N+1->(∀ i,i<N->l2.getD i true=l1.getD i true)->l2.getD N true=false->(∃ n,w'=w.drewN n) ->
   wpAnyQIn F n P .any (l.take N).toArray (λ w'=>∃ n,w'=w.drewN n) (λ a'=>∀ w',(∃ n,w'=w.drewN n)->wpListIn F n P l.toArray Q [z] a' w') fuel l1 a->wpAnyIn F n P .any l.toArray Q (fuel+1) l2 a w':=by
  have fin:∀ (fuel:Nat) (l2:Array Bool) (a:Act) (w':World),l2.size=N+1->(∀ i,i<N->l2.getD i true=true)->(∃ n,w'=w.drewN n)->(∀ w',(∃ n,w'=w.drewN n)->wpListIn F n P l.toArray Q [z] a w') ->
    wpOpIn F n P l.toArray Q N (wpAnyIn F n P .any l.toArray Q fuel (l2.setIfInBounds N true)) a w':=by
   intro fuel l2 a w' hs hall hw hq;have h1:=hq w' hw;have gz:z.guard=none:=gd z (List.mem_of_getElem? hz);have hz':l.toArray[N]?=some z:=by simpa using hz
   unfold wpOpIn;simp only[hz',wpListIn,Region.wanted,gz,if_true]at h1 ⊢;refine Oper.wpIn_mono (λ a w h=>wpAnyIn_done ?_ h fuel) h1;refine List.eq_nil_iff_forall_not_mem.2 λ i hi=>?_
   have h2:=(mem_ready.1 hi).1;by_cases e:i=N
   ·subst e
    rw[Array.getD_eq_getD_getElem?]at h2;simp[hs]at h2
   ·rw[getD_set_ne true (Ne.symm e)]at h2
    rcases Nat.lt_or_ge i N with c|c
    ·rw[hall i c]at h2;cases h2
    ·rw[Array.getD_eq_getD_getElem?,Array.getElem?_eq_none (by omega)]at h2
     cases h2
  have tr:∀ (b:Array Bool) (i:Nat),b.getD i true=false->i<b.size:=λ b i h=>by
   rcases Nat.lt_or_ge i b.size with c|c
   ·exact c
   ·rw[Array.getD_eq_getD_getElem?,Array.getElem?_eq_none (by omega)]at h
    cases h
  have gf:∀ (b:Array Bool) (i:Nat),i<b.size->b.getD i false=b.getD i true:=λ b i h=>by
   rw[Array.getD_eq_getD_getElem?,Array.getD_eq_getD_getElem?,Array.getElem?_eq_getElem h];rfl
  have nil1:∀ l1:Array Bool,l1.size=N->(∀ i,i<N->l1.getD i true=true)->Region.ready .any (l.take N).toArray l1=[]:=λ l1 hs hall=>by
   refine List.eq_nil_iff_forall_not_mem.2 λ i hi=>?_
   have h2:=(mem_ready.1 hi).1;have:=tr _ _ h2;rw[hall i (by omega)]at h2;cases h2
  have prog:∀ (l2:Array Bool),l2.size=N+1->∀ m,m<=N->l2.getD m true=false->∃ i,i∈Region.ready .any l.toArray l2:=λ l2 hs m=>by
   induction m using Nat.strongRecOn with
   | _ m ih =>
    intro hm2 hl;have hmz:m<l.length:=by omega
    by_cases c:∀ e∈l[m].after,Region.binds .any e=true->l2.getD e.on false=true
    ·exact⟨m,mem_ready.2 ⟨hl,l[m],by simp[hmz],c⟩⟩
    ·simp only[Classical.not_forall]at c
     obtain⟨e,he,_,hb⟩:=c;have lt:=low m l[m] (by simp[hmz]) e he hm2;rw[gf _ _ (by omega)]at hb;exact ih e.on lt (by omega) (by simpa using hb)
  have sub:∀ (l1 l2:Array Bool) (i:Nat),l1.size=N->l2.size=N+1->(∀ i,i<N->l2.getD i true=l1.getD i true)->i<N->i∈Region.ready .any l.toArray l2->i∈Region.ready .any (l.take N).toArray l1:=λ l1 l2 i h1 h2 he hi hr=>by
   obtain⟨a1,o,ho,a2⟩:=mem_ready.1 hr;have ho':l[i]?=some o:=by simpa using ho
   refine mem_ready.2 ⟨by rw[<- he i hi];exact a1,o,?_,λ e hee hb=>?_⟩
   ·rw[List.getElem?_toArray,List.getElem?_take,if_pos hi]
    exact ho'
   ·have lt:=low i o ho' e hee (by omega)
    have:=a2 e hee hb;rw[gf _ _ (by omega)]at this ⊢;rw[<- he _ (by omega)];exact this
  have last:∀ (l1 l2:Array Bool),l2.size=N+1->(∀ i,i<N->l2.getD i true=l1.getD i true)->N∈Region.ready .any l.toArray l2->∀ i,i<N->l2.getD i true=true:=λ l1 l2 h2 he hr i hi=>by
   obtain⟨a1,o,ho,a2⟩:=mem_ready.1 hr;have ho':l[N]?=some o:=by simpa using ho
   rw[hz]at ho';injection ho' with ho'
   subst ho';obtain⟨e,hee,hb,rfl⟩:=cov i hi;have:=a2 e hee hb
   rwa [gf _ _ (by omega)]at this
  intro fuel
  induction fuel with
  | zero =>
   intro l1 l2 a w' h1 h2 he hN2 hw hq;refine⟨λ h0=>?_,λ i hi=>?_⟩
   ·obtain⟨i,hi⟩:=prog l2 h2 N (Nat.le_refl _) hN2
    rw[h0]at hi;cases hi
   ·rcases Nat.lt_or_ge i N with c|c
    ·have:=sub l1 l2 i h1 h2 he c hi
     rw[hq.1]at this;cases this
    ·have:=tr _ _ (mem_ready.1 hi).1
     obtain rfl:i=N:=by omega
     exact fin 0 l2 a w' h2 (last l1 l2 h2 he hi) hw hq.2
  | succ k ih =>
   intro l1 l2 a w' h1 h2 he hN2 hw hq;refine⟨λ h0=>?_,λ i hi=>?_⟩
   ·obtain⟨i,hi⟩:=prog l2 h2 N (Nat.le_refl _) hN2
    rw[h0]at hi;cases hi
   ·rcases Nat.lt_or_ge i N with c|c
    ·have hr:=sub l1 l2 i h1 h2 he c hi
     obtain⟨_,o,ho,_⟩:=mem_ready.1 hi;obtain⟨_,o1,ho1,_⟩:=mem_ready.1 hr;have ho2:l[i]?=some o:=by simpa using ho
     have ho3:(l.take N).toArray[i]?=some o:=by rw[List.getElem?_toArray,List.getElem?_take,if_pos c];exact ho2
     have hmem:o∈l:=List.mem_of_getElem? ho2;refine wpOpIn_quiet_r ho3 ho (gd o hmem) (List.all_eq_true.1 hd o hmem) hw (λ a w2 hw2 hh=>ih (l1.setIfInBounds i true) (l2.setIfInBounds i true) a w2 (by simpa using h1) (by simpa using h2) (λ j hj=>?_) ?_ hw2 hh) (hq.2 i hr)
     ·by_cases e:i=j
      ·subst e
       rw[Array.getD_eq_getD_getElem?,Array.getD_eq_getD_getElem?];simp[h1,h2,c]
      ·rw[getD_set_ne true e,getD_set_ne true e]
       exact he j hj
     ·rw[getD_set_ne true (by omega)]
      exact hN2
    ·have:=tr _ _ (mem_ready.1 hi).1
     obtain rfl:i=N:=by omega
     have hall:=last l1 l2 h2 he hi;exact fin (k+1) l2 a w' h2 hall hw (hq.1 (nil1 l1 h1 (λ j hj=>by rw[<- he j hj];exact hall j hj)))
 refine wpIn_region_any hm ?_;have hlt:(l.take N).length=N:=by simp;omega
 have h2:=wpQuietIn_ops (ops':=(l.take N).toArray) (l.take N) a (λ o ho=>gd o (List.mem_of_mem_take ho)) h;have h3:=wpAnyQIn_lex (md:=.any) hB.1 (l.take N) 0 (Array.replicate N false) a (by simp) (by have:=hB.2;simp only[List.size_toArray,hlt]at this;rw[hlt];exact this) h2;rw[hlt]at h3
 have h4:=key N (Array.replicate N false) (Array.replicate (N+1) false) a { w with drawn:=w.drawn+1 } (by simp) (by simp) (λ i hi=>by
  rw[Array.getD_eq_getD_getElem?,Array.getD_eq_getD_getElem?];simp[hi,Nat.lt_succ_of_lt hi]) (by rw[Array.getD_eq_getD_getElem?];simp) ⟨1,rfl⟩ h3
 have hs:l.toArray.size=N+1:=by simpa using hN
 rw[hs];exact h4
end
end Go.Proofs.YtkfahppdklecdaaGreatDoor.J
namespace Go.Proofs.YtkfahppdklecdaaGreatDoor.J
open Go.RowKit
open Dm
variable {G:Dg} {hi:Nat->Nat}
attribute [local go_sem] Oper.semAt_some
structure Sb(base:Nat)(W:World)(f:Nat)(G:Dg)(hi:Nat->Nat)(s:Nat->Nat)(L:Nat)(up semi least way:List Int)(q:Nat->Option Addr)(c:Nat->Nat):Prop where
 sr:Sr base W f FJ (fr up semi least way) q c
 fo:Fo G hi s L up least
 sl:semi.length=G.N
 sh:∀ k,L<=k->k<G.N->semi.getD k 0=(s k:Int)
 wl:way.length<=1048576
theorem Sb.grown{base f L:Nat}{W W':World}{s:Nat->Nat}{up semi least way:List Int}{q:Nat->Option Addr}{c:Nat->Nat}(h:Sb base W f G hi s L up semi least way q c)(hg:W.grownBy W' none):Sb base W' f G hi s L up semi least way q c :=
 ⟨h.sr.grown hg (by simp) (λ _ _ _ e=>by cases e),h.fo,h.sl,h.sh,h.wl⟩
structure Sc(W:World)(f N:Nat)(up semi least:List Int)(c:Nat->Nat)(g0 g1 g2:Nat):Prop where
 d0:W.cell? ⟨f,0,none⟩=some (.slice (some ⟨g0,0,none⟩) N (c 0))
 d1:W.cell? ⟨f,1,none⟩=some (.slice (some ⟨g1,0,none⟩) N (c 1))
 d2:W.cell? ⟨f,2,none⟩=some (.slice (some ⟨g2,0,none⟩) N (c 2))
 k0:∀ k,k<N->W.cell? ⟨g0,k,none⟩=some (.int .i64 (up.getD k 0))
 k1:∀ k,k<N->W.cell? ⟨g1,k,none⟩=some (.int .i64 (semi.getD k 0))
 k2:∀ k,k<N->W.cell? ⟨g2,k,none⟩=some (.int .i64 (least.getD k 0))
 f0:∀ k,W.frozen? ⟨g0,k,none⟩=false
 f1:∀ k,W.frozen? ⟨g1,k,none⟩=false
 f2:∀ k,W.frozen? ⟨g2,k,none⟩=false
 l0:g0<W.heap.size
 l1:g1<W.heap.size
 l2:g2<W.heap.size
 lf:f<W.heap.size
 n0:g0≠f/\g1≠f/\g2≠f
 n1:g0≠g1/\g0≠g2/\g1≠g2
theorem Sb.cells{base f L:Nat}{W:World}{s:Nat->Nat}{up semi least way:List Int}{q:Nat->Option Addr}{c:Nat->Nat}(h:Sb base W f G hi s L up semi least way q c)(h0:0<G.N) :
  ∃ g0 g1 g2,q 0=some ⟨g0,0,none⟩/\q 1=some ⟨g1,0,none⟩/\q 2=some ⟨g2,0,none⟩/\Sc W f G.N up semi least c g0 g1 g2/\base<=g0/\base<=g1/\base<=g2:=by
 have l0:=h.fo.l1;have l2:=h.fo.l2;obtain⟨g0,q0,b0,s0,n0,f0,k0⟩:=h.sr.row (j:=0) (by decide) (by show 0<up.length;omega);obtain⟨g1,q1,b1',s1,n1,f1,k1⟩:=h.sr.row (j:=1) (by decide) (by show 0<semi.length;rw[h.sl];omega);obtain⟨g2,q2,b2',s2,n2,f2,k2⟩:=h.sr.row (j:=2) (by decide) (by show 0<least.length;omega)
 have ne:∀ {a b ga gb:Nat},a∈FJ->b∈FJ->a≠b->q a=some ⟨ga,0,none⟩->q b=some ⟨gb,0,none⟩->ga≠gb:=λ ha hb hab ea eb e=>by
  rcases h.sr.ap _ ha _ hb hab with d|d
  ·rw[ea]at d;cases d
  ·exact d (by rw[ea,eb,e])
 exact⟨g0,g1,g2,q0,q1,q2,⟨h.sr.clE (j:=0) (by decide) (l:=up) rfl q0 rfl l0,h.sr.clE (j:=1) (by decide) (l:=semi) rfl q1 rfl h.sl,h.sr.clE (j:=2) (by decide) (l:=least) rfl q2 rfl l2,
  λ k hk=>k0 k (by show k<up.length;omega),λ k hk=>k1 k (by show k<semi.length;rw[h.sl];omega),λ k hk=>k2 k (by show k<least.length;omega),f0,f1,f2,s0,s1,s2,h.sr.bl,⟨n0,n1,n2⟩,
  ⟨ne (by decide) (by decide) (by decide) q0 q1,ne (by decide) (by decide) (by decide) q0 q2,ne (by decide) (by decide) (by decide) q1 q2⟩⟩,b0,b1',b2'⟩
theorem Sb.cellsAt{base f L:Nat}{W:World}{s:Nat->Nat}{up semi least way:List Int}{q:Nat->Option Addr}{c:Nat->Nat}(h:Sb base W f G hi s L up semi least way q c)(h0:0<G.N){g0 g1 g2:Nat}(q0:q 0=some ⟨g0,0,none⟩)(q1:q 1=some ⟨g1,0,none⟩)(q2:q 2=some ⟨g2,0,none⟩):Sc W f G.N up semi least c g0 g1 g2:=by
 obtain⟨a0,a1,a2,e0,e1,e2,hc,_⟩:=h.cells h0;rw[q0]at e0;rw[q1]at e1;rw[q2]at e2;injection e0 with e0
 injection e1 with e1
 injection e2 with e2
 injection e0 with e0
 injection e1 with e1
 injection e2 with e2
 subst e0 e1 e2;exact hc
def Kp(q:Nat->Option Addr)(c:Nat->Nat)(q':Nat->Option Addr)(c':Nat->Nat):Prop:=∀ j,j≠3->q' j=q j/\c' j=c j
theorem Kp.app{q q':Nat->Option Addr}{c c':Nat->Nat}(h:Kp q c q' c')(p:Option Addr)(n:Nat):Kp q c (up1 q' 3 p) (up1 c' 3 n):=λ j hj=>by
 rw[bW _ _ _ hj,bW _ _ _ hj];exact h j hj
def BestP(W:World)(base f:Nat)(G:Dg)(hi:Nat->Nat)(s:Nat->Nat)(L i:Nat)(semi:List Int)(q:Nat->Option Addr)(c:Nat->Nat)(e:Ending)(w':World):Prop :=
 ∃ (b:Nat) (up' least' way':List Int) (q':Nat->Option Addr) (c':Nat->Nat),e=.returned (.int .i64 (b:Int))/\b<G.N/\Bst G hi s L i b/\Sb base w' f G hi s L up' semi least' way' q' c'/\Fk W w' f q q'/\Kp q c q' c'
theorem sbest_root{base f L i:Nat}{W:World}{s:Nat->Nat}{up semi least way:List Int}{q:Nat->Option Addr}{c:Nat->Nat}(h:Sb base W f G hi s L up semi least way q c)(hi':i<G.N)(hL:i<L)(hN:G.N<=1048576) :
  Calls Tryz.prog 136 #[.pointer (some ⟨f,0,none⟩),.int .i64 (i:Int)] W (BestP W base f G hi s L i semi q c):=by
 obtain⟨g0,g1,g2,q0,q1,q2,hc,_⟩:=h.cells (by omega);have d0:=hc.d0;have k0:=hc.k0 i hi';have e0:=(h.fo.root hi').2 hL;rw[e0]at k0;have lf:=hc.lf;have l0:=hc.l0;have HP:Hid (∀ W',W.grownBy W' none->BestP W base f G hi s L i semi q c (.returned (.int .i64 (i:Int))) W'):=aQ (λ W' hg=>⟨i,up,least,way,q,c,rfl,hi',⟨λ _=>rfl,λ k=>by omega⟩,h.grown hg,(Fk.refl W f q).no hg,λ _ _=>⟨rfl,rfl⟩⟩);have HG:Hid (∀ o,W.grownBy (W.alloc o) none):=aQ (λ o=>fU W o);generalize BestP W base f G hi s L i semi q c=Q at *;generalize G.N=N at *;clear h hc q0 q1 q2 e0;refine(callsIn_wide (n:=6)).1 (callsIn_of_wp_marks Tryz.func136 rfl trivial (wpIn_wide.2 ?_) rfl);simp only[Tryz.ntmps136,List.size_toArray,List.length_cons,List.length_nil,Nat.reduceAdd,Nat.reduceSub,Array.replicate_succ,Array.replicate_zero,List.push_toArray,List.append_toArray,List.nil_append,List.cons_append];go_wp2_with fail
 refine⟨_,results_tmp rfl _ _ _,?_⟩;show Q (.returned (.int .i64 (i:Int))) _;exact HP.out _ (HG.out _)
theorem Fk.pre{W w':World}{o:Obj}{f:Nat}{q q':Nat->Option Addr}(h:Fk (W.alloc o) w' f q q'):Fk W w' f q q':=by
 have sz:(W.alloc o).heap.size=W.heap.size+1:=World.size_alloc ..;refine⟨⟨h.ch.os,h.ch.tape,h.ch.output,by have:=h.ch.size;omega,λ k hk hx=>(h.ch.block k (by omega) hx).trans (Below.heap_alloc W o k hk)⟩,λ j hj=>?_⟩;rcases h.qs j hj with c|⟨k,c1,c2⟩
 ·exact .inl c
 ·exact .inr ⟨k,c1,by omega⟩
structure Lq(W1 wr:World)(base f:Nat)(G:Dg)(hi:Nat->Nat)(s:Nat->Nat)(L i:Nat)(up semi least xs:List Int)(m:Nat)(q0 q:Nat->Option Addr)(c:Nat->Nat):Prop where
 sb:Sb base wr f G hi s L up semi least xs q c
 fk:Fk W1 wr f q0 q
 ch:Ch up L i xs m
 mL:L<=m
 mN:m<G.N
theorem Fk.cell{W1 wr:World}{f:Nat}{q0 q:Nat->Option Addr}(h:Fk W1 wr f q0 q){b:Nat}(hb:b<W1.heap.size)(hf:b≠f)(hq:∀ j∈FJ,(q0 j).map Addr.block≠some b)(o:Nat):wr.cell? ⟨b,o,none⟩=W1.cell? ⟨b,o,none⟩ :=
 h.ch.cell hb (λ c=>by
  rcases c with c|⟨j,hj,e⟩
  ·exact hf c
  ·exact hq j hj e) o
theorem Sb.app{base f L:Nat}{W W':World}{s:Nat->Nat}{up semi least way:List Int}{q:Nat->Option Addr}{c:Nat->Nat}(h:Sb base W f G hi s L up semi least way q c){l k' c':Nat}{q':Option Addr}{x:Int}(ho:W'.ownsRow base 3 1 (.slice q' k' c') k' (aX (way ++ [x])))(hk:(way ++ [x]).length=k')(hg:W.grownBy W' (Value.slice (q 3) l (c 3)).ownBlock)
  (hb:(Value.slice q' k' c').ownBlock=(Value.slice (q 3) l (c 3)).ownBlock∨(Value.slice q' k' c').ownBlock=some W.heap.size) (hl:k'<=1048576):Sb base (W'.setCell ⟨f,3,none⟩ (.slice q' k' c')) f G hi s L up semi least (way ++ [x]) (up1 q 3 q') (up1 c 3 c'):=by
 have:=h.sr.app (j:=3) (by decide) (by rw[hk];exact ho) hk.symm hg hb;rw[fr3]at this;exact⟨this,h.fo,h.sl,h.sh,by omega⟩
theorem Fk.app{W1 W W':World}{f:Nat}{q0 q:Nat->Option Addr}{c:Nat->Nat}(h:Fk W1 W f q0 q){l k' c':Nat}{q':Option Addr}(hg:W.grownBy W' (Value.slice (q 3) l (c 3)).ownBlock)(hb:(Value.slice q' k' c').ownBlock=(Value.slice (q 3) l (c 3)).ownBlock∨(Value.slice q' k' c').ownBlock=some W.heap.size):Fk W1 (W'.setCell ⟨f,3,none⟩ (.slice q' k' c')) f q0 (up1 q 3 q'):=by
 rw[aH]at hg;rw[aH,aH]at hb
 have hg':Fk W1 W' f q0 q:=by
  cases hq:(q 3).map Addr.block with
  | none=>rw[hq]at hg;exact h.no hg
  | some k=>rw[hq]at hg;exact h.own hg (.inr ⟨3,by decide,hq⟩)
 exact(hg'.own (bC W' ⟨f,3,none⟩ _) (.inl rfl)).move h.ch.size hb
structure Br(W1:World)(base f bx:Nat)(G:Dg)(hi:Nat->Nat)(s:Nat->Nat)(L i:Nat)(semi xs:List Int)(q0 q:Nat->Option Addr)(c:Nat->Nat)(up least:List Int)(k:Nat)(W:World):Prop where
 sb:Sb base W f G hi s L up semi least xs q c
 fk:Fk W1 W f q0 q
 bk:Bk G hi s L i up least (xs.take (xs.length - k))
 cl:W.cell? ⟨bx,0,none⟩=some (.slice (q 3) xs.length (c 3))
theorem Br.grown{W1 W W':World}{base f bx L i k:Nat}{s:Nat->Nat}{semi xs up least:List Int}{q0 q:Nat->Option Addr}{c:Nat->Nat}(h:Br W1 base f bx G hi s L i semi xs q0 q c up least k W){row:Option Nat}(hg:W.grownBy W' row)(hr:∀ r,row=some r->bx<r)(hf:f<bx)(hq:∀ j∈FJ,∀ g,(q j).map Addr.block=some g->g<bx)(hB:W1.heap.size<=bx)(hbx:bx<W.heap.size):Br W1 base f bx G hi s L i semi xs q0 q c up least k W':=by
 refine⟨⟨h.sb.sr.grown hg (λ e=>by have:=hr f e;omega) (λ j hj k e e2=>by have:=hr k e;have:=hq j hj k e2;omega),h.sb.fo,h.sb.sl,h.sb.sh,h.sb.wl⟩,⟨h.fk.ch.grown hg h.fk.ch.size (λ k e=>.inl (by have:=hr k e;omega)),h.fk.qs⟩,h.bk,?_⟩;exact(World.cell?_of_block (a:=⟨bx,0,none⟩) (hg.block bx hbx (λ e=>by have:=hr bx e.symm;omega))).trans h.cl
theorem Br.nums{par:Nat->Nat}{W1 W:World}{base f bx L i k:Nat}{s:Nat->Nat}{semi xs up least:List Int}{q0 q:Nat->Option Addr}{c:Nat->Nat}(T:Tr G par hi)(h:Br W1 base f bx G hi s L i semi xs q0 q c up least k W)(hi':i<G.N)(hk:k<xs.length) :
  ∃ m a bn ba:Nat,xs.getD (xs.length - 1 - k) 0=(m:Int)/\m<G.N/\a<G.N/\bn<G.N/\ba<G.N/\up.getD m 0=(a:Int)/\least.getD m 0=(bn:Int)/\least.getD a 0=(ba:Int)/\semi.getD bn 0=(s bn:Int)/\semi.getD ba 0=(s ba:Int) /\
   Bk G hi s L i (up.set m (up.getD a 0)) (if s ba<s bn then least.set m (ba:Int)else least) (xs.take (xs.length - (k+1))):=by
 have e:xs.take (xs.length - k)=xs.take (xs.length - (k+1)) ++ [xs.getD (xs.length - 1 - k) 0]:=by
  have e1:xs.length - k=(xs.length - 1 - k)+1:=by omega
  have e2:xs.length - (k+1)=xs.length - 1 - k:=by omega
  have hl:xs.length - 1 - k<xs.length:=by omega
  rw[e1,e2,List.take_add_one,List.getD_eq_getElem?_getD,List.getElem?_eq_getElem hl];rfl
 have hb:=h.bk;rw[e]at hb;obtain⟨m,a,bn,ba,h1,h2,h3,h4,h5,h6,h7,h8,h9,h10,h11⟩:=hb.step T hi';exact⟨m,a,bn,ba,h1,h2,h3,h4,h5,h8,h9,h10,h.sb.sh bn h6 h4,h.sb.sh ba h7 h5,h11⟩
theorem Br.put2{W1 W:World}{base f bx g2:Nat}{semi xs up least:List Int}{q0 q:Nat->Option Addr}{c:Nat->Nat}(h:Sr base W f FJ (fr up semi least xs) q c/\Fk W1 W f q0 q/\W.cell? ⟨bx,0,none⟩=some (.slice (q 3) xs.length (c 3)))(hq2:q 2=some ⟨g2,0,none⟩)(hb:g2≠bx)(m:Nat)(x:Int) :
  Sr base (W.setCell ⟨g2,m,none⟩ (.int .i64 x)) f FJ (fr up semi (least.set m x) xs) q c/\Fk W1 (W.setCell ⟨g2,m,none⟩ (.int .i64 x)) f q0 q/\(W.setCell ⟨g2,m,none⟩ (.int .i64 x)).cell? ⟨bx,0,none⟩=some (.slice (q 3) xs.length (c 3)):=by
 have:=h.1.set (j:=2) (by decide) hq2 m x;rw[fr2]at this;exact⟨this,h.2.1.own (bC W ⟨g2,m,none⟩ _) (.inr ⟨2,by decide,by rw[hq2];rfl⟩),(World.cell?_setCell_other _ _ _ _ (λ e=>hb (congrArg Addr.block e))).trans h.2.2⟩
theorem Br.put0{W1 W:World}{base f bx g0:Nat}{semi xs up least:List Int}{q0 q:Nat->Option Addr}{c:Nat->Nat}(h:Sr base W f FJ (fr up semi least xs) q c/\Fk W1 W f q0 q/\W.cell? ⟨bx,0,none⟩=some (.slice (q 3) xs.length (c 3)))(hq0:q 0=some ⟨g0,0,none⟩)(hb:g0≠bx)(m:Nat)(x:Int) :
  Sr base (W.setCell ⟨g0,m,none⟩ (.int .i64 x)) f FJ (fr (up.set m x) semi least xs) q c/\Fk W1 (W.setCell ⟨g0,m,none⟩ (.int .i64 x)) f q0 q/\(W.setCell ⟨g0,m,none⟩ (.int .i64 x)).cell? ⟨bx,0,none⟩=some (.slice (q 3) xs.length (c 3)):=by
 have:=h.1.set (j:=0) (by decide) hq0 m x;rw[fr0]at this;exact⟨this,h.2.1.own (bC W ⟨g0,m,none⟩ _) (.inr ⟨0,by decide,by rw[hq0];rfl⟩),(World.cell?_setCell_other _ _ _ _ (λ e=>hb (congrArg Addr.block e))).trans h.2.2⟩
def Bt(W1:World)(base f bx:Nat)(semi xs:List Int)(q0 q:Nat->Option Addr)(c:Nat->Nat)(up least:List Int)(W:World):Prop :=
 Sr base W f FJ (fr up semi least xs) q c/\Fk W1 W f q0 q/\W.cell? ⟨bx,0,none⟩=some (.slice (q 3) xs.length (c 3))
theorem Bt.drew{W1 W:World}{base f bx:Nat}{semi xs up least:List Int}{q0 q:Nat->Option Addr}{c:Nat->Nat}(h:Bt W1 base f bx semi xs q0 q c up least W)(n:Nat):Bt W1 base f bx semi xs q0 q c up least (W.drewN n) :=
 ⟨h.1.grown (cL W n) (by simp) (λ _ _ _ e=>by cases e),h.2.1.no (cL W n),h.2.2⟩
theorem Sr.atI{base b g:Nat}{W:World}{js:List Nat}{r:Nat->List Int}{q:Nat->Option Addr}{c:Nat->Nat}(h:Sr base W b js r q c){j:Nat}(hj:j∈js)(hq:q j=some ⟨g,0,none⟩){l:List Int}(hr:r j=l){i:Nat}(hi:i<l.length):W.cell? ⟨g,i,none⟩=some (.int .i64 (l.getD i 0))/\W.frozen? ⟨g,i,none⟩=false:=by
 subst hr;obtain⟨g',e,_,_,_,h1,h2⟩:=h.row hj (by omega);rw[hq]at e;injection e with e
 injection e with e
 subst e;exact⟨h2 i hi,h1 i⟩
theorem sbest_link{par:Nat->Nat}(T:Tr G par hi){base f L i:Nat}{W:World}{s:Nat->Nat}{up semi least way:List Int}{q:Nat->Option Addr}{c:Nat->Nat}(h:Sb base W f G hi s L up semi least way q c)(hi':i<G.N)(hL:L<=i)(hN:G.N<=1048576)(hbase:base<=W.heap.size) :
  Calls Tryz.prog 136 #[.pointer (some ⟨f,0,none⟩),.int .i64 (i:Int)] W (BestP W base f G hi s L i semi q c):=by
 obtain⟨W1,hW1⟩:∃ W1,W.alloc (.cells #[.pointer (some ⟨f,0,none⟩)] 217)=W1:=⟨_,rfl⟩;have hsz:W1.heap.size=W.heap.size+1:=by rw[<- hW1];exact World.size_alloc ..
 have h1:Sb base W1 f G hi s L up semi least way q c:=by rw[<- hW1];exact h.grown (fU W _)
 have bx1:W1.cell? ⟨W.heap.size,0,none⟩=some (.pointer (some ⟨f,0,none⟩)):=by rw[<- hW1];exact aJ W rfl
 have hbf:W.heap.size≠f:=by have:=h.sr.bl;omega
 have hbq:∀ j∈FJ,(q j).map Addr.block≠some W.heap.size:=λ j hj e=>by have:=(h.sr.blk hj e).2;omega
 have HBX:Hid (∀ wr q',Fk W1 wr f q q'->wr.cell? ⟨W.heap.size,0,none⟩=some (.pointer (some ⟨f,0,none⟩))):=aQ (λ wr q' hk=>(hk.cell (by omega) hbf hbq 0).trans bx1);have HPRE:Hid (∀ wr q',Fk W1 wr f q q'->Fk W wr f q q'):=aQ (λ wr q' hk=>by rw[<- hW1]at hk;exact hk.pre);have HW1:=aQ hW1;have H1:=aQ h1;obtain⟨g0,g1,g2,q0,q1,q2,hc,_⟩:=h1.cells (by omega);have d0:=hc.d0;obtain⟨a0,ea0,ha0⟩:=h.fo.upv hi' hL;have k0:=hc.k0 i hi';rw[ea0]at k0;have hb0:((a0:Int) == -1)=false:=by simp
 have d3:=h1.sr.clE (j:=3) (by decide) (l:=way) rfl rfl rfl rfl;have f3:=h1.sr.fz 3;have lf:=hc.lf;have l0:=hc.l0;have hsl1:∀ W,(Instr.sliceAt 34 (.slice (q 3) way.length (c 3)) none (some (.int .i64 0)) none).run Tryz.prog W=.ok (.slice (q 3) 0 (c 3)) W:=λ W=>(cH (q 3) way.length (c 3) 0 (Nat.zero_le _) W).1
 have hsl2:∀ W,(Instr.slice 34 (.slice (q 3) way.length (c 3)) none (some (.int .i64 0)) none).run Tryz.prog W=.ok (.slice (q 3) 0 (c 3)) W:=λ W=>(cH (q 3) way.length (c 3) 0 (Nat.zero_le _) W).2
 obtain⟨c0,hc0⟩:∃ c0:Nat->Nat,c0=c:=⟨_,rfl⟩;have HKP0:Hid (Kp q c0 q c):=aQ (λ _ _=>⟨rfl,by rw[hc0]⟩)
 have HC0:Hid (Lq W1 ((W1.setCell ⟨f,3,none⟩ (.slice (q 3) 0 (c 3))).drew) base f G hi s L i up semi least [] i q q c):=aQ (by
  have hs:=h1.sr.cut (j:=3) (by decide);rw[fr3]at hs;have hk:=(Fk.refl W1 f q).own (bC W1 ⟨f,3,none⟩ (.slice (q 3) 0 (c 3))) (.inl rfl);exact⟨(Sb.mk hs h1.fo h1.sl h1.sh (Nat.zero_le _)).grown (eY _),hk.no (eY _),.nil,hL,hi'⟩)
 have HFO:=aQ h1.fo;obtain⟨wl,hwl⟩:∃ l,way.length=l:=⟨_,rfl⟩;rw[hwl]at d3 hsl1 hsl2;have HTR:=aQ T;obtain⟨N,hNd⟩:∃ N,G.N=N:=⟨_,rfl⟩;have HND:=aQ hNd;rw[hNd]at hN hi' d0;have bx0:(W.alloc (.cells #[.pointer (some ⟨f,0,none⟩)] 217)).cell? ⟨W.heap.size,0,none⟩=some (.pointer (some ⟨f,0,none⟩)):=aJ W rfl;obtain⟨BP,hBP⟩:∃ R,BestP W base f G hi s L i semi q c=R:=⟨_,rfl⟩;have HBP:Hid (∀ w' (b:Nat) (up' least' way':List Int) (q':Nat->Option Addr) (c':Nat->Nat),b<G.N->Bst G hi s L i b->Sb base w' f G hi s L up' semi least' way' q' c'->Fk W w' f q q'->Kp q c0 q' c'->BP (.returned (.int .i64 (b:Int))) w'):=aQ (λ w' b up' least' way' q' c' h1 h2 h3 h4 h5=>by rw[<- hBP];rw[hc0]at h5;exact⟨b,up',least',way',q',c',rfl,h1,h2,h3,h4,h5⟩);rw[hBP];clear hBP hc0;clear h h1 hc q0 q1 q2 hwl hNd bx0 T;refine(callsIn_wide (n:=6)).1 (callsIn_of_wp_marks Tryz.func136 rfl trivial (wpIn_wide.2 ?_) rfl);simp only[Tryz.ntmps136,List.size_toArray,List.length_cons,List.length_nil,Nat.reduceAdd,Nat.reduceSub,Array.replicate_succ,Array.replicate_zero,List.push_toArray,List.append_toArray,List.nil_append,List.cons_append];go_wp2_with fail
 go_region
 go_wp2_with fail
 clear d0 k0 d3 f3 hsl1 hsl2 l0 H1
 go_loopw [5] (λ v wr=>∃ (m:Nat) (xs:List Int) (q':Nat->Option Addr) (c:Nat->Nat),v=.int .i64 (m:Int)/\Hid (Kp q c0 q' c)/\Lq W1 wr base f G hi s L i up semi least xs m q q' c) (λ v _=>(RowKit.intOf v).toNat)
 case atStart=>exact⟨i,[],q,c,rfl,HKP0,HC0.out⟩
 case round =>
  clear HC0 HKP0 bx1 hbq;obtain⟨m,xs,q',c,rfl,HKP,hl⟩:=hrel;have HL:=aQ hl;obtain⟨g0,g1,g2,q0,q1,q2,hc,_⟩:=hl.sb.cells (by rw[HND.out];omega);rw[HND.out]at hc;have bx:=HBX.out wr q' hl.fk;have d0:=hc.d0;have hmN:=hl.mN;rw[HND.out]at hmN;obtain⟨a,ea,ham⟩:=HFO.out.upv hl.mN hl.mL;have k0:=hc.k0 m hmN;rw[ea]at k0;have haN:a<N:=by omega
  have k1:=hc.k0 a haN;have lf:=hc.lf;have l0:=hc.l0;have HEA:=aQ ea;by_cases haL:L<=a
  ·obtain⟨a2,ea2,ha2⟩:=HFO.out.upv (k:=a) (by rw[HND.out];exact haN) haL
   rw[ea2]at k1;have HXL:Hid (xs.length+1<=1048576):=aQ (by have:=hl.ch.le;omega);have d3:=hl.sb.sr.clE (j:=3) (by decide) (l:=xs) rfl rfl rfl rfl;have f3:=hl.sb.sr.fz 3;obtain⟨xl,hxl⟩:∃ l,xs.length=l:=⟨_,rfl⟩;have HXE:Hid (xs.length=xl/\(xs ++ [(m:Int)]).length=xl+1/\xs.length+[(m:Int)].length<=1099511627776):=aQ ⟨hxl,by simp[hxl],by have:=HXL.out;simp;omega⟩;rw[hxl]at d3 HXL;have HN9:=aQ (λ (x:Int) (W:World) k (e:k=W.heap.size)=>(e ▸ bH (k:=.i64) W 3 [x] #[.int .i64 x] rfl (by simp):NumsAt .i64 (W.alloc (.cells #[.int .i64 x] 3)) (some ⟨k,0,none⟩) [x]).below ((Below.refl _ _).drew));clear hl hc q0 q1 q2 ea ea2;go_wp2_with fail
   go_quiet (fail)
   go_wp2_with fail
   obtain⟨wn,hwn⟩:∃ wn,wr.drewN nq=wn:=⟨_,rfl⟩;rw[hwn]
   have HLn:Hid (Lq W1 wn base f G hi s L i up semi least xs m q q' c):=aQ (by
    rw[<- hwn];exact⟨HL.out.sb.grown (cL wr nq),HL.out.fk.no (cL wr nq),HL.out.ch,HL.out.mL,HL.out.mN⟩)
   have bxn:=HBX.out wn q' HLn.out.fk;have d3n:=HLn.out.sb.sr.clE (j:=3) (by decide) (l:=xs) rfl rfl rfl HXE.out.1;have f3n:=HLn.out.sb.sr.fz 3;have lfn:=HLn.out.sb.sr.bl;have lbx:W.heap.size<wn.heap.size:=World.block_lt_of_cell? wn ⟨W.heap.size,0,none⟩ bxn;have HSA:Hid (Sb base (wn.alloc (.cells #[.int .i64 (m:Int)] 3)).drew f G hi s L up semi least xs q' c/\Fk W1 (wn.alloc (.cells #[.int .i64 (m:Int)] 3)).drew f q q'):=aQ ⟨HLn.out.sb.grown (cR wn _),HLn.out.fk.no (cR wn _)⟩;have bxa:=HBX.out _ q' HSA.out.2;have hbW:base<=(wn.alloc (.cells #[.int .i64 (m:Int)] 3)).drew.heap.size:=Nat.le_trans hbase (by simp;omega);clear hwn bx d0 k0 k1 lf l0 d3 f3 HL;refine wp_region_noPanic ?_;refine wp_region_held_drew (S:=(λ W'=>W'.cell? ⟨W.heap.size,0,none⟩=some (.pointer (some ⟨f,0,none⟩)))) (by kernel_rfl) ?_ (λ hHeld=>?_)
   ·(try dsimp only);first|exact bxn|exact bxa|exact bx8|exact bx9
   refine aT 0 rfl (h:=aT 1 rfl (h:=aT 2 rfl (h:=aT 3 rfl (h:=aT 5 rfl (h:=?_)))));try simp only[Act.put,aA,aB,aC]
   refine bY 4 6 (by kernel_rfl) rfl rfl (λ K hK=>?_) (λ K hK=>?_)
   ·
    go_simp
    refine hK.out _ _ ?_ (λ hHeld=>?_)
    ·(try dsimp only);first|exact bxn|exact bxa|exact bx8|exact bx9
    clear hK K;try simp only[Act.put,aA,aB,aC]
    refine aK 6 (by kernel_rfl) rfl (λ K hK=>?_);go_simp
    refine hK.out _ _ ?_ (λ hHeld=>?_)
    ·(try dsimp only);first|exact bxn|exact bxa|exact bx8|exact bx9
    clear hK K;try simp only[Act.put,aA,aB,aC]
    refine aK 7 (by kernel_rfl) rfl (λ K hK=>?_)
    (refine bI rfl (.tmp 52) (.tmp 54) rfl rfl base _ [(m:Int)] xs (.slice (q' 3) xl (c 3)) 1 1 rfl (by simp[Act.eval]) (by simp[Act.eval];rfl) (HSA.out.1.sr.ownE (j:=3) (by decide) rfl rfl rfl HXE.out.1.symm) (HN9.out _ _ _ (by simp)) hbW HXE.out.2.2 ?_;intro v8 w8 ho8 hg8 hb8;rw[HXE.out.2.1]at ho8;obtain⟨q8,c8,rfl⟩:=aW ho8;obtain⟨e8,fz8,bl8⟩:=HSA.out.1.sr.mid (j:=3) (by decide) hg8;have e8':=e8.trans (congrArg (λ n=>some (Value.slice (q' 3) n (c 3))) HXE.out.1);have HX:=aQ (HSA.out.1.app ho8 HXE.out.2.1 hg8 hb8 HXL.out);have HKX:=aQ (HSA.out.2.app hg8 hb8);have HKPX:=aQ (HKP.out.app q8 c8);have bx9:=HBX.out _ _ HKX.out;have bx8:=(World.cell?_setCell_other w8 ⟨f,3,none⟩ ⟨W.heap.size,0,none⟩ (.slice q8 (xl+1) c8) (λ e=>hbf (congrArg Addr.block e).symm)).symm.trans bx9;obtain⟨x0,x1,x2,e0,_,_,hcx,_⟩:=HX.out.cells (by rw[HND.out];omega);rw[HND.out]at hcx;have dx0:=hcx.d0;have kx0:=(hcx.k0 m hmN).trans (congrArg (λ x=>some (Value.int .i64 x)) HEA.out);have lx:=hcx.l0;have lfx:=hcx.lf;clear hcx;clear ho8 hg8 hb8 e8)
    refine hK.out _ _ ?_ (λ hHeld=>?_)
    ·(try dsimp only);first|exact bxn|exact bxa|exact bx8|exact bx9
    clear hK K;try simp only[Act.put,aA,aB,aC]
    refine aT 8 rfl (h:=aT 9 rfl (h:=?_));try simp only[Act.put,aA,aB,aC]
    refine aK 10 (by kernel_rfl) rfl (λ K hK=>?_);go_simp
    refine hK.out _ _ ?_ (λ hHeld=>?_)
    ·(try dsimp only);first|exact bxn|exact bxa|exact bx8|exact bx9
    clear hK K;try simp only[Act.put,aA,aB,aC]
    refine wpAnyH_done (by kernel_rfl) (NoPanic.normal ?_) _;all_goals go_wp2_with fail
    all_goals go_roundw
    all_goals first
     | exact⟨a,_,_,_,rfl,HKPX,HX.out,HKX.out,.snoc HLn.out.ch HLn.out.mL ham HEA.out haL,haL,by rw[HND.out];exact haN⟩
     | (simp[RowKit.intOf];omega)
   ·
    go_simp
    refine hK.out _ _ ?_ (λ hHeld=>?_)
    ·(try dsimp only);first|exact bxn|exact bxa|exact bx8|exact bx9
    clear hK K;try simp only[Act.put,aA,aB,aC]
    refine aK 4 (by kernel_rfl) rfl (λ K hK=>?_);go_simp
    refine hK.out _ _ ?_ (λ hHeld=>?_)
    ·(try dsimp only);first|exact bxn|exact bxa|exact bx8|exact bx9
    clear hK K;try simp only[Act.put,aA,aB,aC]
    refine aK 7 (by kernel_rfl) rfl (λ K hK=>?_)
    (refine bI rfl (.tmp 52) (.tmp 54) rfl rfl base _ [(m:Int)] xs (.slice (q' 3) xl (c 3)) 1 1 rfl (by simp[Act.eval]) (by simp[Act.eval];rfl) (HSA.out.1.sr.ownE (j:=3) (by decide) rfl rfl rfl HXE.out.1.symm) (HN9.out _ _ _ (by simp)) hbW HXE.out.2.2 ?_;intro v8 w8 ho8 hg8 hb8;rw[HXE.out.2.1]at ho8;obtain⟨q8,c8,rfl⟩:=aW ho8;obtain⟨e8,fz8,bl8⟩:=HSA.out.1.sr.mid (j:=3) (by decide) hg8;have e8':=e8.trans (congrArg (λ n=>some (Value.slice (q' 3) n (c 3))) HXE.out.1);have HX:=aQ (HSA.out.1.app ho8 HXE.out.2.1 hg8 hb8 HXL.out);have HKX:=aQ (HSA.out.2.app hg8 hb8);have HKPX:=aQ (HKP.out.app q8 c8);have bx9:=HBX.out _ _ HKX.out;have bx8:=(World.cell?_setCell_other w8 ⟨f,3,none⟩ ⟨W.heap.size,0,none⟩ (.slice q8 (xl+1) c8) (λ e=>hbf (congrArg Addr.block e).symm)).symm.trans bx9;obtain⟨x0,x1,x2,e0,_,_,hcx,_⟩:=HX.out.cells (by rw[HND.out];omega);rw[HND.out]at hcx;have dx0:=hcx.d0;have kx0:=(hcx.k0 m hmN).trans (congrArg (λ x=>some (Value.int .i64 x)) HEA.out);have lx:=hcx.l0;have lfx:=hcx.lf;clear hcx;clear ho8 hg8 hb8 e8)
    refine hK.out _ _ ?_ (λ hHeld=>?_)
    ·(try dsimp only);first|exact bxn|exact bxa|exact bx8|exact bx9
    clear hK K;try simp only[Act.put,aA,aB,aC]
    refine aT 8 rfl (h:=aT 9 rfl (h:=?_));try simp only[Act.put,aA,aB,aC]
    refine aK 10 (by kernel_rfl) rfl (λ K hK=>?_);go_simp
    refine hK.out _ _ ?_ (λ hHeld=>?_)
    ·(try dsimp only);first|exact bxn|exact bxa|exact bx8|exact bx9
    clear hK K;try simp only[Act.put,aA,aB,aC]
    refine wpAnyH_done (by kernel_rfl) (NoPanic.normal ?_) _;all_goals go_wp2_with fail
    all_goals go_roundw
    all_goals first
     | exact⟨a,_,_,_,rfl,HKPX,HX.out,HKX.out,.snoc HLn.out.ch HLn.out.mL ham HEA.out haL,haL,by rw[HND.out];exact haN⟩
     | (simp[RowKit.intOf];omega)
  ·have e1:=(HFO.out.lo a (by omega) (by rw[HND.out];exact haN)).1
   have d3:=hl.sb.sr.clE (j:=3) (by decide) (l:=xs) rfl rfl rfl rfl;rw[e1]at k1;have HBD:Hid (Bk G hi s L i up least xs):=aQ ⟨HFO.out,m,hl.ch,hl.mL,hl.mN,by omega⟩;clear hl hc q0 q1 q2 ea e1;go_wp2_with fail
   go_quiet (fail)
   obtain⟨wn,hwn⟩:∃ wn,wr.drewN nq=wn:=⟨_,rfl⟩;rw[hwn]
   have HLn:Hid (Sb base wn f G hi s L up semi least xs q' c/\Fk W1 wn f q q'):=aQ (by
    rw[<- hwn];exact⟨HL.out.sb.grown (cL wr nq),HL.out.fk.no (cL wr nq)⟩)
   have bxn:=HBX.out wn q' HLn.out.2;obtain⟨xl,hxl⟩:∃ l,xs.length=l:=⟨_,rfl⟩;have HXE:Hid (xs.length=xl/\xs.length<=1048576):=aQ ⟨hxl,HL.out.sb.wl⟩;have d3n:=HLn.out.1.sr.clE (j:=3) (by decide) (l:=xs) rfl rfl rfl hxl;have lfn:=HLn.out.1.sr.bl;have HBW:=aQ (λ q n c W=>backward_any q n c W);clear hwn bx d0 k0 k1 lf l0 d3 HL hxl;go_wp2_with (go_at_call 155;(with_reducible refine(HBW.out _ _ _ _).mono ?_);rintro e w1 ⟨rfl,rfl⟩)
   go_outline
   rename_i KK hKK
   obtain⟨w0,hw0⟩:∃ w0,wn.alloc (.cells #[.slice (q' 3) xl (c 3)] 34)=w0:=⟨_,rfl⟩;have hq3:∀ j∈FJ,∀ g,(q' j).map Addr.block=some g->g<wn.heap.size:=λ j hj g e=>(HLn.out.1.sr.blk hj e).2
   have sz0:w0.heap.size=wn.heap.size+1:=by rw[<- hw0];exact World.size_alloc ..
   have szn:W1.heap.size<=wn.heap.size:=HLn.out.2.ch.size
   have HB0:Hid (Br W1 base f wn.heap.size G hi s L i semi xs q q' c up least 0 w0):=aQ (by
    rw[<- hw0];refine⟨HLn.out.1.grown (fU wn _),HLn.out.2.no (fU wn _),by rw[Nat.sub_zero,List.take_length];exact HBD.out,?_⟩;rw[HXE.out.1];exact aJ wn rfl)
   rw[hw0];clear hw0 bxn d3n;refine(wpIn_wide (n:=6)).1 ?_;apply range_ord (gf:=181) (lb:=#[.pointer (some ⟨wn.heap.size,0,none⟩)]) rfl (enters_of Tryz.func181 (by kernel_rfl) rfl) xs.length (bes xs) (λ k=>rfl) (λ k W2=>wn.heap.size<W2.heap.size/\∃ up' least',Br W1 base f wn.heap.size G hi s L i semi xs q q' c up' least' k W2) ?own ⟨by omega,up,least,HB0.out⟩ _ ?assign ?body ?iter ?done
   case own =>
    rintro k W2 W3 row ⟨hz,up',least',hB⟩ hg hr;exact⟨Nat.lt_of_lt_of_le hz hg.size,up',least',hB.grown hg (λ r e=>by have:=(hr r e).1;omega) lfn hq3 szn hz⟩
   case iter =>
    intro l J W2 hJ hY h0
    exact back_it 5 l wn.heap.size (c 3) (q' 3) xs HXE.out.2 J W2 (λ k W3 hk=>by
     obtain⟨_,up',least',hB⟩:=hJ k W3 hk;exact⟨hB.cl,hB.sb.sr.nums (j:=3) (by decide) (Nat.le_trans HXE.out.2 (by omega))⟩) hY h0
   case assign =>
    intro l k W2 K hK;show Code.wpIn _ _ _ _ _ _ _;unfold bes
    gi_wp2
    exact hK
   case body =>
    rintro l k W2 hk ⟨hz,up',least',hB⟩;obtain⟨m,a,bn,ba,em,hm,ha,hbn,hba,e1,e2,e3,e4,e5,hbk⟩:=hB.nums HTR.out (by rw[HND.out];exact hi') hk;rw[List.getD_eq_getElem?_getD]at em;rw[em];have HB:=aQ hB;have HBK:=aQ hbk;obtain⟨b0,b1,b2,q0,q1,q2,hc,_⟩:=hB.sb.cells (by rw[HND.out];omega);rw[HND.out]at hc hm ha hbn hba;have bx:=HBX.out W2 q' hB.fk;have d0:=hc.d0;have d1:=hc.d1;have d2:=hc.d2;have u1:=hc.k0 m hm;have u2:=hc.k0 a ha;have v1:=hc.k1 bn hbn;have v2:=hc.k1 ba hba;have x1:=hc.k2 m hm;have x2:=hc.k2 a ha;rw[e1]at u1;rw[e4]at v1;rw[e5]at v2;rw[e2]at x1;rw[e3]at x2;have z0:=hc.f0 m;have z2:=hc.f2 m;have l0:=hc.l0;have l2:=hc.l2;have lf2:=hc.lf;have HQ0:=aQ q0;have HQ1:=aQ q1;have HQ2:=aQ q2;have HE:=aQ (And.intro e1 (And.intro e2 e3));have HUL:Hid (up'.length=N):=aQ (by rw[hB.sb.fo.l1];exact HND.out);clear hB hbk hc q0 q1 q2 e1 e2 e3 e4 e5 em
    gi_wp2
    by_cases hlt:(s ba:Int)<(s bn:Int)
    ·refine region_quiet_r (by kernel_rfl) (by kernel_rfl) (by kernel_rfl) (by kernel_rfl) ?_
     repeat (gi_big_quiet_step (fail))
     refine wpQuietIn_nil ?_;intro w3 hw3;have HB3:Hid (Br W1 base f wn.heap.size G hi s L i semi xs q q' c up' least' k w3/\KeepsOthers W2 w3):=aQ (by obtain⟨nq,rfl⟩:=hw3;exact⟨HB.out.grown (cL W2 nq) (λ _ e=>by cases e) lfn hq3 szn hz,⟨Nat.le_refl _,λ _ _ h _=>h⟩⟩);have hc3:=HB3.out.1.sb.cellsAt (by rw[HND.out];omega) HQ0.out HQ1.out HQ2.out;rw[HND.out]at hc3;have bx3:=HBX.out w3 q' HB3.out.1.fk;have d03:=hc3.d0;have d23:=hc3.d2;have u13:=(hc3.k0 m hm).trans (congrArg (λ x=>some (Value.int .i64 x)) HE.out.1);have u23:=hc3.k0 a ha;have x13:=(hc3.k2 m hm).trans (congrArg (λ x=>some (Value.int .i64 x)) HE.out.2.1);have x23:=(hc3.k2 a ha).trans (congrArg (λ x=>some (Value.int .i64 x)) HE.out.2.2);have z03:=hc3.f0 m;have z23:=hc3.f2 m;clear hc3 hw3 bx d0 d1 d2 u1 u2 v1 v2 x1 x2 z0 z2
     gi_wp2
     refine fK (N:=13) (by kernel_rfl) rfl rfl (by kernel_rfl) (by kernel_rfl) (by kernel_rfl) (by kernel_rfl) (by kernel_rfl) (by kernel_rfl) ?_;simp only[List.take_succ_cons,List.take_zero];repeat (gi_big_quiet_step (fail))
     refine wpQuietIn_nil ?_;intro w4 hw4;have HB4:Hid (Br W1 base f wn.heap.size G hi s L i semi xs q q' c up' least' k w4/\KeepsOthers W2 w4):=aQ (by obtain⟨nq,rfl⟩:=hw4;exact⟨HB3.out.1.grown (cL w3 nq) (λ _ e=>by cases e) lfn hq3 szn (Nat.lt_of_lt_of_le hz HB3.out.2.size),HB3.out.2.trans ⟨Nat.le_refl _,λ _ _ h _=>h⟩⟩);have HT4:Hid (Bt W1 base f wn.heap.size semi xs q q' c up' least' w4):=aQ ⟨HB4.out.1.sb.sr,HB4.out.1.fk,HB4.out.1.cl⟩;have x14:w4.cell? ⟨b2,m,none⟩=some (.int .i64 (bn:Int)):=by obtain⟨nq,rfl⟩:=hw4;exact x13
     have z24:w4.frozen? ⟨b2,m,none⟩=false:=by obtain⟨nq,rfl⟩:=hw4;exact z23
     clear hw4 bx3 d03 d23 u13 u23 x13 x23 z03 z23
     gi_wp2
     obtain⟨w5,hw5⟩:∃ w5,w4.setCell ⟨b2,m,none⟩ (.int .i64 (ba:Int))=w5:=⟨_,rfl⟩;have HT5:Hid (Bt W1 base f wn.heap.size semi xs q q' c up' (least'.set m (ba:Int)) w5):=aQ (by rw[<- hw5];exact Br.put2 HT4.out HQ2.out (λ e=>by have:=hq3 2 (by decide) b2 (by rw[HQ2.out];rfl);omega) m (ba:Int));have HK5:Hid (KeepsOthers W2 w5):=aQ (by rw[<- hw5];exact HB4.out.2.trans (KeepsOthers.setCell _ _ _));rw[hw5];clear hw5 x14 z24;have t5:=HT5.out.1;have bx5:=HBX.out w5 q' HT5.out.2.1;have d05:=t5.clE (j:=0) (by decide) (l:=up') rfl HQ0.out rfl HUL.out;have u15:=((t5.atI (j:=0) (by decide) HQ0.out (l:=up') rfl (i:=m) (by rw[HUL.out];exact hm)).1).trans (congrArg (λ x=>some (Value.int .i64 x)) HE.out.1);have z05:=(t5.atI (j:=0) (by decide) HQ0.out (l:=up') rfl (i:=m) (by rw[HUL.out];exact hm)).2;have u25:=(t5.atI (j:=0) (by decide) HQ0.out (l:=up') rfl (i:=a) (by rw[HUL.out];exact ha)).1;obtain⟨ua,hua⟩:∃ x,up'.getD a 0=x:=⟨_,rfl⟩;rw[hua]at u25;have HUA:=aQ hua;clear t5 hua;refine fK (N:=13) (by kernel_rfl) rfl rfl (by kernel_rfl) (by kernel_rfl) (by kernel_rfl) (by kernel_rfl) (by kernel_rfl) (by kernel_rfl) ?_;simp only[List.take_succ_cons,List.take_zero];repeat (gi_big_quiet_step (fail))
     refine wpQuietIn_nil ?_;intro w6 hw6;have HT6:Hid (Bt W1 base f wn.heap.size semi xs q q' c up' (least'.set m (ba:Int)) w6/\KeepsOthers W2 w6):=aQ (by obtain⟨nq,rfl⟩:=hw6;exact⟨HT5.out.drew nq,HK5.out.trans ⟨Nat.le_refl _,λ _ _ h _=>h⟩⟩);have u16:w6.cell? ⟨b0,m,none⟩=some (.int .i64 (a:Int)):=by obtain⟨nq,rfl⟩:=hw6;exact u15
     have z06:w6.frozen? ⟨b0,m,none⟩=false:=by obtain⟨nq,rfl⟩:=hw6;exact z05
     clear hw6 bx5 d05 u15 z05 u25
     gi_wp2
     have HT7:=Br.put0 HT6.out.1 HQ0.out (λ e=>by have:=hq3 0 (by decide) b0 (by rw[HQ0.out];rfl);omega) m ua;refine⟨HT6.out.2.trans (KeepsOthers.setCell _ _ _),?_,up'.set m ua,(least'.set m (ba:Int)),?_⟩
     ·have:=HT7.2.1.ch.size
      have:=HT6.out.2.size;omega
     ·have hbk:=HBK.out
      rw[HUA.out,if_pos (by omega)]at hbk;exact⟨⟨HT7.1,hbk.fo,HB.out.sb.sl,HB.out.sb.sh,HB.out.sb.wl⟩,HT7.2.1,hbk,HT7.2.2⟩
    ·refine region_quiet_r (by kernel_rfl) (by kernel_rfl) (by kernel_rfl) (by kernel_rfl) ?_
     repeat (gi_big_quiet_step (fail))
     refine wpQuietIn_nil ?_;intro w3 hw3;have HB3:Hid (Br W1 base f wn.heap.size G hi s L i semi xs q q' c up' least' k w3/\KeepsOthers W2 w3):=aQ (by obtain⟨nq,rfl⟩:=hw3;exact⟨HB.out.grown (cL W2 nq) (λ _ e=>by cases e) lfn hq3 szn hz,⟨Nat.le_refl _,λ _ _ h _=>h⟩⟩);have hc3:=HB3.out.1.sb.cellsAt (by rw[HND.out];omega) HQ0.out HQ1.out HQ2.out;rw[HND.out]at hc3;have bx3:=HBX.out w3 q' HB3.out.1.fk;have d03:=hc3.d0;have d23:=hc3.d2;have u13:=(hc3.k0 m hm).trans (congrArg (λ x=>some (Value.int .i64 x)) HE.out.1);have u23:=hc3.k0 a ha;have x13:=(hc3.k2 m hm).trans (congrArg (λ x=>some (Value.int .i64 x)) HE.out.2.1);have x23:=(hc3.k2 a ha).trans (congrArg (λ x=>some (Value.int .i64 x)) HE.out.2.2);have z03:=hc3.f0 m;have z23:=hc3.f2 m;clear hc3 hw3 bx d0 d1 d2 u1 u2 v1 v2 x1 x2 z0 z2
     gi_wp2
     have HT3:Hid (Bt W1 base f wn.heap.size semi xs q q' c up' least' w3):=aQ ⟨HB3.out.1.sb.sr,HB3.out.1.fk,HB3.out.1.cl⟩;clear bx3 d03 d23 u13 u23 x13 x23 z03 z23;obtain⟨w5,hw5⟩:∃ w5,w3=w5:=⟨_,rfl⟩;have HT5:Hid (Bt W1 base f wn.heap.size semi xs q q' c up' least' w5):=aQ (by rw[<- hw5];exact HT3.out);have HK5:Hid (KeepsOthers W2 w5):=aQ (by rw[<- hw5];exact HB3.out.2);rw[hw5];clear hw5;have t5:=HT5.out.1;have bx5:=HBX.out w5 q' HT5.out.2.1;have d05:=t5.clE (j:=0) (by decide) (l:=up') rfl HQ0.out rfl HUL.out;have u15:=((t5.atI (j:=0) (by decide) HQ0.out (l:=up') rfl (i:=m) (by rw[HUL.out];exact hm)).1).trans (congrArg (λ x=>some (Value.int .i64 x)) HE.out.1);have z05:=(t5.atI (j:=0) (by decide) HQ0.out (l:=up') rfl (i:=m) (by rw[HUL.out];exact hm)).2;have u25:=(t5.atI (j:=0) (by decide) HQ0.out (l:=up') rfl (i:=a) (by rw[HUL.out];exact ha)).1;obtain⟨ua,hua⟩:∃ x,up'.getD a 0=x:=⟨_,rfl⟩;rw[hua]at u25;have HUA:=aQ hua;clear t5 hua;refine fK (N:=13) (by kernel_rfl) rfl rfl (by kernel_rfl) (by kernel_rfl) (by kernel_rfl) (by kernel_rfl) (by kernel_rfl) (by kernel_rfl) ?_;simp only[List.take_succ_cons,List.take_zero];repeat (gi_big_quiet_step (fail))
     refine wpQuietIn_nil ?_;intro w6 hw6;have HT6:Hid (Bt W1 base f wn.heap.size semi xs q q' c up' least' w6/\KeepsOthers W2 w6):=aQ (by obtain⟨nq,rfl⟩:=hw6;exact⟨HT5.out.drew nq,HK5.out.trans ⟨Nat.le_refl _,λ _ _ h _=>h⟩⟩);have u16:w6.cell? ⟨b0,m,none⟩=some (.int .i64 (a:Int)):=by obtain⟨nq,rfl⟩:=hw6;exact u15
     have z06:w6.frozen? ⟨b0,m,none⟩=false:=by obtain⟨nq,rfl⟩:=hw6;exact z05
     clear hw6 bx5 d05 u15 z05 u25
     gi_wp2
     have HT7:=Br.put0 HT6.out.1 HQ0.out (λ e=>by have:=hq3 0 (by decide) b0 (by rw[HQ0.out];rfl);omega) m ua;refine⟨HT6.out.2.trans (KeepsOthers.setCell _ _ _),?_,up'.set m ua,least',?_⟩
     ·have:=HT7.2.1.ch.size
      have:=HT6.out.2.size;omega
     ·have hbk:=HBK.out
      rw[HUA.out,if_neg (by omega)]at hbk;exact⟨⟨HT7.1,hbk.fo,HB.out.sb.sl,HB.out.sb.sh,HB.out.sb.wl⟩,HT7.2.1,hbk,HT7.2.2⟩
   case done =>
    intro D W2 hD hI hdef;obtain⟨hz,up',least',hB⟩:=hI;refine hKK _ _ ?_;have hcn:Bk G hi s L i up' least' []:=by have:=hB.bk;rwa [Nat.sub_self,List.take_zero]at this
    obtain⟨b,eb,hb1,hb2,hb3⟩:=hcn.done;have hbN:b<G.N:=by rw[HND.out];have:=hb2;unfold Anc at this;omega
    obtain⟨b0,b1,b2,q0,q1,q2,hc,_⟩:=hB.sb.cells (by omega);rw[HND.out]at hc;have bx:=HBX.out W2 q' hB.fk;have d2:=hc.d2;have x1:=hc.k2 i hi';rw[eb]at x1
    have HE:Hid (BP (.returned (.int .i64 (b:Int))) (W2.putObj D (.deferred none))):=aQ (by
     have hB3:=hB.grown (grownBy_putObj' W2 D (.deferred none)) (λ r e=>by cases e;omega) lfn hq3 szn hz;exact HBP.out _ b up' least' xs q' c hbN ⟨λ c=>by omega,λ _=>⟨hb1,hb2,hb3⟩⟩ hB3.sb (HPRE.out _ _ hB3.fk) HKP.out)
    clear hB hc q0 q1 q2 hcn eb;go_wp2_with fail
    refine⟨by simp,.inl ⟨_,_,rfl,run_takeDeferred hdef,?_⟩⟩;refine⟨_,results_tmp rfl _ _ _,?_⟩;show BP (.returned (.int .i64 (b:Int))) _;exact HE.out
theorem sbest_any{par:Nat->Nat}(T:Tr G par hi){base f L i:Nat}{W:World}{s:Nat->Nat}{up semi least way:List Int}{q:Nat->Option Addr}{c:Nat->Nat}(h:Sb base W f G hi s L up semi least way q c)(hi':i<G.N)(hN:G.N<=1048576)(hbase:base<=W.heap.size) :
  Calls Tryz.prog 136 #[.pointer (some ⟨f,0,none⟩),.int .i64 (i:Int)] W (BestP W base f G hi s L i semi q c):=by
 by_cases hL:i<L
 ·exact sbest_root h hi' hL hN
 ·exact sbest_link T h hi' (by omega) hN hbase
end Go.Proofs.YtkfahppdklecdaaGreatDoor.J
namespace Go.Proofs.YtkfahppdklecdaaGreatDoor.J
open Go.RowKit
open Dm
theorem own_chg{w W:World}{base size n:Nat}{e:TypeId}{v:Value}{xs:List Value}(h:w.ownsRow base e size v n xs)(hb:∀ k,v.ownBlock=some k->W.heap[k]?=w.heap[k]?):W.ownsRow base e size v n xs:=by
 obtain⟨h1,h2|⟨g,cap,cur,e1,e2,e3,e4⟩⟩:=h
 ·exact⟨h1,.inl h2⟩
 ·exact⟨h1,.inr ⟨g,cap,cur,e1,e2,(hb g (by rw[e1];rfl)).trans e3,e4⟩⟩
theorem Sr.chg{base b:Nat}{W W':World}{js:List Nat}{r:Nat->List Int}{q:Nat->Option Addr}{c:Nat->Nat}{X:Nat->Prop}(h:Sr base W b js r q c)(hc:Chg W.heap.size X W W')(hb:¬ X b)(hq:∀ j∈js,∀ k,(q j).map Addr.block=some k->¬ X k):Sr base W' b js r q c:=by
 have e:=hc.block b h.bl hb;refine⟨Nat.lt_of_lt_of_le h.bl hc.size,λ j=>(World.frozen?_of_block (a:=⟨b,j,none⟩) e).trans (h.fz j),λ j hj=>(World.cell?_of_block (a:=⟨b,j,none⟩) e).trans (h.cl j hj),λ j hj=>own_chg (h.own j hj) (λ k hk=>?_),h.ne,h.ap⟩;rw[aH]at hk;exact hc.block k (h.blk hj hk).2 (hq j hj k hk)
theorem Sr.drop{base b:Nat}{W:World}{js:List Nat}{r:Nat->List Int}{q:Nat->Option Addr}{c:Nat->Nat}(h:Sr base W b js r q c)(j:Nat):Sr base (W.setCell ⟨b,j,none⟩ (.slice none 0 0)) b js (up1 r j []) (up1 q j none) (up1 c j 0):=by
 refine⟨by simpa[World.setCell]using h.bl,λ o=>(World.frozen?_setCell ..).trans (h.fz o),λ k hk=>?_,λ k hk=>?_,λ k hk=>?_,λ k hk k' hk' hne=>?_⟩
 ·by_cases e:k=j
  ·subst e
   rw[cC,cC,cC];exact World.cell?_setCell_same _ _ _ (h.cl k hk)
  ·rw[bW _ _ _ e,bW _ _ _ e,bW _ _ _ e]
   refine(World.cell?_setCell_other _ _ _ _ (λ e2=>e ?_)).trans (h.cl k hk);have:=congrArg Addr.off e2;simpa using this.symm
 ·by_cases e:k=j
  ·subst e
   rw[cC,cC,cC];exact World.ownsRow_nil _ _ _ _
  ·rw[bW _ _ _ e,bW _ _ _ e,bW _ _ _ e]
   exact aP (a:=⟨b,j,none⟩) (h.own k hk) (by rw[aH];exact h.ne k hk)
 ·by_cases e:k=j
  ·subst e;rw[cC];simp
  ·rw[bW _ _ _ e];exact h.ne k hk
 ·by_cases e:k=j
  ·subst e;rw[cC];exact .inl rfl
  ·rw[bW _ _ _ e]
   by_cases e2:k'=j
   ·subst e2
    rw[cC];cases hq:q k with
    | none=>exact .inl rfl
    | some a=>exact .inr (by simp)
   ·rw[bW _ _ _ e2];exact h.ap k hk k' hk' hne
structure Mm(w W:World)(fb gw gr N:Nat)(semi up least way:List Int)(q:Nat->Option Addr)(c:Nat->Nat)(rw:Nat->List Int)(qw:Nat->Option Addr)(cw:Nat->Nat)(res:List Int):Prop where
 sf:Sr w.heap.size W fb FJ (fr up semi least way) q c
 sw:Sr w.heap.size W gw (List.range N) rw qw cw
 so:W.ownsRow w.heap.size 3 1 (.slice (some ⟨gr,0,none⟩) N N) N (aX res)
 bf:w.heap.size<=fb
 bw:w.heap.size<=gw
 n1:fb≠gw
 n2:fb≠gr
 n3:gw≠gr
 xf:∀ j∈FJ,∀ k,(q j).map Addr.block=some k->k≠gw/\k≠gr
 xw:∀ j∈List.range N,∀ k,(qw j).map Addr.block=some k->k≠fb/\k≠gr
 ap:∀ i∈FJ,∀ j∈List.range N,∀ k,(q i).map Addr.block=some k->(qw j).map Addr.block≠some k
 bl:Below w.heap.size w W
section
variable {w W W':World} {fb gw gr N:Nat} {semi up least way:List Int} {q:Nat->Option Addr} {c:Nat->Nat} {rw:Nat->List Int} {qw:Nat->Option Addr} {cw:Nat->Nat} {res:List Int}
theorem Mm.lo(h:Mm w W fb gw gr N semi up least way q c rw qw cw res):w.heap.size<=gr/\gr<W.heap.size:=h.so.lt gr rfl
theorem Mm.grown(h:Mm w W fb gw gr N semi up least way q c rw qw cw res)(hg:W.grownBy W' none):Mm w W' fb gw gr N semi up least way q c rw qw cw res :=
 ⟨h.sf.grown hg (by simp) (λ _ _ _ e=>by cases e),h.sw.grown hg (by simp) (λ _ _ _ e=>by cases e),h.so.kept hg (.inr (by simp[Value.ownBlock])),h.bf,h.bw,h.n1,h.n2,h.n3,h.xf,h.xw,h.ap,h.bl.grown hg h.bl.size (λ k e=>by cases e)⟩
theorem Mm.best(h:Mm w W fb gw gr N semi up least way q c rw qw cw res){up' least' way':List Int}{q':Nat->Option Addr}{c':Nat->Nat}(hk:Fk W W' fb q q')(hs:Sr w.heap.size W' fb FJ (fr up' semi least' way') q' c'):Mm w W' fb gw gr N semi up' least' way' q' c' rw qw cw res:=by
 have hlo:=h.lo;have lw:=h.sw.bl
 have nx:∀ k,(∀ j∈FJ,(q j).map Addr.block≠some k)->k≠fb->¬ (k=fb∨∃ j∈FJ,(q j).map Addr.block=some k):=λ k h1 h2 e=>by
  rcases e with e|⟨j,hj,e⟩
  ·exact h2 e
  ·exact h1 j hj e
 refine⟨hs,h.sw.chg hk.ch (nx gw (λ j hj e=>(h.xf j hj gw e).1 rfl) h.n1.symm) (λ j hj k e=>nx k (λ i hi e2=>h.ap i hi j hj k e2 e) (h.xw j hj k e).1),own_chg h.so (λ k e=>?_),h.bf,h.bw,h.n1,h.n2,h.n3,λ j hj k e=>?_,h.xw,λ i hi j hj k e=>?_,?_⟩
 ·have:gr=k:=by injection e
  subst this;exact hk.ch.block gr hlo.2 (nx gr (λ j hj e=>(h.xf j hj gr e).2 rfl) h.n2.symm)
 ·rcases hk.qs j hj with e1|⟨k',e1,e2⟩
  ·rw[e1]at e;exact h.xf j hj k e
  ·rw[e1]at e
   injection e with e
   omega
 ·rcases hk.qs i hi with e1|⟨k',e1,e2⟩
  ·rw[e1]at e;exact h.ap i hi j hj k e
  ·rw[e1]at e
   injection e with e
   intro e3;have:=(h.sw.blk hj e3).2;omega
 ·refine h.bl.trans (Chg.below hk.ch h.bl.size (λ k e=>?_))
  rcases e with e|⟨j,hj,e⟩
  ·rw[e];exact h.bf
  ·exact(h.sf.blk hj e).1
theorem Mm.setF(h:Mm w W fb gw gr N semi up least way q c rw qw cw res){j g:Nat}(hj:j∈FJ)(hq:q j=some ⟨g,0,none⟩)(i:Nat)(x:Int){semi' up' least':List Int}(he:up1 (fr up semi least way) j ((fr up semi least way j).set i x)=fr up' semi' least' way):Mm w (W.setCell ⟨g,i,none⟩ (.int .i64 x)) fb gw gr N semi' up' least' way q c rw qw cw res:=by
 have hs:=h.sf.set hj hq i x;rw[he]at hs;have hb:(q j).map Addr.block=some g:=by rw[hq];rfl
 have hx:=h.xf j hj g hb
 exact⟨hs,h.sw.grown (bC W ⟨g,i,none⟩ (.int .i64 x)) (λ e=>hx.1 (by injection e)) (λ k hk k' e e2=>by injection e with e;subst e;exact h.ap j hj k hk _ hb e2),aP (a:=⟨g,i,none⟩) h.so (λ e=>hx.2 (by injection e with e;exact e.symm)),
  h.bf,h.bw,h.n1,h.n2,h.n3,h.xf,h.xw,h.ap,h.bl.setCell (p:=⟨g,i,none⟩) (h.sf.blk hj hb).1 _⟩
theorem Mm.setR(h:Mm w W fb gw gr N semi up least way q c rw qw cw res)(i:Nat)(x:Int):Mm w (W.setCell ⟨gr,i,none⟩ (.int .i64 x)) fb gw gr N semi up least way q c rw qw cw (res.set i x):=by
 refine⟨h.sf.grown (bC W ⟨gr,i,none⟩ (.int .i64 x)) (λ e=>h.n2 (by injection e with e;exact e.symm)) (λ j hj k e e2=>by injection e with e;subst e;exact(h.xf j hj _ e2).2 rfl),h.sw.grown (bC W ⟨gr,i,none⟩ (.int .i64 x)) (λ e=>h.n3 (by injection e with e;exact e.symm)) (λ j hj k e e2=>by injection e with e;subst e;exact(h.xw j hj _ e2).2 rfl),?_,
  h.bf,h.bw,h.n1,h.n2,h.n3,h.xf,h.xw,h.ap,h.bl.setCell (p:=⟨gr,i,none⟩) h.lo.1 _⟩
 rw[<- intsV_set];exact(h.so.stored i _).1
theorem Mm.drop(h:Mm w W fb gw gr N semi up least way q c rw qw cw res)(j:Nat):Mm w (W.setCell ⟨gw,j,none⟩ (.slice none 0 0)) fb gw gr N semi up least way q c (up1 rw j []) (up1 qw j none) (up1 cw j 0) res:=by
 have hx:∀ i∈List.range N,∀ k,(up1 qw j none i).map Addr.block=some k->(qw i).map Addr.block=some k:=λ i _ k e=>by
  unfold up1 at e;split at e
  ·cases e
  ·exact e
 refine⟨h.sf.grown (bC W ⟨gw,j,none⟩ (.slice none 0 0)) (λ e=>h.n1 (by injection e with e;exact e.symm)) (λ i hi k e e2=>by injection e with e;subst e;exact(h.xf i hi _ e2).1 rfl),h.sw.drop j,aP (a:=⟨gw,j,none⟩) h.so (λ e=>h.n3 (by injection e with e;exact e.symm)),
  h.bf,h.bw,h.n1,h.n2,h.n3,h.xf,λ i hi k e=>h.xw i hi k (hx i hi k e),λ i hi j' hj' k e e2=>h.ap i hi j' hj' k e (hx j' hj' k e2),h.bl.setCell (p:=⟨gw,j,none⟩) h.bw _⟩
theorem Mm.app(h:Mm w W fb gw gr N semi up least way q c rw qw cw res){j n m c':Nat}{q':Option Addr}{l:List Int}(hj:j∈List.range N)(ho:W'.ownsRow w.heap.size 3 1 (.slice q' m c') l.length (aX l))(hm:m=l.length)
  (hg:W.grownBy W' (Value.slice (qw j) n (cw j)).ownBlock) (hb:(Value.slice q' m c').ownBlock=(Value.slice (qw j) n (cw j)).ownBlock∨(Value.slice q' m c').ownBlock=some W.heap.size):Mm w (W'.setCell ⟨gw,j,none⟩ (.slice q' m c')) fb gw gr N semi up least way q c (up1 rw j l) (up1 qw j q') (up1 cw j c') res:=by
 have hs:=h.sw.app hj ho hm hg hb;have hlo:=h.lo;have lw:=h.sw.bl;have lf:=h.sf.bl;rw[aH]at hg;rw[aH,aH]at hb;have hfW:Sr w.heap.size W' fb FJ (fr up semi least way) q c:=h.sf.grown hg (λ e=>(h.xw j hj fb e).1 rfl) (λ i hi k e e2=>h.ap i hi j hj k e2 e);have hoW:W'.ownsRow w.heap.size 3 1 (.slice (some ⟨gr,0,none⟩) N N) N (aX res):=h.so.kept hg (.inr (λ e=>(h.xw j hj gr (by rw[<- e];rfl)).2 rfl))
 have hq:∀ i∈List.range N,∀ k,(up1 qw j q' i).map Addr.block=some k->(qw i).map Addr.block=some k∨k=W.heap.size:=λ i _ k e=>by
  unfold up1 at e;split at e
  ·rename_i ei
   subst ei;rcases hb with d|d
   ·rw[d]at e;exact .inl e
   ·rw[d]at e;injection e with e;exact .inr e.symm
  ·exact .inl e
 refine⟨hfW.grown (bC W' ⟨gw,j,none⟩ (.slice q' m c')) (λ e=>h.n1 (by injection e with e;exact e.symm)) (λ i hi k e e2=>by injection e with e;subst e;exact(h.xf i hi _ e2).1 rfl),hs,aP (a:=⟨gw,j,none⟩) hoW (λ e=>h.n3 (by injection e with e;exact e.symm)),
  h.bf,h.bw,h.n1,h.n2,h.n3,h.xf,λ i hi k e=>?_,λ i hi j' hj' k e e2=>?_,(h.bl.grown hg h.bl.size (λ k e=>(h.sw.blk hj e).1)).setCell (p:=⟨gw,j,none⟩) h.bw _⟩
 ·rcases hq i hi k e with d|d
  ·exact h.xw i hi k d
  ·omega
 ·rcases hq j' hj' k e2 with d|d
  ·exact h.ap i hi j' hj' k e d
  ·have:=(h.sf.blk hi e).2
   omega
end
end Go.Proofs.YtkfahppdklecdaaGreatDoor.J
