import Derived.Below
import Derived.Test.YtkfahppdklecdaaGreatDoorAA
import Derived.Test.YtkfahppdklecdaaGreatDoorProg
import Derived.WalkKit
import Derived.WalkSpells
import Derived.WalkLawsBesides
import Derived.BigQuiet
import Derived.Deep.QuietTactic
import Derived.IntWalk
import Derived.Deep.RegionWith
import Derived.Deep.OwnRows
import Derived.Laws.CopyOwn
import Derived.Maps.AppendAt
import Derived.Laws.OwnMore
import Derived.Deep.LoopGhost
set_option maxRecDepth 100000
set_option maxHeartbeats 16000000
namespace Go.Proofs.YtkfahppdklecdaaGreatDoor.J
namespace Dm
structure Dg where
 N:Nat
 e:Nat->Nat->Prop
 lt:∀ i j,e i j->j<N
variable {G:Dg}
inductive Dg.Av(G:Dg)(S:Nat->Prop):Nat->Prop
 | zero:0<G.N->¬ S 0->Dg.Av G S 0
 | step {i j:Nat}:Dg.Av G S i->G.e i j->¬ S j->Dg.Av G S j
inductive Dg.Fr(G:Dg)(S:Nat->Prop)(s:Nat):Nat->Prop
 | here:Dg.Fr G S s s
 | step {i j:Nat}:Dg.Fr G S s i->G.e i j->¬ S j->Dg.Fr G S s j
def Dg.R(G:Dg)(b:Nat):Prop:=G.Av (λ _=>False) b
def Dg.W(G:Dg)(a b:Nat):Prop:=G.Av (λ x=>x=a) b
theorem Dg.Av.lt{S:Nat->Prop}{b:Nat}(h:G.Av S b):b<G.N:=by
 cases h with
 | zero h _=>exact h
 | step _ h _=>exact G.lt _ _ h
theorem Dg.Av.no{S:Nat->Prop}{b:Nat}(h:G.Av S b):¬ S b:=by
 cases h with
 | zero _ h=>exact h
 | step _ _ h=>exact h
theorem Dg.Av.mono{S T:Nat->Prop}(h:∀ x,T x->S x){b:Nat}(hb:G.Av S b):G.Av T b:=by
 induction hb with
 | zero h0 h1=>exact .zero h0 (λ c=>h1 (h _ c))
 | step _ he h1 ih=>exact .step ih he (λ c=>h1 (h _ c))
theorem Dg.Av.on{S:Nat->Prop}{s b:Nat}(hs:G.Av S s)(h:G.Fr S s b):G.Av S b:=by
 induction h with
 | here=>exact hs
 | step _ he h1 ih=>exact .step ih he h1
theorem Dg.W.r{a b:Nat}(h:G.W a b):G.R b:=Dg.Av.mono (λ _ c=>c.elim) h
theorem Dg.R.lt{b:Nat}(h:G.R b):b<G.N:=Dg.Av.lt h
def Dg.D(G:Dg)(a b:Nat):Prop:=G.R a/\G.R b/\(a=b∨¬ G.W a b)
theorem Dg.D.self{a:Nat}(h:G.R a):G.D a a:=⟨h,h,.inl rfl⟩
theorem Dg.out_or{S:Nat->Prop}{c:Nat}(h:G.Av S c)(b:Nat):G.W b c∨G.Av S b:=by
 induction h with
 | zero h0 h1 =>
  by_cases e:0=b
  ·subst e;exact .inr (.zero h0 h1)
  ·exact .inl (.zero h0 e)
 | @step i j hi he h1 ih =>
  rcases ih with ih|ih
  ·by_cases e:j=b
   ·subst e;exact .inr (.step hi he h1)
   ·exact .inl (.step ih he e)
  ·exact .inr ih
theorem Dg.D.trans{a b c:Nat}(h1:G.D a b)(h2:G.D b c):G.D a c:=by
 obtain⟨ha,hb,h1⟩:=h1;obtain⟨_,hc,h2⟩:=h2;refine⟨ha,hc,?_⟩;rcases h1 with rfl|h1
 ·exact h2
 ·rcases h2 with rfl|h2
  ·exact .inr h1
  ·right
   intro h;rcases Dg.out_or h b with k|k
   ·exact h2 k
   ·exact h1 k
theorem Dg.first{a b c:Nat}(hc:G.R c)(hab:a≠b):G.W a b∨G.W b a∨G.Av (λ x=>x=a∨x=b) c:=by
 induction hc with
 | zero h0 _ =>
  by_cases ea:0=a
  ·subst ea;exact .inr (.inl (.zero h0 (λ e=>hab e)))
  ·by_cases eb:0=b
   ·subst eb;exact .inl (.zero h0 (λ e=>hab e.symm))
   ·exact .inr (.inr (.zero h0 (λ c=>c.elim ea eb)))
 | @step i j hi he _ ih =>
  rcases ih with ih|ih|ih
  ·exact .inl ih
  ·exact .inr (.inl ih)
  ·by_cases ea:j=a
   ·subst ea
    exact .inr (.inl (.step (Dg.Av.mono (λ _ c=>.inr c) ih) he (λ e=>hab e)))
   ·by_cases eb:j=b
    ·subst eb
     exact .inl (.step (Dg.Av.mono (λ _ c=>.inl c) ih) he (λ e=>hab e.symm))
    ·exact .inr (.inr (.step ih he (λ c=>c.elim ea eb)))
theorem Dg.D.anti{a b:Nat}(h1:G.D a b)(h2:G.D b a):a=b:=by
 obtain⟨ha,hb,h1⟩:=h1;obtain⟨_,_,h2⟩:=h2;rcases h1 with e|h1
 ·exact e
 ·rcases h2 with e|h2
  ·exact e.symm
  ·exact Classical.byContradiction λ hab=>by
    rcases Dg.first ha hab with k|k|k
    ·exact h1 k
    ·exact h2 k
    ·exact k.no (.inl rfl)
theorem Dg.latest{a b c:Nat}(hc:G.R c):G.Av (λ x=>x=a∨x=b) c∨G.Fr (λ x=>x=b) a c∨G.Fr (λ x=>x=a) b c:=by
 induction hc with
 | zero h0 _ =>
  by_cases ea:0=a
  ·subst ea;exact .inr (.inl .here)
  ·by_cases eb:0=b
   ·subst eb;exact .inr (.inr .here)
   ·exact .inl (.zero h0 (λ c=>c.elim ea eb))
 | @step i j hi he _ ih =>
  by_cases ea:j=a
  ·subst ea;exact .inr (.inl .here)
  ·by_cases eb:j=b
   ·subst eb;exact .inr (.inr .here)
   ·rcases ih with ih|ih|ih
    ·exact .inl (.step ih he (λ c=>c.elim ea eb))
    ·exact .inr (.inl (.step ih he eb))
    ·exact .inr (.inr (.step ih he ea))
theorem Dg.D.row{a b c:Nat}(h1:G.D a c)(h2:G.D b c):G.D a b∨G.D b a:=by
 obtain⟨ha,hc,h1⟩:=h1;obtain⟨hb,_,h2⟩:=h2;rcases h1 with rfl|h1
 ·exact .inr ⟨hb,ha,h2⟩
 ·rcases h2 with rfl|h2
  ·exact .inl ⟨ha,hb,.inr h1⟩
  ·by_cases w1:G.W a b
   ·by_cases w2:G.W b a
    ·exfalso
     rcases Dg.latest (a:=a) (b:=b) hc with k|k|k
     ·exact h1 (Dg.Av.mono (λ _ e=>.inl e) k)
     ·exact h2 (Dg.Av.on w2 k)
     ·exact h1 (Dg.Av.on w1 k)
    ·exact .inr ⟨hb,ha,.inr w2⟩
   ·exact .inl ⟨ha,hb,.inr w1⟩
theorem Dg.w0{b:Nat}:¬ G.W 0 b:=by
 intro h
 induction h with
 | zero _ h=>exact h rfl
 | step _ _ _ ih=>exact ih
theorem Dg.r0{b:Nat}(h:G.R b):G.R 0:=by
 induction h with
 | zero h0 h1=>exact .zero h0 h1
 | step _ _ _ ih=>exact ih
theorem Dg.d0{b:Nat}(h:G.R b):G.D 0 b:=⟨Dg.r0 h,h,.inr Dg.w0⟩
structure Dg.I(G:Dg)(b a:Nat):Prop where
 ne:a≠b
 d:G.D a b
 top:∀ x,x≠b->G.D x b->G.D x a
theorem Dg.I.one{b a a':Nat}(h:G.I b a)(h':G.I b a'):a=a':=(h'.top a h.ne h.d).anti (h.top a' h'.ne h'.d)
def Dg.Best(G:Dg)(b k:Nat)(best:Int):Prop :=
 (best = -1/\∀ x,x<k->x≠b->¬ G.D x b)∨∃ a:Nat,best=(a:Int)/\a<k/\a≠b/\G.D a b/\∀ x,x<k->x≠b->G.D x b->G.D x a
theorem Dg.Best.start(b:Nat):G.Best b 0 (-1):=.inl ⟨rfl,λ _ h=>absurd h (Nat.not_lt_zero _)⟩
theorem Dg.Best.no{b k:Nat}{best:Int}(h:G.Best b k best)(hk:¬ (k≠b/\G.D k b)):G.Best b (k+1) best:=by
 rcases h with ⟨e,h⟩|⟨a,e,h1,h2,h3,h4⟩
 ·refine .inl ⟨e,λ x hx hb hd=>?_⟩
  by_cases c:x=k
  ·subst c;exact hk ⟨hb,hd⟩
  ·exact h x (by omega) hb hd
 ·refine .inr ⟨a,e,by omega,h2,h3,λ x hx hb hd=>?_⟩
  by_cases c:x=k
  ·subst c;exact absurd ⟨hb,hd⟩ hk
  ·exact h4 x (by omega) hb hd
theorem Dg.Best.keep{b k a:Nat}(h:G.Best b k (a:Int))(hn:¬ G.D a k):G.Best b (k+1) (a:Int):=by
 rcases h with ⟨e,_⟩|⟨a',e,h1,h2,h3,h4⟩
 ·omega
 ·obtain rfl:a=a':=by omega
  refine .inr ⟨a,rfl,by omega,h2,h3,λ x hx hb hd=>?_⟩;by_cases c:x=k
  ·subst c
   rcases Dg.D.row h3 hd with r|r
   ·exact absurd r hn
   ·exact r
  ·exact h4 x (by omega) hb hd
theorem Dg.Best.first{b k:Nat}(h:G.Best b k (-1))(hb:k≠b)(hd:G.D k b):G.Best b (k+1) (k:Int):=by
 rcases h with ⟨_,h⟩|⟨a,e,_⟩
 ·refine .inr ⟨k,rfl,by omega,hb,hd,λ x hx hxb hxd=>?_⟩
  by_cases c:x=k
  ·subst c;exact Dg.D.self hxd.1
  ·exact absurd hxd (h x (by omega) hxb)
 ·omega
theorem Dg.Best.new{b k a:Nat}(h:G.Best b k (a:Int))(hb:k≠b)(hd:G.D k b)(hk:G.D a k):G.Best b (k+1) (k:Int):=by
 rcases h with ⟨e,_⟩|⟨a',e,h1,h2,h3,h4⟩
 ·omega
 ·obtain rfl:a=a':=by omega
  refine .inr ⟨k,rfl,by omega,hb,hd,λ x hx hxb hxd=>?_⟩;by_cases c:x=k
  ·subst c;exact Dg.D.self hxd.1
  ·exact(h4 x (by omega) hxb hxd).trans hk
def Dg.Up(G:Dg)(b:Nat)(v:Int):Prop:=(v = -1/\∀ x,x≠b->¬ G.D x b)∨∃ a:Nat,v=(a:Int)/\G.I b a
theorem Dg.Best.done{b:Nat}{v:Int}(h:G.Best b G.N v):G.Up b v:=by
 rcases h with ⟨e,h⟩|⟨a,e,_,h2,h3,h4⟩
 ·exact .inl ⟨e,λ x hx hd=>h x hd.1.lt hx hd⟩
 ·exact .inr ⟨a,e,h2,h3,λ x hx hd=>h4 x hd.1.lt hx hd⟩
theorem Dg.Up.one{b:Nat}{v v':Int}(h:G.Up b v)(h':G.Up b v'):v=v':=by
 rcases h with ⟨e,h⟩|⟨a,e,h⟩
 ·rcases h' with ⟨e',_⟩|⟨a',_,h'⟩
  ·rw[e,e']
  ·exact absurd h'.d (h _ h'.ne)
 ·rcases h' with ⟨_,h'⟩|⟨a',e',h'⟩
  ·exact absurd h.d (h' _ h.ne)
  ·rw[e,e',h.one h']
theorem Dg.Up.range{b:Nat}{v:Int}(h:G.Up b v):-1<=v/\v<(G.N:Int):=by
 rcases h with ⟨rfl,_⟩|⟨a,rfl,h⟩
 ·omega
 ·have:=h.d.1.lt;omega
open Classical in
noncomputable def Dg.dn(G:Dg)(b:Nat):Nat:=((List.range G.N).filter λ a=>decide (G.D a b)).length
theorem Dg.dn_le(b:Nat):G.dn b<=G.N:=by
 classical
 unfold Dg.dn;have:=List.length_filter_le (λ a=>decide (G.D a b)) (List.range G.N);rw[List.length_range]at this;exact this
theorem filter_lt{p q:Nat->Bool}:∀ {l:List Nat},(∀ x∈l,p x=true->q x=true)->(∃ x∈l,q x=true/\p x=false)->(l.filter p).length<(l.filter q).length
 | [],_,⟨x,hx,_⟩=>by cases hx
 | y :: l,h,⟨x,hx,hq,hp⟩=>by
  have hle:(l.filter p).length<=(l.filter q).length:=by
   have:∀ m:List Nat,(∀ x∈m,p x=true->q x=true)->(m.filter p).length<=(m.filter q).length:=by
    intro m
    induction m with
    | nil=>intro _;exact Nat.le_refl _
    | cons z m ih =>
     intro hm;have ih':=ih (λ x hx=>hm x (List.mem_cons_of_mem _ hx));cases hz:p z with
     | true =>
      rw[List.filter_cons_of_pos hz,List.filter_cons_of_pos (hm z (List.mem_cons_self ..) hz)];simp only[List.length_cons];omega
     | false =>
      rw[List.filter_cons_of_neg (by rw[hz];simp)];cases hq:q z with
      | true=>rw[List.filter_cons_of_pos hq];simp only[List.length_cons];omega
      | false=>rw[List.filter_cons_of_neg (by rw[hq];simp)];exact ih'
   exact this l (λ x hx=>h x (List.mem_cons_of_mem _ hx))
  rcases List.mem_cons.1 hx with e|hx'
  ·subst e
   rw[List.filter_cons_of_neg (by rw[hp];simp),List.filter_cons_of_pos hq];simp only[List.length_cons];omega
  ·have ih:=filter_lt (l:=l) (λ x hx=>h x (List.mem_cons_of_mem _ hx)) ⟨x,hx',hq,hp⟩
   cases hz:p y with
   | true =>
    rw[List.filter_cons_of_pos hz,List.filter_cons_of_pos (h y (List.mem_cons_self ..) hz)];simp only[List.length_cons];omega
   | false =>
    rw[List.filter_cons_of_neg (by rw[hz];simp)];cases hq:q y with
    | true=>rw[List.filter_cons_of_pos hq];simp only[List.length_cons];omega
    | false=>rw[List.filter_cons_of_neg (by rw[hq];simp)];exact ih
theorem Dg.dn_lt{b a:Nat}(h:G.I b a):G.dn a<G.dn b:=by
 classical
 unfold Dg.dn;refine filter_lt (λ x _ hx=>?_) ⟨b,List.mem_range.2 h.d.2.1.lt,?_,?_⟩
 ·exact decide_eq_true ((of_decide_eq_true hx).trans h.d)
 ·exact decide_eq_true (Dg.D.self h.d.2.1)
 ·refine decide_eq_false (λ c=>h.ne (h.d.anti c))
end Dm
end Go.Proofs.YtkfahppdklecdaaGreatDoor.J
namespace Go.Proofs.YtkfahppdklecdaaGreatDoor.J
namespace Dm
def gD(N:Nat)(su:Nat->List Int):Dg:={ N:=N,e:=λ i j=>i<N/\(j:Int)∈su i/\j<N,lt:=λ _ _ h=>h.2.2 }
theorem getD_set_t(l:List Bool)(i j:Nat):(l.set i true).getD j false=(decide (j=i/\i<l.length) || l.getD j false):=by
 rw[List.getD_eq_getElem?_getD,List.getD_eq_getElem?_getD,List.getElem?_set];by_cases e:i=j
 ·subst e
  by_cases h:i<l.length
  ·simp[h]
  ·rw[if_pos rfl,if_neg h,List.getElem?_eq_none (by omega)];simp[h]
 ·rw[if_neg e]
  have:¬ (j=i/\i<l.length):=λ c=>e c.1.symm
  simp[this]
theorem Dg.D.before{G:Dg}{a p x:Nat}(hp:G.R p)(he:G.e p x)(h:G.D a x)(hne:a≠x):G.D a p:=by
 obtain⟨ha,hx,h⟩:=h;refine⟨ha,hp,?_⟩;rcases h with e|h
 ·exact absurd e hne
 ·right
  intro hw;exact h (.step hw he (λ e=>hne e.symm))
theorem rep_get(N i:Nat):(List.replicate N false).getD i false=false:=by
 rw[List.getD_eq_getElem?_getD,List.getElem?_replicate];split <;> rfl
end Dm
end Go.Proofs.YtkfahppdklecdaaGreatDoor.J
namespace Go.Proofs.YtkfahppdklecdaaGreatDoor.J
namespace Dm
def gL(g:List (List Int)):Dg:=gD g.length (λ i=>g.getD i [])
theorem gL_e{g:List (List Int)}{i j:Nat}:(gL g).e i j↔i<g.length/\(j:Int)∈g.getD i []/\j<g.length:=Iff.rfl
open Classical in
noncomputable def domB(g:List (List Int))(a b:Int):Bool:=decide (0<=a/\0<=b/\(gL g).D a.toNat b.toNat)
theorem up_some(G:Dg)(b:Nat):∃ v,G.Up b v:=by
 have:∀ k,∃ v,G.Best b k v:=by
  intro k
  induction k with
  | zero=>exact⟨-1,Dg.Best.start b⟩
  | succ k ih =>
   obtain⟨v,h⟩:=ih;by_cases hk:k≠b/\G.D k b
   ·rcases h with ⟨rfl,h⟩|⟨a,rfl,h⟩
    ·exact⟨_,Dg.Best.first (.inl ⟨rfl,h⟩) hk.1 hk.2⟩
    ·have h':G.Best b k (a:Int):=.inr ⟨a,rfl,h⟩
     by_cases hd:G.D a k
     ·exact⟨_,h'.new hk.1 hk.2 hd⟩
     ·exact⟨_,h'.keep hd⟩
   ·exact⟨v,h.no hk⟩
 obtain⟨v,h⟩:=this G.N;exact⟨v,h.done⟩
noncomputable def upv(G:Dg)(b:Nat):Int:=(up_some G b).choose
theorem upv_up(G:Dg)(b:Nat):G.Up b (upv G b):=(up_some G b).choose_spec
theorem upv_is{G:Dg}{b:Nat}{v:Int}(h:G.Up b v):v=upv G b:=h.one (upv_up G b)
theorem upv_no{G:Dg}{b:Nat}(h:¬ G.R b):upv G b = -1:=by
 rcases upv_up G b with ⟨e,_⟩|⟨a,_,hi⟩
 ·exact e
 ·exact absurd hi.d.2.1 h
noncomputable def idomL(g:List (List Int)):List Int:=(List.range g.length).map (upv (gL g))
def Dg.F(G:Dg)(a b:Nat):Prop:=G.R a/\G.R b/\(∃ x,G.D a x/\G.e x b)/\(a=b∨¬ G.D a b)
open Classical in
noncomputable def frontR(g:List (List Int))(a:Nat):List Int:=((List.range g.length).filter λ b=>decide ((gL g).F a b)).map Int.ofNat
noncomputable def frontL(g:List (List Int)):List (List Int):=(List.range g.length).map (frontR g)
theorem dN{β:Type}(f:Nat->β)(d:β)(N i:Nat)(h:i<N):((List.range N).map f).getD i d=f i:=by
 rw[List.getD_eq_getElem?_getD,List.getElem?_map,List.getElem?_range h];rfl
theorem idomL_len(g:List (List Int)):(idomL g).length=g.length:=by simp[idomL]
theorem idomL_at{g:List (List Int)}{b:Nat}(h:b<g.length):(idomL g).getD b 0=upv (gL g) b:=by
 unfold idomL;rw[List.getD_eq_getElem?_getD,List.getElem?_map,List.getElem?_range h];rfl
theorem domB_iff{g:List (List Int)}{a b:Nat}:domB g (a:Int) (b:Int)=true↔(gL g).D a b:=by
 classical
 unfold domB;rw[decide_eq_true_eq,Int.toNat_natCast,Int.toNat_natCast];exact⟨λ h=>h.2.2,λ h=>⟨by omega,by omega,h⟩⟩
end Dm
end Go.Proofs.YtkfahppdklecdaaGreatDoor.J
namespace Go.Proofs.YtkfahppdklecdaaGreatDoor.J
open Go.RowKit
theorem dG{w w1 w2:World}(h:Below w.heap.size w w1)(h2:Below w1.heap.size w1 w2):Below w.heap.size w w2 :=
 h.trans (h2.mono h.size)
theorem dL(w:World)(o:Obj):(w.alloc o).heap[w.heap.size]?=some o:=by
 show(w.heap.push o)[w.heap.size]?=_;simp
theorem below_drewN{B:Nat}{a w:World}(h:Below B a w)(n:Nat):Below B a (w.drewN n):=⟨h.os,h.tape,h.output,h.size,h.block⟩
theorem aJ(w:World){cs:Array Value}{t:TypeId}{fr:Nat×Nat}{i:Nat}{v:Value}(h:cs[i]?=some v):(w.alloc (.cells cs t fr)).cell? ⟨w.heap.size,i,none⟩=some v:=by
 simp only[World.cell?,dL];exact h
theorem own_below{w w':World}{B:Nat}{e:TypeId}{size n:Nat}{v:Value}{xs:List Value}(h:w.ownsRow B e size v n xs)(hb:Below w.heap.size w w'):w'.ownsRow B e size v n xs:=by
 obtain⟨hl,h|⟨g,cap,cur,hv,hg,hh,h1,h2,h3,h4⟩⟩:=h
 ·exact⟨hl,.inl h⟩
 ·exact⟨hl,.inr ⟨g,cap,cur,hv,hg,(hb.block g (Array.getElem?_eq_some_iff.1 hh).1).trans hh,h1,h2,h3,h4⟩⟩
structure NumsAt(k:IntKind)(w:World)(q:Option Addr)(xs:List Int):Prop where
 small:xs.length<=140737488351232
 cells:∀ i,i<xs.length->∃ b off,q=some ⟨b,off,none⟩/\b<w.heap.size/\w.cell? ⟨b,off+i,none⟩=some (.int k (xs.getD i 0))
theorem NumsAt.below{k:IntKind}{w w':World}{q:Option Addr}{l:List Int}(h:NumsAt k w q l)(hb:Below w.heap.size w w'):NumsAt k w' q l :=
 ⟨h.small,λ i hi=>by
  obtain⟨b,off,hp,hbl,h0⟩:=h.cells i hi;exact⟨b,off,hp,Nat.lt_of_lt_of_le hbl hb.size,(hb.cell (p:=⟨b,off+i,none⟩) hbl).trans h0⟩⟩
theorem bH{k:IntKind}(w:World)(t:TypeId)(xs:List Int)(cs:Array Value)(hc:cs=(xs.map (Value.int k)).toArray)(hs:xs.length<=4096):NumsAt k (w.alloc (.cells cs t)) (some ⟨w.heap.size,0,none⟩) xs :=
 ⟨by omega,λ j hj=>⟨_,_,rfl,by simp,aJ w (by subst hc;simp[hj])⟩⟩
theorem b1{w:World}{o:Obj}:Below w.heap.size w (w.alloc o):=(Below.refl _ _).alloc (Nat.le_refl _) _
theorem b2{w:World}{o1 o2:Obj}:Below w.heap.size w ((w.alloc o1).alloc o2):=b1.alloc (by simp) _
def aX(l:List Int):List Value:=l.map (Value.int .i64)
theorem gR(l:List Int):(aX l).length=l.length*1:=by simp[aX]
theorem intsV_one(l:List Int):∀ u∈aX l,u.oneCell'=true:=by
 intro u hu;obtain⟨k,_,rfl⟩:=List.mem_map.1 hu;rfl
theorem intsV_app(l m:List Int):aX (l ++ m)=aX l ++ aX m:=List.map_append ..
theorem cD{l:List Int}{i:Nat}(h:i<l.length):(aX l)[i]?=some (.int .i64 (l.getD i 0)):=by
 simp[aX,List.getElem?_eq_getElem h,List.getD]
theorem ints_src{W:World}{b off:Nat}{l:List Int}(h:NumsAt .i64 W (some ⟨b,off,none⟩) l):∀ j u,(aX l)[j]?=some u->W.cell? ((⟨b,off,none⟩:Addr).add j)=some u:=by
 intro j u hj;have hl:j<l.length:=by simpa[aX]using(List.getElem?_eq_some_iff.1 hj).1
 obtain⟨b',off',hq,_,e0⟩:=h.cells j hl;obtain⟨rfl,rfl⟩:b=b'/\off=off':=by injection hq with hq;injection hq with h1 h2;exact⟨h1,h2⟩
 have ea:(⟨b,off,none⟩:Addr).add j=⟨b,off+j,none⟩:=by
  unfold Addr.add;by_cases h0:j=0
  ·subst h0;rfl
  ·rw[if_neg h0]
 rw[ea,e0,<- cD hl];exact hj
theorem infoInt:(Tryz.prog.info? 3).map (λ i=>(i.zero,i.size,i.bytes))=some (some (.int .i64 0),1,8):=by kernel_rfl
theorem eX:(Tryz.prog.info? 4).map (λ i=>(i.zero,i.size,i.bytes))=some (some (.bool false),1,1):=by kernel_rfl
theorem app_ints{w:World}{base:Nat}{q:Option Addr}{xs l:List Int}{v:Value}(h1:w.ownsRow base 3 1 v l.length (aX l))(hs:NumsAt .i64 w q xs)(hb:base<=w.heap.size)(hm:l.length+xs.length<=1099511627776)(c:Nat) :
  ∃ v' w',(Builtin.append_ #[34,34] 34 #[v,.slice q xs.length c]).run Tryz.prog w=.ok v' w'/\w'.ownsRow base 3 1 v' (l ++ xs).length (aX (l ++ xs))/\w.grownBy w' v.ownBlock/\(v'.ownBlock=v.ownBlock∨v'.ownBlock=some w.heap.size):=by
 obtain⟨i5,h5,g5,s5,b5⟩:=info_parts infoInt;cases q with
 | none =>
  have e:xs=[]:=by
   cases xs with
   | nil=>rfl
   | cons x ys=>obtain⟨_,_,e,_⟩:=hs.cells 0 (by simp);cases e
  subst e
  have hr:(Builtin.append_ #[34,34] 34 #[v,.slice none 0 c]).run Tryz.prog w=.ok v w:=by
   rcases h1.2 with ⟨rfl,_⟩|⟨g,cap,cur,rfl,_,_,hnc,_⟩
   ·simp[Builtin.append_,run_underlying Tryz.underlying34,sizeOf,typeInfo,h5,Builtin.lenOf,Builtin.firstCells]
   ·simp[Builtin.append_,run_underlying Tryz.underlying34,sizeOf,typeInfo,h5,Builtin.lenOf,Builtin.firstCells,storeCells,hnc]
  refine⟨v,w,hr,?_,⟨rfl,rfl,rfl,Nat.le_refl _,λ _ _ _=>rfl⟩,.inl rfl⟩;rw[List.append_nil];exact h1
 | some ad =>
  have hsp:∃ b off,ad=⟨b,off,none⟩∨xs=[]:=by
   cases xs with
   | nil=>exact⟨0,0,.inr rfl⟩
   | cons x xs=>obtain⟨b,off,e,_⟩:=hs.cells 0 (by simp);injection e with e;exact⟨b,off,.inl e⟩
  have hsrc:∀ j u,(aX xs)[j]?=some u->w.cell? (ad.add j)=some u:=by
   obtain⟨b,off,rfl|rfl⟩:=hsp
   ·exact ints_src hs
   ·intro j u hj;simp[aX]at hj
  obtain⟨v',w',hrun,r1,r2,_,r4⟩:=run_append_own_at (P:=Tryz.prog) w base 34 34 3 i5 _ 1 8 Tryz.underlying34 h5 g5 s5 b5 rfl (by decide) v l.length (aX l) h1 ad xs.length c (aX xs) (gR xs) hsrc (intsV_one xs) (by simp only[maxLen];omega) (by omega) hb;rw[<- List.length_append,<- intsV_app]at r1;exact⟨v',w',hrun,r1,r2,r4⟩
theorem aZ{w:World}{ops:Array Oper}{rest:List Oper}{o:Oper}{a:Act}{Q:Exit->Act->World->Prop}(hg:o.guard=none)(s x:Operand)(hop:o.op=Op.call { callee:=Callee.builtin Builtin.append,args:=#[s,x],argTypes:=#[34,34] })(hty:o.type=34)
  (base:Nat) (q:Option Addr) (xs l:List Int) (v:Value) (n c:Nat) (hn:xs.length=n) (hs:a.eval s=v) (hx:a.eval x=.slice q n c) (h1:w.ownsRow base 3 1 v l.length (aX l)) (hN:NumsAt .i64 w q xs) (hb:base<=w.heap.size) (hm:l.length+xs.length<=1099511627776)
  (hK:∀ v' w',w'.ownsRow base 3 1 v' (l ++ xs).length (aX (l ++ xs))->w.grownBy w' v.ownBlock->(v'.ownBlock=v.ownBlock∨v'.ownBlock=some w.heap.size)->wpList Tryz.prog ops Q rest (a.put o.dst v') w') :
  wpList Tryz.prog ops Q (o :: rest) a w:=by
 subst hn;refine wpList_plain hg λ K hK'=>?_
 obtain⟨v',w',hrun,r1,r2,r3⟩:=app_ints h1 hN hb hm c;unfold Oper.wp;simp[execOp,hop,resolve,invoke,builtin,hs,hx,hty,hrun,Result.andThen];exact hK' _ _ (hK v' w' r1 r2 r3)
theorem own_pop{w:World}{base g cap:Nat}{l:List Int}{x:Int}{e:TypeId}(h:w.ownsRow base e 1 (.slice (some ⟨g,0,none⟩) (l ++ [x]).length cap) (l ++ [x]).length (aX (l ++ [x]))) :
  w.ownsRow base e 1 (.slice (some ⟨g,0,none⟩) l.length cap) l.length (aX l)/\w.cell? ⟨g,l.length,none⟩=some (.int .i64 x)/\l.length<cap:=by
 have hc:=h.cellAt l.length (by simp);have hv:(aX (l ++ [x]))[l.length]?=some (.int .i64 x):=by simp[aX]
 refine⟨?_,hc.trans hv,?_⟩
 ·refine⟨gR l,.inr ?_⟩
  rcases h.2 with ⟨h',_⟩|⟨g',cap',cur,h',hb,hg,h1,h2,h3,h4⟩
  ·cases h'
  ·simp only[Value.slice.injEq,Option.some.injEq,Addr.mk.injEq,and_true,true_and]at h'
   obtain⟨rfl,rfl⟩:=h';refine⟨g,cap,cur,rfl,hb,hg,by simp at h1;omega,h2,h3,?_⟩;have:=congrArg (List.take l.length) h4;rw[List.take_take]at this;simp[aX]at this;simpa[aX]using this
 ·rcases h.2 with ⟨h',_⟩|⟨g',cap',cur,h',hb,hg,h1,h2,h3,h4⟩
  ·cases h'
  ·simp only[Value.slice.injEq,Option.some.injEq,Addr.mk.injEq,and_true,true_and]at h'
   obtain⟨rfl,rfl⟩:=h';simp at h1;omega
theorem dZ{w:World}{base n:Nat}{e:TypeId}{v:Value}{xs:List Value}(h:w.ownsRow base e 1 v n xs)(hn:0<n):∃ g cap,v=.slice (some ⟨g,0,none⟩) n cap/\base<=g/\g<w.heap.size:=by
 rcases h.2 with ⟨_,h0⟩|⟨g,cap,cur,hv,hb,hg,_⟩
 ·omega
 ·exact⟨g,cap,hv,hb,(Array.getElem?_eq_some_iff.1 hg).1⟩
theorem cA{w:World}{base c:Nat}{q:Option Addr}{l:List Int}(h:w.ownsRow base 3 1 (.slice q l.length c) l.length (aX l))(hs:l.length<=140737488351232):NumsAt .i64 w q l:=by
 refine⟨hs,λ i hi=>?_⟩;obtain⟨g,cap,e,_,hg⟩:=dZ h (by omega);injection e with e1 e2 e3
 subst e1;exact⟨g,0,rfl,hg,by rw[Nat.zero_add,h.cellAt i (by omega)];exact cD hi⟩
structure Rb(W:World)(g:Nat)(l:List Bool):Prop where
 lt:g<W.heap.size
 cell:∀ i,i<l.length->W.cell? ⟨g,i,none⟩=some (.bool (l.getD i false))
 fr:∀ j,W.frozen? ⟨g,j,none⟩=false
theorem Rb.next{W W':World}{g:Nat}{l:List Bool}(h:Rb W g l)(hb:Below W.heap.size W W'):Rb W' g l :=
 ⟨Nat.lt_of_lt_of_le h.lt hb.size,λ i hi=>(hb.cell (p:=⟨g,i,none⟩) h.lt).trans (h.cell i hi),λ j=>(hb.frozen (p:=⟨g,j,none⟩) h.lt).trans (h.fr j)⟩
theorem Rb.grown{W W':World}{g:Nat}{l:List Bool}{row:Option Nat}(h:Rb W g l)(hg:W.grownBy W' row)(hn:row≠some g):Rb W' g l:=by
 have hb:=hg.block g h.lt (λ e=>hn e.symm);exact⟨Nat.lt_of_lt_of_le h.lt hg.size,λ i hi=>(World.cell?_of_block (a:=⟨g,i,none⟩) hb).trans (h.cell i hi),λ j=>(World.frozen?_of_block (a:=⟨g,j,none⟩) hb).trans (h.fr j)⟩
theorem Rb.other{W:World}{g:Nat}{l:List Bool}(h:Rb W g l){a:Addr}(ha:a.block≠g)(v:Value):Rb (W.setCell a v) g l :=
 ⟨by simpa[World.setCell]using h.lt,λ i hi=>(World.cell?_setCell_other _ _ _ _ (λ e=>ha (congrArg Addr.block e))).trans (h.cell i hi),λ j=>(World.frozen?_setCell ..).trans (h.fr j)⟩
theorem Rb.set{W:World}{g k:Nat}{l:List Bool}(h:Rb W g l)(hk:k<l.length):Rb (W.setCell ⟨g,k,none⟩ (.bool true)) g (l.set k true):=by
 refine⟨by simpa[World.setCell]using h.lt,λ i hi=>?_,λ j=>(World.frozen?_setCell ..).trans (h.fr j)⟩;rw[List.length_set]at hi;rw[Dm.getD_set_t];by_cases e:i=k
 ·subst e
  simp only[hi,and_self,decide_true,Bool.true_or];exact World.cell?_setCell_same _ _ _ (h.cell i hi)
 ·simp only[e,false_and,decide_false,Bool.false_or]
  exact(World.cell?_setCell_other _ _ _ _ (λ e'=>e (congrArg Addr.off e').symm)).trans (h.cell i hi)
theorem aP{W:World}{base e size n:Nat}{v u:Value}{xs:List Value}{a:Addr}(h:W.ownsRow base e size v n xs)(hm:v.ownBlock≠some a.block):(W.setCell a u).ownsRow base e size v n xs :=
 h.kept (row:=some a.block) ⟨rfl,rfl,rfl,by simp[World.setCell],λ k _ hk=>Below.heap_setCell W a u k (λ e=>hk (by rw[e]))⟩ (.inr hm)
theorem dQ(w:World)(cs:List Value)(t:TypeId):∀ j u,cs[j]?=some u->(w.alloc (.cells cs.toArray t)).cell? ((⟨w.heap.size,0,none⟩:Addr).add j)=some u:=by
 intro j u hu;have h:=aJ w (cs:=cs.toArray) (t:=t) (fr:=(0,0)) (i:=j) (v:=u) (by simpa using hu);by_cases h0:j=0
 ·subst h0;simpa[Addr.add]using h
 ·simpa[Addr.add,h0]using h
theorem bools_ext{l m:List Bool}(hl:l.length=m.length)(h:∀ i,i<l.length->l.getD i false=m.getD i false):l=m:=by
 refine List.ext_getElem hl λ i h1 h2=>?_
 have:=h i h1
 rwa [List.getD_eq_getElem?_getD,List.getD_eq_getElem?_getD,List.getElem?_eq_getElem h1,List.getElem?_eq_getElem h2]at this
end Go.Proofs.YtkfahppdklecdaaGreatDoor.J
namespace Go.Proofs.YtkfahppdklecdaaGreatDoor.J
open Go.RowKit
open Dm
structure GsAt(w:World)(q:Option Addr)(g:List (List Int)):Prop where
 cells:∀ i,i<g.length->∃ b off p c,q=some ⟨b,off,none⟩/\b<w.heap.size/\w.cell? ⟨b,off+i,none⟩=some (.slice p (g.getD i []).length c)/\NumsAt .i64 w p (g.getD i [])
theorem GsAt.below{w w':World}{q:Option Addr}{g:List (List Int)}(h:GsAt w q g)(hb:Below w.heap.size w w'):GsAt w' q g :=
 ⟨λ i hi=>by
  obtain⟨b,off,p,c,hq,hl,h0,hn⟩:=h.cells i hi;exact⟨b,off,p,c,hq,Nat.lt_of_lt_of_le hl hb.size,(hb.cell (p:=⟨b,off+i,none⟩) hl).trans h0,hn.below hb⟩⟩
def tot:List (List Int)->Nat
 | []=>0
 | r :: g=>r.length+tot g
def pot:List (List Int)->List Bool->Nat
 | r :: g,b :: s=>(if b=true then 0 else r.length)+pot g s
 | _,_=>0
theorem pot_rep:∀ g:List (List Int),pot g (List.replicate g.length false)=tot g
 | []=>rfl
 | r :: g=>by
  show pot (r :: g) (false :: List.replicate g.length false)=r.length+tot g;unfold pot;rw[pot_rep g];rfl
theorem pot_set:∀ {g:List (List Int)} {s:List Bool} {i:Nat},i<g.length->i<s.length->s.getD i false=false->pot g (s.set i true)+(g.getD i []).length=pot g s
 | [],_,_,h,_,_=>absurd h (Nat.not_lt_zero _)
 | _ :: _,[],_,_,h,_=>absurd h (Nat.not_lt_zero _)
 | r :: g,b :: s,0,_,_,h=>by
  have e:b=false:=by simpa using h
  subst e;simp[pot];omega
 | r :: g,b :: s,i+1,h1,h2,h3=>by
  have:=pot_set (g:=g) (s:=s) (i:=i) (by simpa using h1) (by simpa using h2) (by simpa using h3);simp only[List.set_cons_succ,List.getD_cons_succ];unfold pot;omega
theorem row_le:∀ {g:List (List Int)} {i:Nat},i<g.length->(g.getD i []).length<=tot g
 | [],_,h=>absurd h (Nat.not_lt_zero _)
 | r :: g,0,_=>by show r.length<=r.length+tot g;omega
 | r :: g,i+1,h=>by
  have:=row_le (g:=g) (i:=i) (by simpa using h);rw[List.getD_cons_succ];show _<=r.length+tot g;omega
def okB(N:Nat)(a:Int)(x:Int):Bool:=decide (0<=x) && decide (x<(N:Int)) && decide (x≠a)
theorem okB_iff{N:Nat}{a x:Int}:okB N a x=true↔0<=x/\x<(N:Int)/\x≠a:=by
 unfold okB;rw[Bool.and_eq_true,Bool.and_eq_true,decide_eq_true_eq,decide_eq_true_eq,decide_eq_true_eq,and_assoc]
def outS(a:Int)(x:Nat):Prop:=(x:Int)=a
structure Td(g:List (List Int))(a:Int)(seen:List Bool)(todo:List Int):Prop where
 len:seen.length=g.length
 in1:∀ i,seen.getD i false=true->(gL g).Av (outS a) i
 in2:∀ x∈todo,∃ i:Nat,x=(i:Int)/\(gL g).Av (outS a) i
 zero:seen.getD 0 false=true∨(0:Int)∈todo
 on:∀ i,seen.getD i false=true->∀ s,(gL g).e i s->¬ outS a s->seen.getD s false=true∨(s:Int)∈todo
theorem Td.start{g:List (List Int)}{a:Int}(hg:0<g.length)(ha:a≠0):Td g a (List.replicate g.length false) [0] :=
 ⟨by simp,λ i h=>(by rw[rep_get]at h;cases h),λ x hx=>⟨0,List.mem_singleton.1 hx,.zero hg (λ e=>ha e.symm)⟩,.inr (by simp),λ i h=>(by rw[rep_get]at h;cases h)⟩
theorem Td.old{g:List (List Int)}{a:Int}{seen:List Bool}{todo:List Int}{i:Nat}(h:Td g a seen (todo ++ [(i:Int)]))(hs:seen.getD i false=true):Td g a seen todo:=by
 have key:∀ s:Nat,(s:Int)∈todo ++ [(i:Int)]->seen.getD s false=true∨(s:Int)∈todo:=by
  intro s hm;rcases List.mem_append.1 hm with c|c
  ·exact .inr c
  ·have:s=i:=by have:=List.mem_singleton.1 c;omega
   rw[this];exact .inl hs
 refine⟨h.len,h.in1,λ x hx=>h.in2 x (List.mem_append_left _ hx),?_,λ j hj s he hn=>?_⟩
 ·rcases h.zero with c|c
  ·exact .inl c
  ·exact key 0 c
 ·rcases h.on j hj s he hn with c|c
  ·exact .inl c
  ·exact key s c
theorem Td.at{g:List (List Int)}{a:Int}{seen:List Bool}{todo:List Int}{x:Int}(h:Td g a seen (todo ++ [x])):∃ i:Nat,x=(i:Int)/\i<g.length/\(gL g).Av (outS a) i:=by
 obtain⟨i,e,hi⟩:=h.in2 x (by simp);exact⟨i,e,hi.lt,hi⟩
theorem Td.new{g:List (List Int)}{a:Int}{seen:List Bool}{todo:List Int}{i:Nat}(h:Td g a seen (todo ++ [(i:Int)])):Td g a (seen.set i true) (todo ++ (g.getD i []).filter (okB g.length a)):=by
 obtain⟨i',e,hlt,hi⟩:=h.at;obtain rfl:i=i':=by omega
 have hl:i<seen.length:=by rw[h.len];exact hlt
 have hle:∀ j,seen.getD j false=true->(seen.set i true).getD j false=true:=λ j hj=>by rw[getD_set_t,hj,Bool.or_true]
 have hii:(seen.set i true).getD i false=true:=by rw[getD_set_t];simp[hl]
 have key:∀ s:Nat,(s:Int)∈todo ++ [(i:Int)]->(seen.set i true).getD s false=true∨(s:Int)∈todo ++ (g.getD i []).filter (okB g.length a):=by
  intro s hm;rcases List.mem_append.1 hm with c|c
  ·exact .inr (List.mem_append_left _ c)
  ·have:s=i:=by have:=List.mem_singleton.1 c;omega
   rw[this];exact .inl hii
 refine⟨by rw[List.length_set];exact h.len,λ j hj=>?_,λ x hx=>?_,?_,λ j hj s he hn=>?_⟩
 ·rw[getD_set_t,Bool.or_eq_true,decide_eq_true_eq]at hj
  rcases hj with ⟨rfl,_⟩|hj
  ·exact hi
  ·exact h.in1 j hj
 ·rcases List.mem_append.1 hx with c|c
  ·exact h.in2 x (List.mem_append_left _ c)
  ·obtain⟨c1,c2⟩:=List.mem_filter.1 c
   obtain⟨k1,k2,k3⟩:=okB_iff.1 c2;have ex:((x.toNat:Nat):Int)=x:=Int.toNat_of_nonneg k1;refine⟨x.toNat,ex.symm,.step hi (gL_e.2 ⟨hlt,by rw[ex];exact c1,by omega⟩) (λ c=>k3 (by unfold outS at c;omega))⟩
 ·rcases h.zero with c|c
  ·exact .inl (hle 0 c)
  ·exact key 0 c
 ·rw[getD_set_t,Bool.or_eq_true,decide_eq_true_eq]at hj
  rcases hj with ⟨rfl,_⟩|hj
  ·obtain⟨_,e2,e3⟩:=gL_e.1 he
   exact .inr (List.mem_append_right _ (List.mem_filter.2 ⟨e2,okB_iff.2 ⟨by omega,by omega,hn⟩⟩))
  ·rcases h.on j hj s he hn with c|c
   ·exact .inl (hle s c)
   ·exact key s c
theorem Td.done{g:List (List Int)}{a:Int}{seen:List Bool}(h:Td g a seen [])(b:Nat):seen.getD b false=true↔(gL g).Av (outS a) b:=by
 refine⟨h.in1 b,λ hb=>?_⟩
 induction hb with
 | zero _ _=>exact h.zero.resolve_right (λ c=>by cases c)
 | step _ he hn ih=>exact(h.on _ ih _ he hn).resolve_right (λ c=>by cases c)
theorem take_filter_yes{l:List Int}{p:Int->Bool}{k:Nat}(hk:k<l.length)(h:p (l.getD k 0)=true):(l.take (k+1)).filter p=(l.take k).filter p ++ [l.getD k 0]:=by
 have e:l.getD k 0=l[k]:=by rw[List.getD_eq_getElem?_getD,List.getElem?_eq_getElem hk];rfl
 rw[List.take_add_one,List.getElem?_eq_getElem hk,List.filter_append,e];rw[e]at h;show _ ++ List.filter p [l[k]]=_;rw[List.filter_cons_of_pos h];rfl
theorem take_filter_no{l:List Int}{p:Int->Bool}{k:Nat}(hk:k<l.length)(h:p (l.getD k 0)=false):(l.take (k+1)).filter p=(l.take k).filter p:=by
 have e:l.getD k 0=l[k]:=by rw[List.getD_eq_getElem?_getD,List.getElem?_eq_getElem hk];rfl
 rw[List.take_add_one,List.getElem?_eq_getElem hk,List.filter_append];rw[e]at h;show _ ++ List.filter p [l[k]]=_;rw[List.filter_cons_of_neg (by rw[h];simp)];simp
structure Rs(w wr:World)(g:Nat)(seen:List Bool)(T:List Int)(q:Option Addr)(c:Nat):Prop where
 low:Below w.heap.size w wr
 sn:Rb wr g seen
 gb:w.heap.size<=g
 td:wr.ownsRow w.heap.size 3 1 (.slice q T.length c) T.length (aX T)
 ap:q.map Addr.block≠some g
theorem Rs.next{w W W':World}{g:Nat}{seen:List Bool}{T:List Int}{q:Option Addr}{c:Nat}(h:Rs w W g seen T q c)(hb:Below W.heap.size W W'):Rs w W' g seen T q c :=
 ⟨dG h.low hb,h.sn.next hb,h.gb,own_below h.td hb,h.ap⟩
theorem cH(q:Option Addr)(len cap C:Nat)(h:C<=cap)(w:World) :
  (Instr.sliceAt 34 (.slice q len cap) none (some (.int .i64 C)) none).run Tryz.prog w=.ok (.slice q C cap) w/\(Instr.slice 34 (.slice q len cap) none (some (.int .i64 C)) none).run Tryz.prog w=.ok (.slice q C cap) w:=by
 have e:(Instr.slice 34 (.slice q len cap) none (some (.int .i64 C)) none).run Tryz.prog w=.ok (.slice q C cap) w:=by
  rw[run_slice_h w 34 q len cap Tryz.underlying34 .i64 C (by omega) (by omega)];have hz:(sizeOf (Tryz.prog.elem 34)).run Tryz.prog w=.ok 1 w:=by kernel_rfl
  rw[hz];have hq:q.map (·.add 0)=q:=by cases q <;> simp[Addr.add]
  simp[sliced,hq]
 exact⟨(run_sliceAt_slice w 34 _ _ _ _ Tryz.underlying34).trans e,e⟩
theorem aW{w:World}{base e size:Nat}{v:Value}{n:Nat}{xs:List Value}(h:w.ownsRow base e size v n xs):∃ q c,v=.slice q n c:=by
 rcases h.2 with ⟨rfl,rfl⟩|⟨g,cap,cur,rfl,_⟩
 ·exact⟨none,0,rfl⟩
 ·exact⟨_,_,rfl⟩
theorem aH(q:Option Addr)(n c:Nat):(Value.slice q n c).ownBlock=q.map Addr.block:=by
 cases q <;> rfl
theorem Rs.app{w W W':World}{g:Nat}{seen:List Bool}{T xs:List Int}{q q':Option Addr}{n m c c':Nat}(h:Rs w W g seen T q c)(hn:T.length=n)(ho:W'.ownsRow w.heap.size 3 1 (.slice q' m c') (T ++ xs).length (aX (T ++ xs)))(hm:(T ++ xs).length=m)(hg:W.grownBy W' (Value.slice q n c).ownBlock)(hb:(Value.slice q' m c').ownBlock=(Value.slice q n c).ownBlock∨(Value.slice q' m c').ownBlock=some W.heap.size):Rs w W' g seen (T ++ xs) q' c':=by
 subst hn hm;rw[aH]at hg;rw[aH,aH]at hb;refine⟨h.low.grown hg h.low.size (λ k hk=>?_),h.sn.grown hg h.ap,h.gb,ho,λ e=>?_⟩
 ·exact(h.td.lt k (by rw[aH];exact hk)).1
 ·rcases hb with e2|e2
  ·exact h.ap (e2.symm.trans e)
  ·rw[e]at e2
   have:=h.sn.lt;injection e2 with e2
   omega
theorem Rs.see{w W:World}{g i:Nat}{seen:List Bool}{T:List Int}{q:Option Addr}{c:Nat}(h:Rs w W g seen T q c)(hi:i<seen.length):Rs w (W.setCell ⟨g,i,none⟩ (.bool true)) g (seen.set i true) T q c :=
 ⟨h.low.setCell (p:=⟨g,i,none⟩) h.gb _,h.sn.set hi,h.gb,aP h.td (by rw[aH];exact h.ap),h.ap⟩
theorem Rs.pop{w W:World}{g g6 n:Nat}{seen:List Bool}{T:List Int}{x:Int}{c:Nat}(h:Rs w W g seen (T ++ [x]) (some ⟨g6,0,none⟩) c)(hn:T.length=n)(ho:W.ownsRow w.heap.size 3 1 (.slice (some ⟨g6,0,none⟩) n c) n (aX T)):Rs w W g seen T (some ⟨g6,0,none⟩) c:=by
 subst hn;exact⟨h.low,h.sn,h.gb,ho,h.ap⟩
theorem Rs.start{w w1:World}(N:Nat)(hb:Below w.heap.size w w1) :
  Rs w ((w1.alloc (.cells (madeCells #[.bool false] N) 4)).alloc (.cells #[.int .i64 0] 3)) w1.heap.size (List.replicate N false) [0] (some ⟨w1.heap.size+1,0,none⟩) 1:=by
 refine⟨(hb.alloc hb.size _).alloc (by simp;have:=hb.size;omega) _,?_,hb.size,?_,by simp⟩
 ·have h:Rb (w1.alloc (.cells (madeCells #[.bool false] N) 4)) w1.heap.size (List.replicate N false):=by
   refine⟨by simp,λ i hi=>?_,λ j=>World.frozen?_alloc_new _ _ _ j⟩;have hi':i<N:=by simpa using hi
   refine aJ w1 ?_;rw[List.getD_eq_getElem?_getD,List.getElem?_replicate,if_pos hi'];simp[madeCells,hi',Nat.mod_one]
  exact h.next ((Below.refl _ _).alloc (Nat.le_refl _) _)
 ·have h:=World.ownsRow_lit (base:=w.heap.size) (e:=3) (size:=1) (w1.alloc (.cells (madeCells #[.bool false] N) 4)) #[.int .i64 0] 1 (by simp;have:=hb.size;omega) (by decide) rfl
  rw[World.size_alloc]at h;exact h
theorem av0{G:Dg}{b:Nat}:¬ G.Av (outS 0) b:=by
 intro h
 induction h with
 | zero _ h=>exact h rfl
 | step _ _ _ ih=>exact ih
theorem rb_new(w:World)(N:Nat):Rb (w.alloc (.cells (madeCells #[.bool false] N) 4)) w.heap.size (List.replicate N false):=by
 refine⟨by simp,λ i hi=>?_,λ j=>World.frozen?_alloc_new _ _ _ j⟩;have hi':i<N:=by simpa using hi
 refine aJ w ?_;rw[rep_get];simp[madeCells,hi',Nat.mod_one]
def WalkQ(g:List (List Int))(a:Int)(w:World)(e:Ending)(w':World):Prop :=
 ∃ gb L,e=.returned (.slice (some ⟨gb,0,none⟩) g.length g.length)/\w.heap.size<=gb/\Rb w' gb L/\L.length=g.length/\(∀ b,b<g.length->(L.getD b false=true↔(gL g).Av (outS a) b))/\Below w.heap.size w w'
theorem rwalk_none(q:Option Addr)(qc:Nat)(g:List (List Int))(a:Int)(w:World)(hN:g.length<=4096)(h0:g.length=0∨a=0):Calls Tryz.prog 70 #[.slice q g.length qc,.int .i64 a] w (WalkQ g a w):=by
 have HQ:Hid (∀ N,g.length=N->WalkQ g a w (.returned (.slice (some ⟨w.heap.size,0,none⟩) N N)) (w.alloc (.cells (madeCells #[.bool false] N) 4))):=aQ (λ N e=>by
  subst e;refine⟨w.heap.size,List.replicate g.length false,rfl,Nat.le_refl _,rb_new w _,by simp,λ b hb=>?_,(Below.refl _ _).alloc (Nat.le_refl _) _⟩;rw[rep_get];constructor
  ·intro c;cases c
  ·intro c
   rcases h0 with e|e
   ·omega
   ·subst e;exact absurd c av0)
 generalize WalkQ g a w=Q at *;obtain⟨N,hNl⟩:∃ N,g.length=N:=⟨_,rfl⟩;rw[hNl]at hN h0 ⊢;have HQ2:=aQ (HQ.out N hNl);clear hNl HQ;have hmk:=λ W=>run_make_row' (P:=Tryz.prog) 91 4 (.bool false) 1 Tryz.underlying91 eX rfl .i64 .i64 N (by omega) (by omega) W
 by_cases e0:N=0
 ·subst e0
  clear h0;have hmk0:∀ W,(Instr.makeSlice 91 (.int .i64 0) (.int .i64 0)).run Tryz.prog W=.ok (.slice (some ⟨W.heap.size,0,none⟩) 0 0) (W.alloc (.cells (madeCells #[.bool false] 0) 4)):=λ W=>hmk W
  clear hmk;go_enter Tryz.func70,Tryz.ntmps70
  go_wp2
  exact HQ2.out
 ·obtain rfl:a=0:=h0.resolve_left e0
  have hne:((N:Int) == 0)=false:=by simpa using(show ¬ (N:Int)=0 by omega)
  clear h0;go_enter Tryz.func70,Tryz.ntmps70
  go_wp2
  exact HQ2.out
theorem rwalk_some(q:Option Addr)(qc:Nat)(g:List (List Int))(a:Int)(w:World)(h:GsAt w q g)(hN:g.length<=4096)(hT:tot g<=1048576)(h0:0<g.length)(ha:a≠0):Calls Tryz.prog 70 #[.slice q g.length qc,.int .i64 a] w (WalkQ g a w):=by
 have HI:=aQ h;have HT0:=aQ (Td.start (g:=g) (a:=a) h0 ha);have HPR:Hid (pot g (List.replicate g.length false)=tot g):=aQ (pot_rep g);have HQ:Hid (∀ (w1:World) gb L,w.heap.size<=gb->Rb w1 gb L->Below w.heap.size w w1->Td g a L []->WalkQ g a w (.returned (.slice (some ⟨gb,0,none⟩) g.length g.length)) w1):=aQ (λ w1 gb L hgb hr hb ht=>⟨gb,L,rfl,hgb,hr,ht.len,λ b _=>ht.done b,hb⟩);have HLN:Hid (∀ seen todo,Td g a seen todo->seen.length=g.length):=aQ (λ _ _ h=>h.len);have HRW:Hid (∀ i,i<g.length->(g.getD i []).length<=tot g):=aQ (λ i hi=>row_le hi);have HPS:Hid (∀ s i,i<g.length->i<s.length->s.getD i false=false->pot g (s.set i true)+(g.getD i []).length=pot g s):=aQ (λ s i h1 h2 h3=>pot_set h1 h2 h3);have HNW:Hid (∀ seen todo i,Td g a seen (todo ++ [((i:Nat):Int)])->Td g a (seen.set i true) (todo ++ (g.getD i []).filter (okB g.length a))):=aQ (λ _ _ _ h=>h.new);generalize WalkQ g a w=Q at *;have hsl1:=λ (q:Option Addr) (len cap C:Nat) (h:C<=cap) W=>(cH q len cap C h W).1
 have hsl2:=λ (q:Option Addr) (len cap C:Nat) (h:C<=cap) W=>(cH q len cap C h W).2
 have HGC:=aQ (λ (W:World) (hW:Below w.heap.size w W) i hi=>(HI.out.below hW).cells i hi);obtain⟨N,hNl⟩:∃ N,g.length=N:=⟨_,rfl⟩;have HNL:=aQ hNl;obtain⟨TT,hTT⟩:∃ T,tot g=T:=⟨_,rfl⟩;rw[hNl]at hN h0 HT0 HPR HQ HLN HRW HPS HNW HGC ⊢;rw[hTT]at hT HPR HRW;have hne:((N:Int) == 0)=false:=by simpa using(show ¬ (N:Int)=0 by omega)
 have hna:(a == 0)=false:=by simpa using ha
 clear h hNl hTT ha;have hmk:=λ W=>run_make_row' (P:=Tryz.prog) 91 4 (.bool false) 1 Tryz.underlying91 eX rfl .i64 .i64 N (by omega) (by omega) W
 have HS:=aQ (Rs.start (w:=w) (w1:=w) N (Below.refl _ _));go_enter Tryz.func70,Tryz.ntmps70
 go_wp2_with fail
 clear hne hna hmk
 go_loopg [6] (pot g (List.replicate N false)+1) (λ k t wr=>∃ (seen:List Bool) (T:List Int) (p:Option Addr) (c:Nat),t=.slice p T.length c/\Hid (Td g a seen T)/\Hid (pot g seen+T.length<=k/\k<=TT+1)/\Rs w wr w.heap.size seen T p c)
 case atStart=>exact⟨List.replicate N false,[0],some ⟨w.heap.size+1,0,none⟩,1,rfl,HT0,aQ ⟨Nat.le_refl _,by rw[HPR.out];omega⟩,HS.out⟩
 case round =>
  clear HS HT0;obtain⟨seen,T,p,c,rfl,HTo,HK,hs⟩:=hrel;have HS:=aQ hs;by_cases hT0:T.length=0
  ·obtain rfl:T=[]:=List.eq_nil_of_length_eq_zero hT0
   have HD:=aQ (HQ.out _ _ _ (Nat.le_refl _) HS.out.sn HS.out.low HTo.out);clear hs hT0;rw[show([]:List Int).length=0 from rfl];go_wp2_with fail
   exact HD.out
  ·obtain⟨T',x,hTx⟩:∃ T' x,T=T' ++ [x]:=by
    rcases List.eq_nil_or_concat T with e|⟨T',x,e⟩
    ·rw[e]at hT0;exact absurd rfl hT0
    ·exact⟨T',x,by simpa using e⟩
   subst hTx;clear hT0;obtain⟨i,rfl,hiN,_⟩:=HTo.out.at;rw[HNL.out]at hiN;obtain⟨g6,cap,hv,hg1,hg2⟩:=dZ hs.td (by simp);injection hv with hv1 hv2 hv3
   subst hv1 hv3;obtain⟨o1,o2,o3⟩:=own_pop hs.td;have HO:=aQ o1;have hTl:(T' ++ [(i:Int)]).length=T'.length+1:=by simp
   have hn6:¬ g6=w.heap.size:=λ e=>hs.ap (by rw[e];rfl)
   have HKl:=HK.out;have hTN:T'.length<=1048577:=by simp at HKl;omega
   have hsl:seen.length=N:=HLN.out _ _ HTo.out;have hsc:=hs.sn.cell i (by omega);have hfr:=hs.sn.fr;have hlt:=hs.sn.lt;rw[hTl];clear HKl hTl hv2;obtain⟨n6,hn6'⟩:∃ n,T'.length=n:=⟨_,rfl⟩;rw[hn6']at HO o2 o3 hTN ⊢;have HN6:=aQ hn6';clear hn6' o1;cases hv:seen.getD i false with
   | true =>
    rw[hv]at hsc;have HV:=aQ hv;clear hs hv;go_wp2_with fail
    go_roundg (pot g seen+T'.length)
    case measure=>have:=HK.out.1;simp at this;omega
    case rel=>exact⟨seen,T',some ⟨g6,0,none⟩,c,by rw[HN6.out],aQ (HTo.out.old HV.out),aQ ⟨Nat.le_refl _,by have:=HK.out;simp at this;omega⟩,HS.out.pop HN6.out HO.out⟩
   | false =>
    rw[hv]at hsc;have HV:=aQ hv;have HR5:=aQ ((HS.out.pop HN6.out HO.out).see (i:=i) (by omega));have HU:=aQ (HPS.out seen i hiN (by omega) hv);have HNW2:=aQ (HNW.out seen T' i HTo.out);have HRW2:=aQ (HRW.out i hiN);have HGC2:=aQ (λ W hW=>HGC.out W hW i hiN);obtain⟨R,hR⟩:∃ R,g.getD i []=R:=⟨_,rfl⟩;rw[hR]at HU HNW2 HRW2 HGC2;obtain⟨M,hM⟩:∃ M,R.length=M:=⟨_,rfl⟩;have HM:=aQ hM;rw[hM]at HU HRW2 HGC2;have HN9:=aQ (λ (x:Int) W=>bH (k:=.i64) W 3 [x] #[.int .i64 x] rfl (by simp));obtain⟨F,hF⟩:∃ F:Nat->List Int,∀ m,F m=T' ++ (R.take m).filter (okB N a):=⟨_,λ m=>rfl⟩;have HF0:Hid (F 0=T'):=aQ (by rw[hF];simp);have HFM:Hid (F M=T' ++ R.filter (okB N a)):=aQ (by rw[hF,<- hM,List.take_length]);have HFY:Hid (∀ m,m<M->okB N a (R.getD m 0)=true->F (m+1)=F m ++ [R.getD m 0]):=aQ (λ m hm h=>by rw[hF,hF,take_filter_yes (by rw[hM];exact hm) h,List.append_assoc]);have HFN:Hid (∀ m,m<M->okB N a (R.getD m 0)=false->F (m+1)=F m):=aQ (λ m hm h=>by rw[hF,hF,take_filter_no (by rw[hM];exact hm) h])
    have HFL:Hid (∀ m,(F m).length<=n6+m):=aQ (λ m=>by
     rw[hF,List.length_append,HN6.out];have:=List.length_filter_le (okB N a) (R.take m);have:=List.length_take_le m R;omega)
    clear hs hv hR hM hF HPS HRW HNW HGC;go_wp2_with fail
    go_loopw [6,8] (λ t v wr2=>∃ (m:Nat) (p:Option Addr) (c:Nat),m<=M/\v=.int .i64 (m:Int)/\t=.slice p (F m).length c/\Rs w wr2 w.heap.size (seen.set i true) (F m) p c) (λ _ v _=>M - (intOf v).toNat)
    case atStart=>exact⟨0,some ⟨g6,0,none⟩,c,Nat.zero_le _,rfl,by rw[HF0.out,HN6.out],by rw[HF0.out];exact HR5.out⟩
    case round =>
     clear HR5 HS HO o2 o3 hsc hfr hlt;obtain⟨m,p,c,hm1,rfl,rfl,hs⟩:=hrel;have HS:=aQ hs;obtain⟨b4,o4,p4,c4,rfl,hl4,e4,hn4⟩:=HGC2.out wr hs.low;by_cases hm:m<M
     ·obtain⟨b5,o5,rfl,hl5,e5⟩:=hn4.cells m (by rw[HM.out];exact hm)
      have hFL:=HFL.out m;have HY:=aQ (HFY.out m hm);have HN:=aQ (HFN.out m hm);have hMT:=HRW2.out;clear hn4 hs;generalize R.getD m 0=y at *;by_cases y0:0<=y
      ·by_cases yN:y<(N:Int)
       ·by_cases ya:y=a
        ·have HE:=aQ (HN.out (by unfold okB;simp[ya]))
         have hb:(y != a)=false:=by simp[ya]
         clear ya HY HN;go_wp2_with fail
         go_roundw
         case rel=>exact⟨m+1,p,c,by omega,rfl,by rw[HE.out],by rw[HE.out];exact HS.out⟩
         case measure=>simp[intOf];omega
        ·have HE:=aQ (HY.out (okB_iff.2 ⟨y0,yN,ya⟩))
         have hb:(y != a)=true:=by simp[ya]
         clear ya HY HN;go_wp2_with (at_builtin;refine aZ rfl (.tmp 72) (.tmp 74) rfl rfl w.heap.size (some ⟨wr.heap.size,0,none⟩) [y] (F m) (.slice p (F m).length c) 1 1 rfl rfl rfl (own_below HS.out.td ((Below.refl _ _).alloc (Nat.le_refl _) _)) (HN9.out _ _) (by have:=HS.out.low.size;simp;omega) (by simp;omega) ?_;intro v8 w8 ho8 hg8 hb8;obtain⟨q8,c8,rfl⟩:=aW ho8;have HR8:=aQ (Rs.app (HS.out.next ((Below.refl _ _).alloc (Nat.le_refl _) _)) rfl ho8 rfl hg8 hb8);clear ho8 hg8 hb8)
         go_roundw
         case rel=>exact⟨m+1,q8,c8,by omega,rfl,by rw[HE.out];simp,by rw[HE.out];exact HR8.out⟩
         case measure=>simp[intOf];omega
       ·have HE:=aQ (HN.out (by unfold okB;simp[yN]))
        clear HY HN;go_wp2_with fail
        go_roundw
        case rel=>exact⟨m+1,p,c,by omega,rfl,by rw[HE.out],by rw[HE.out];exact HS.out⟩
        case measure=>simp[intOf];omega
      ·have HE:=aQ (HN.out (by unfold okB;simp[y0]))
       clear HY HN;go_wp2_with fail
       go_roundw
       case rel=>exact⟨m+1,p,c,by omega,rfl,by rw[HE.out],by rw[HE.out];exact HS.out⟩
       case measure=>simp[intOf];omega
     ·obtain rfl:M=m:=by omega
      clear hs hn4;go_wp2_with fail
      go_roundg (pot g (seen.set i true)+(F M).length)
      case measure=>have:=HK.out.1;have:=HU.out;have:=HFL.out M;have:=HN6.out;simp at *;omega
      case rel=>exact⟨seen.set i true,F M,p,c,rfl,by rw[HFM.out];exact HNW2,aQ ⟨Nat.le_refl _,by have:=HK.out;have:=HU.out;have:=HFL.out M;have:=HN6.out;simp at *;omega⟩,HS.out⟩
theorem rwalk_any(q:Option Addr)(qc:Nat)(g:List (List Int))(a:Int)(w:World)(h:GsAt w q g)(hN:g.length<=4096)(hT:tot g<=1048576):Calls Tryz.prog 70 #[.slice q g.length qc,.int .i64 a] w (WalkQ g a w):=by
 by_cases h0:g.length=0∨a=0
 ·exact rwalk_none q qc g a w hN h0
 ·exact rwalk_some q qc g a w h hN hT (by omega) (λ e=>h0 (.inr e))
end Go.Proofs.YtkfahppdklecdaaGreatDoor.J
