import Derived.Test.YtkfahppdklecdaaGreatDoorZ19
set_option maxRecDepth 100000
set_option maxHeartbeats 16000000
namespace Go.Proofs.YtkfahppdklecdaaGreatDoor.J
open Go.RowKit
open Dm
variable {G:Dg} {par hi:Nat->Nat}
theorem getD_memI{l:List Int}{i:Nat}(h:i<l.length):l.getD i 0∈l:=by
 rw[List.getD_eq_getElem?_getD,List.getElem?_eq_getElem h];exact List.getElem_mem h
def wt(N:Nat)(rw:Nat->List Int):List (List Int):=(List.range N).map rw
theorem wt_get{N f:Nat}{rw:Nat->List Int}(h:f<N):(wt N rw).getD f []=rw f:=by
 unfold wt;rw[List.getD_eq_getElem?_getD,List.getElem?_map,List.getElem?_range h];rfl
theorem wt_set{N j:Nat}{rw:Nat->List Int}{l:List Int}:(wt N rw).set j l=wt N (up1 rw j l):=by
 unfold wt;refine List.ext_getElem? λ i=>?_
 rw[List.getElem?_set,List.getElem?_map,List.getElem?_map];by_cases e:j=i
 ·subst e
  rw[if_pos rfl];by_cases c:j<N
  ·simp[c,up1]
  ·simp[c]
 ·rw[if_neg e]
  by_cases c:i<N
  ·rw[List.getElem?_range c]
   simp[up1,Ne.symm e]
  ·simp[c]
theorem wt_nil(N:Nat):wt N (λ _=>[])=List.replicate N []:=by
 unfold wt;refine List.ext_getElem? λ i=>?_
 rw[List.getElem?_map,List.getElem?_replicate];by_cases c:i<N
 ·rw[List.getElem?_range c,if_pos c];rfl
 ·rw[if_neg c,List.getElem?_eq_none (by simpa using c)];rfl
theorem Mm.start{w w1 w2:World}{fb gr N:Nat}{semi up least:List Int}{q:Nat->Option Addr}{c:Nat->Nat}(hf:w.heap.size<=fb)(hs:Sr w.heap.size w1 fb FJ (fr up semi least []) q c)(hb1:Below w.heap.size w w1)(hb2:Below w1.heap.size w1 w2)(hgr:w1.heap.size<=gr)(hr:w2.heap[gr]?=some (.cells (rpc (-1) N N).toArray 3 (0,0)))(hN:N<=1048576) :
  Mm w (w2.alloc (.cells (madeCells #[.slice none 0 0] N) 34)) fb w2.heap.size gr N semi up least [] q c (λ _=>[]) (λ _=>none) (λ _=>0) (List.replicate N (-1)):=by
 have hs2:=(hs.next hb2).grown (fU w2 (.cells (madeCells #[.slice none 0 0] N) 34)) (by simp) (λ _ _ _ e=>by cases e);have hlt:gr<w2.heap.size:=(Array.getElem?_eq_some_iff.1 hr).1;have l1:=hs.bl;have s1:=hb1.size;have s2:=hb2.size;have ho:=gM (W:=w2) (base:=w.heap.size) (l:=List.replicate N (-1)) (by omega) hr (by rw[rpc_ints]) (by simp) hN;rw[List.length_replicate]at ho;exact⟨hs2,Sr.rows w.heap.size w2 N,ho.alloc _,hf,by omega,by omega,by omega,by omega,λ j hj k e=>by have:=(hs.blk hj e).2;omega,λ j _ k e=>by simp at e,λ i _ j _ k _=>by simp,(hb1.trans (hb2.mono s1)).trans ((b1 (w:=w2)).mono (by omega))⟩
def AbQ(w:World)(G:Dg)(e:Ending)(w':World):Prop :=
 ∃ gr res,e=.returned (.slice (some ⟨gr,0,none⟩) G.N G.N)/\w'.ownsRow w.heap.size 3 1 (.slice (some ⟨gr,0,none⟩) G.N G.N) G.N (aX res)/\res.length=G.N/\(∀ n,n<G.N->G.Up n (res.getD n 0))/\Below w.heap.size w w'
structure A1(w W:World)(fb gw gr:Nat)(G:Dg)(par hi:Nat->Nat)(L:Nat)(semi up least way:List Int)(q:Nat->Option Addr)(c:Nat->Nat)(rw:Nat->List Int)(qw:Nat->Option Addr)(cw:Nat->Nat)(res:List Int):Prop where
 mm:Mm w W fb gw gr G.N semi up least way q c rw qw cw res
 ab:Ab G par hi L semi up least res (wt G.N rw)
 ln:∀ j,(rw j).length<=G.N - L
 wl:way.length<=1048576
structure A2(w W:World)(fb gw gr:Nat)(G:Dg)(par hi:Nat->Nat)(v m:Nat)(done:List Int)(semi up least way:List Int)(q:Nat->Option Addr)(c:Nat->Nat)(rw:Nat->List Int)(qw:Nat->Option Addr)(cw:Nat->Nat)(res:List Int):Prop where
 mm:Mm w W fb gw gr G.N (semi.set v (m:Int)) up least way q c rw qw cw res
 ab:Ab G par hi (v+1) semi up least res (wt G.N rw)
 mn:Mn G hi v m done
 ln:∀ j,(rw j).length<=G.N - (v+1)
 wl:way.length<=1048576
section
variable {w W W':World} {fb gw gr v m:Nat} {semi up least way done:List Int} {q:Nat->Option Addr} {c:Nat->Nat} {rw:Nat->List Int} {qw:Nat->Option Addr} {cw:Nat->Nat} {res:List Int}
theorem A2.grown(h:A2 w W fb gw gr G par hi v m done semi up least way q c rw qw cw res)(hg:W.grownBy W' none):A2 w W' fb gw gr G par hi v m done semi up least way q c rw qw cw res :=
 ⟨h.mm.grown hg,h.ab,h.mn,h.ln,h.wl⟩
theorem A2.sem(h:A2 w W fb gw gr G par hi v m done semi up least way q c rw qw cw res){k:Nat}(hk:v<k)(hkN:k<G.N):(semi.set v (m:Int)).getD k 0=(sdv G k:Int):=by
 rw[bA,if_neg (λ e=>by omega)];exact h.ab.shi k hk hkN
theorem A2.sb(h:A2 w W fb gw gr G par hi v m done semi up least way q c rw qw cw res):Sb w.heap.size W fb G hi (sdv G) (v+1) up (semi.set v (m:Int)) least way q c :=
 ⟨h.mm.sf,h.ab.fo,by simp[h.ab.sl],λ k hk hkN=>h.sem (by omega) hkN,h.wl⟩
theorem A2.best(h:A2 w W fb gw gr G par hi v m done semi up least way q c rw qw cw res){up' least' way':List Int}{q':Nat->Option Addr}{c':Nat->Nat}(hs:Sb w.heap.size W' fb G hi (sdv G) (v+1) up' (semi.set v (m:Int)) least' way' q' c')(hk:Fk W W' fb q q'):A2 w W' fb gw gr G par hi v m done semi up' least' way' q' c' rw qw cw res :=
 ⟨h.mm.best hk hs.sr,⟨hs.fo,h.ab.sl,h.ab.rl,h.ab.wl,h.ab.slo,h.ab.shi,h.ab.ws,h.ab.rlo,h.ab.rhi⟩,h.mn,h.ln,hs.wl⟩
theorem A1.open(h:A1 w W fb gw gr G par hi (v+1) semi up least way q c rw qw cw res)(hv:v<G.N):A2 w W fb gw gr G par hi v v [] semi up least way q c rw qw cw res:=by
 refine⟨?_,h.ab,Mn.start v,h.ln,h.wl⟩
 have:semi.set v (v:Int)=semi:=by
  refine List.ext_getElem? λ i=>?_
  rw[List.getElem?_set];by_cases e:v=i
  ·subst e
   have h1:=h.ab.slo v (by omega) hv;have hl:v<semi.length:=by rw[h.ab.sl];exact hv
   rw[List.getD_eq_getElem?_getD,List.getElem?_eq_getElem hl]at h1;rw[if_pos rfl,if_pos hl,List.getElem?_eq_getElem hl];simpa using h1.symm
  ·rw[if_neg e]
 rw[this];exact h.mm
theorem A2.step(T:Tr G par hi)(h:A2 w W fb gw gr G par hi v m done semi up least way q c rw qw cw res)(hv:v<G.N){p b g:Nat}(he:G.e p v)(hb:Bst G hi (sdv G) (v+1) p b)(hbN:b<G.N)(hq:q 1=some ⟨g,0,none⟩) :
  ∃ m',A2 w (W.setCell ⟨g,v,none⟩ (.int .i64 (min (m:Int) ((semi.set v (m:Int)).getD b 0)))) fb gw gr G par hi v m' (done ++ [(p:Int)]) semi up least way q c rw qw cw res:=by
 have hl:v<semi.length:=by rw[h.ab.sl];exact hv
 obtain⟨u,hu,h1,h2,h3⟩:∃ u:Nat,(semi.set v (m:Int)).getD b 0=(u:Int)/\(b<v->u=b)/\(b=v->u=m)/\(v<b->u=sdv G b):=by
  rcases Nat.lt_trichotomy b v with e|e|e
  ·exact⟨b,by rw[bA,if_neg (λ c=>by omega)];exact h.ab.slo b (by omega) hbN,λ _=>rfl,λ c=>by omega,λ c=>by omega⟩
  ·exact⟨m,by rw[bA,if_pos ⟨e,hl⟩],λ c=>by omega,λ _=>rfl,λ c=>by omega⟩
  ·exact⟨sdv G b,h.sem e hbN,λ c=>by omega,λ c=>by omega,λ _=>rfl⟩
 refine⟨min m u,?_,h.ab,h.mn.step T he hb h1 h2 h3,h.ln,h.wl⟩;have hc:min (m:Int) (u:Int)=((min m u:Nat):Int):=by omega
 rw[hu,hc];have hs:=h.mm.setF (j:=1) (by decide) hq v ((min m u:Nat):Int) (fr1 _ _ _ _ _)
 have e2:(fr up (semi.set v (m:Int)) least way 1).set v ((min m u:Nat):Int)=semi.set v ((min m u:Nat):Int):=by
  show(semi.set v (m:Int)).set v _=_;rw[List.set_set]
 rw[e2]at hs;exact hs
theorem A2.num(T:Tr G par hi)(h:A2 w W fb gw gr G par hi v m done semi up least way q c rw qw cw res)(h0:0<v)(hv:v<G.N)(hall:∀ p:Nat,G.e p v->(p:Int)∈done):m=sdv G v/\m<v :=
 have e:=h.mn.done T h0 hv hall
 ⟨e,by rw[e];exact(T.sdv v h0 hv).lt T h0 hv⟩
end
structure A3(w W:World)(fb gw gr:Nat)(G:Dg)(par hi:Nat->Nat)(v:Nat)(done:List Int)(semi up least way:List Int)(q:Nat->Option Addr)(c:Nat->Nat)(rw:Nat->List Int)(qw:Nat->Option Addr)(cw:Nat->Nat)(res:List Int):Prop where
 mm:Mm w W fb gw gr G.N semi up least way q c rw qw cw res
 aw:Aw G par hi v semi up least res (wt G.N rw) done
 ln:∀ j,(rw j).length<=G.N - v
 wl:way.length<=1048576
section
variable {w W W':World} {fb gw gr v m:Nat} {semi up least way done:List Int} {q:Nat->Option Addr} {c:Nat->Nat} {rw:Nat->List Int} {qw:Nat->Option Addr} {cw:Nat->Nat} {res:List Int}
theorem A3.of(T:Tr G par hi){semi':List Int}(h:A2 w W' fb gw gr G par hi v m done semi' up least way q c rw qw cw res)(h0:0<v)(hv:v<G.N)(hm:m=sdv G v){qw':Nat->Option Addr}{cw':Nat->Nat}(hm2:Mm w W fb gw gr G.N (semi'.set v (m:Int)) (up.set v (par v:Int)) least way q c (up1 rw m (rw m ++ [(v:Int)])) qw' cw' res):A3 w W fb gw gr G par hi v [] (semi'.set v (m:Int)) (up.set v (par v:Int)) least way q c (up1 rw m (rw m ++ [(v:Int)])) qw' cw' res:=by
 have hmN:m<G.N:=by have:=(T.sdv v h0 hv).lt T h0 hv;omega
 refine⟨hm2,?_,λ j=>?_,h.wl⟩
 ·have:=h.ab.put T h0 hv (by rw[hm]:semi'.set v (m:Int)=semi'.set v (sdv G v:Int))
  rw[<- hm,wt_get hmN,wt_set]at this;exact this
 ·unfold up1
  have:=h.ln j;split
  ·rename_i e;subst e;simp;omega
  ·omega
theorem A3.sb(h:A3 w W fb gw gr G par hi v done semi up least way q c rw qw cw res)(n:Nat)(x:Int):Sb w.heap.size (W.setCell ⟨gr,n,none⟩ (.int .i64 x)) fb G hi (sdv G) v up semi least way q c :=
 ⟨(h.mm.setR n x).sf,h.aw.fo,h.aw.sl,λ k hk hkN=>h.aw.shi k hk hkN,h.wl⟩
theorem A3.wait(h:A3 w W fb gw gr G par hi v done semi up least way q c rw qw cw res){f:Nat}(hf:f<G.N){x:Int}(hx:x∈rw f):∃ n:Nat,x=(n:Int)/\v<=n/\n<G.N:=by
 obtain⟨n,h1,h2,h3,_⟩:=h.aw.ws f hf x (by rw[wt_get hf];exact hx);exact⟨n,h1,h2,h3⟩
theorem A3.tell(T:Tr G par hi)(h:A3 w W fb gw gr G par hi v done semi up least way q c rw qw cw res)(h0:0<v)(hv:v<G.N){n b:Nat}(hx:(n:Int)∈rw (par v)){up' least' way':List Int}{q':Nat->Option Addr}{c':Nat->Nat}(hs:Sb w.heap.size W' fb G hi (sdv G) v up' semi least' way' q' c')(hk:Fk (W.setCell ⟨gr,n,none⟩ (.int .i64 (par v:Int))) W' fb q q')(hb:Bst G hi (sdv G) v n b) :
  (sdv G b<par v->A3 w (W'.setCell ⟨gr,n,none⟩ (.int .i64 (b:Int))) fb gw gr G par hi v (done ++ [(n:Int)]) semi up' least' way' q' c' rw qw cw ((res.set n (par v:Int)).set n (b:Int))) /\
  (¬ sdv G b<par v->A3 w W' fb gw gr G par hi v (done ++ [(n:Int)]) semi up' least' way' q' c' rw qw cw (res.set n (par v:Int))):=by
 have hp:=(T.up v h0 hv).1;have hm:=(h.mm.setR n (par v:Int)).best hk hs.sr;have ht:=h.aw.tell T h0 hv (by rw[wt_get (by omega)];exact hx) hs.fo hb;refine⟨λ e=>?_,λ e=>?_⟩
 ·rw[if_pos e]at ht
  exact⟨hm.setR n (b:Int),ht,h.ln,hs.wl⟩
 ·rw[if_neg e,List.set_set]at ht
  exact⟨hm,ht,h.ln,hs.wl⟩
theorem A3.close(T:Tr G par hi)(h:A3 w W fb gw gr G par hi v (rw (par v)) semi up least way q c rw qw cw res)(h0:0<v)(hv:v<G.N):A1 w (W.setCell ⟨gw,par v,none⟩ (.slice none 0 0)) fb gw gr G par hi v semi up least way q c (up1 rw (par v) []) (up1 qw (par v) none) (up1 cw (par v) 0) res:=by
 have hp:=(T.up v h0 hv).1;have ha:=h.aw;rw[<- wt_get (N:=G.N) (rw:=rw) (f:=par v) (by omega)]at ha;have hd:=ha.done T h0 hv;rw[wt_set]at hd;refine⟨h.mm.drop (par v),hd,λ j=>?_,h.wl⟩;unfold up1;split
 ·exact Nat.zero_le _
 ·exact h.ln j
end
variable {G:Dg} {par hi:Nat->Nat}
theorem sabove_any(T:Tr G par hi){B B' b gp:Nat}{S:Ws}{r:Nat->List Int}{P:Nat->Option Addr}{C:Nat->Nat}(w:World)(ht:Tt B w b S)(hfl:S.frm.length=G.N)(hfr:∀ m,0<m->m<G.N->S.frm.getD m 0=(par m:Int))(hp:Sr B' w gp (List.range G.N) r P C)(hr:∀ j,j<G.N->∀ x,x∈r j↔∃ p:Nat,x=(p:Int)/\G.e p j)(hln:∀ j,(r j).length<=134217728)(hN:G.N<=1048576) :
  Calls Tryz.prog 101 #[.pointer (some ⟨b,0,none⟩),.slice (some ⟨gp,0,none⟩) G.N G.N] w (AbQ w G):=by
 obtain⟨q2,c2,d2,n2,_⟩:=ht.r2;rw[hfl]at d2;have hbl:=ht.bl;have HFR:Hid (∀ W,Below w.heap.size w W->W.cell? ⟨b,2,none⟩=some (.slice q2 G.N c2)/\NumsAt .i64 W q2 S.frm):=aQ (λ W hb=>⟨(hb.cell (p:=⟨b,2,none⟩) hbl).trans d2,n2.below hb⟩);have HPR:Hid (∀ W,Below w.heap.size w W->Sr B' W gp (List.range G.N) r P C):=aQ (λ W hb=>hp.chg ⟨hb.os,hb.tape,hb.output,hb.size,λ k hk _=>hb.block k hk⟩ (X:=λ _=>False) (λ c=>c) (λ _ _ _ _ c=>c));have HTR:=aQ T;have HR:=aQ hr;have HLN:=aQ hln;have HFV:=aQ hfr;have HFL:=aQ hfl;have HQ:Hid (∀ W gr res,Lp G hi G.N res->W.ownsRow w.heap.size 3 1 (.slice (some ⟨gr,0,none⟩) G.N G.N) G.N (aX res)->Below w.heap.size w W->AbQ w G (.returned (.slice (some ⟨gr,0,none⟩) G.N G.N)) W):=aQ (λ W gr res h1 h2 h3=>⟨gr,res,rfl,h2,h1.rl,h1.done,h3⟩);generalize AbQ w G=Q at *;obtain⟨N,hNd⟩:∃ N,G.N=N:=⟨_,rfl⟩;have HND:=aQ hNd;have hmk:=λ W=>run_make_row' (P:=Tryz.prog) 72 34 (.slice none 0 0) 24 Tryz.underlying72 infoInts rfl .i64 .i64 N (by omega) (by omega) W
 have HREP:Hid (∀ (k:Nat) (W:World),W.heap[k]?=some (.cells #[.int .i64 (-1)] 3 (0,0))->Calls Tryz.prog 102 #[.slice (some ⟨k,0,none⟩) 1 1,.int .i64 (N:Int)] W λ e w'=>∃ g,e=.returned (.slice (some ⟨g,0,none⟩) N N)/\W.heap.size<=g/\w'.heap[g]?=some (.cells (rpc (-1) N N).toArray 3 (0,0))/\Below W.heap.size W w'):=aQ (λ k W h=>rep_any _ 1 (-1) N W (by omega) ⟨by simp,λ i hi=>⟨k,0,rfl,(Array.getElem?_eq_some_iff.1 h).1,by
  have:i=0:=by simpa using hi
  subst this;simp[World.cell?,h]⟩⟩)
 have HPL:Hid (∀ W,Calls Tryz.prog 135 #[.int .i64 (N:Int)] W _):=aQ (λ W=>splant_any N W (by omega));have HN9:Hid (∀ W:World,(W.alloc (.cells #[.int .i64 (-1)] 3)).heap[W.heap.size]?=some (.cells #[.int .i64 (-1)] 3 (0,0))):=aQ (λ W=>dL _ _)
 have HA0:Hid (∀ w1 w2 fb gr q c,w.heap.size<=fb->Sr w.heap.size w1 fb FJ (fr (List.replicate N (-1)) ((List.range N).map Int.ofNat) ((List.range N).map Int.ofNat) []) q c->Below w.heap.size w w1->Below w1.heap.size w1 w2->w1.heap.size<=gr->w2.heap[gr]?=some (.cells (rpc (-1) N N).toArray 3 (0,0)) ->
   A1 w (w2.alloc (.cells (madeCells #[.slice none 0 0] N) 34)) fb w2.heap.size gr G par hi N ((List.range N).map Int.ofNat) (List.replicate N (-1)) ((List.range N).map Int.ofNat) [] q c (λ _=>[]) (λ _=>none) (λ _=>0) (List.replicate N (-1))):=aQ (λ w1 w2 fb gr q c h1 h2 h3 h4 h5 h6=>by
  have hm:=Mm.start h1 h2 h3 h4 h5 h6 (by omega);rw[<- HND.out]at hm ⊢;exact⟨hm,by rw[wt_nil];exact Ab.start,λ j=>Nat.zero_le _,Nat.zero_le _⟩)
 rw[hNd]at HFR HPR hN ⊢;clear ht hfl hfr hp hr hln d2 n2 hNd T;go_enter Tryz.func101,Tryz.ntmps101
 go_wp2_with (first
  | (go_at_call 135;(with_reducible refine(HPL.out _).mono ?_);rintro e w1 ⟨fb,q,c,rfl,hfb,hsr,hb1⟩;have HFB:=aQ hfb;have HSR:=aQ hsr;have HB1:=aQ hb1;clear hfb hsr hb1)
  | (go_at_call 102;(with_reducible refine(HREP.out _ _ (HN9.out _)).mono ?_);rintro e w2 ⟨gr,rfl,hgr,hu,hb2⟩;have HGR:=aQ hgr;have HU:=aQ hu;have HB2:=aQ hb2;clear hgr hu hb2))
 have HA1:=aQ (HA0.out _ _ fb gr q c HFB.out HSR.out HB1.out ((b1 (w:=w1)).trans (HB2.out.mono (by simp))) (by have:=HGR.out;simp at this;omega) HU.out);obtain⟨gw,hgw⟩:∃ gw,w2.heap.size=gw:=⟨_,rfl⟩;obtain⟨W0,hW0⟩:∃ W0,w2.alloc (.cells (madeCells #[.slice none 0 0] N) 34)=W0:=⟨_,rfl⟩;rw[hgw,hW0]at HA1 ⊢;clear hW0 hgw HA0 HREP HPL HN9 HFB HSR HB1 HGR HU HB2 hmk
 go_loopw [8] (λ u wr=>∃ (L:Nat) (x:Int) (semi up least way:List Int) (q:Nat->Option Addr) (c:Nat->Nat) (rw:Nat->List Int) (qw:Nat->Option Addr) (cw:Nat->Nat) (res:List Int),u=.int .i64 x/\Hid (x=(L:Int) - 1/\L<=N/\(L=0->N=0))/\Hid (A1 w wr fb gw gr G par hi L semi up least way q c rw qw cw res)) (λ u _=>(RowKit.intOf u+1).toNat)
 case atStart=>exact⟨N,_,_,_,_,_,_,_,_,_,_,_,rfl,aQ ⟨by omega,Nat.le_refl _,λ h=>h⟩,HA1⟩
 case round =>
  clear HA1;obtain⟨L,x,semi,up,least,way,q,c,rw',qw,cw,res,rfl,HX,HA⟩:=hrel;by_cases hL:1<L
  ·obtain⟨v,rfl⟩:∃ v,L=v+1:=⟨L - 1,by omega⟩
   obtain rfl:x=(v:Int):=by have:=HX.out.1;omega
   have hvN:v<N:=by have:=HX.out.2.1;omega
   have hv0:0<v:=by omega
   have hp:=HPR.out wr HA.out.mm.bl;have dp:=hp.cl v (List.mem_range.2 hvN);have lp:=hp.bl;obtain⟨rl,hrl⟩:∃ l,(r v).length=l:=⟨_,rfl⟩;have HRL:Hid ((r v).length=rl/\rl<=134217728):=aQ ⟨hrl,by rw[<- hrl];exact HLN.out v⟩;obtain⟨pv,hpv⟩:∃ a,P v=a:=⟨_,rfl⟩;have HNV:Hid (∀ W,Below w.heap.size w W->NumsAt .i64 W pv (r v)):=aQ (λ W hb=>by rw[<- hpv];exact(HPR.out W hb).nums (j:=v) (List.mem_range.2 hvN) (by have:=HRL.out;omega));rw[hrl,hpv]at dp;have hrlb:=HRL.out.2;have HA2:Hid (A2 w wr fb gw gr G par hi v v [] semi up least way q c rw' qw cw res):=aQ (HA.out.open (by rw[HND.out];exact hvN));clear hp hrl hpv HA;go_wp2_with fail
   go_loopw [38] (λ u wr=>∃ (j m:Nat) (up least way:List Int) (q:Nat->Option Addr) (c:Nat->Nat),j<=rl/\u=.int .i64 (j:Int)/\Hid (A2 w wr fb gw gr G par hi v m ((r v).take j) semi up least way q c rw' qw cw res)) (λ u _=>rl - (RowKit.intOf u).toNat)
   case atStart=>exact⟨0,v,_,_,_,_,_,Nat.zero_le _,rfl,by rw[List.take_zero];exact HA2⟩
   case round =>
    clear HA2;obtain⟨j,m,up,least,way,q,c,hj,rfl,HA⟩:=hrel;by_cases hjr:j<rl
    ·have hn:=HNV.out wr HA.out.mm.bl
     obtain⟨b5,o5,eP,hl5,e5⟩:=hn.cells j (by rw[HRL.out.1];exact hjr);have hmem:(r v).getD j 0∈r v:=getD_memI (by rw[HRL.out.1];exact hjr);obtain⟨p,ep,hep⟩:=(HR.out v (by rw[HND.out];exact hvN) _).1 hmem;have hpN:=HTR.out.src _ _ hep;have HEP:=aQ hep
     have HTK:Hid ((r v).take (j+1)=(r v).take j ++ [(p:Int)]):=aQ (by
      have hl:j<(r v).length:=by rw[HRL.out.1];exact hjr
      rw[List.take_add_one,List.getElem?_eq_getElem hl,<- ep,List.getD_eq_getElem?_getD,List.getElem?_eq_getElem hl];rfl)
     rw[ep]at e5;have hsl:(semi.set v (m:Int)).length=N:=by rw[List.length_set,HA.out.ab.sl];exact HND.out
     obtain⟨g1,q1,_,_,_,_,_⟩:=HA.out.mm.sf.row (j:=1) (by decide) (by show 0<(semi.set v (m:Int)).length;rw[hsl];omega);have HB:Hid (Calls Tryz.prog 136 #[.pointer (some ⟨fb,0,none⟩),.int .i64 (p:Int)] wr.drew (BestP wr.drew w.heap.size fb G hi (sdv G) (v+1) p (semi.set v (m:Int)) q c)):=aQ (sbest_any HTR.out (HA.out.grown (eY wr)).sb hpN (by rw[HND.out];exact hN) (Nat.le_trans HA.out.mm.bl.size (Nat.le_refl _)));have d1:=HA.out.mm.sf.clE (j:=1) (by decide) (l:=semi.set v (m:Int)) rfl q1 rfl hsl;have s1:=(HA.out.mm.sf.atI (j:=1) (by decide) q1 (l:=semi.set v (m:Int)) rfl (i:=v) (by rw[hsl];exact hvN)).1
     have ew:(semi.set v (m:Int)).getD v 0=(m:Int):=by
      rw[bA,if_pos ⟨rfl,by rw[List.length_set]at hsl;omega⟩]
     rw[ew]at s1;have lfb:=HA.out.mm.sf.bl;have HQ1:=aQ q1;have HSL:=aQ hsl;rw[HND.out]at hpN;subst eP;clear hn hmem hep ep ew q1 hsl;go_wp2_with fail
     have HSTEP:Hid (∀ w1 (b:Nat) (up' least' way':List Int) (q':Nat->Option Addr) (c':Nat->Nat),b<G.N->Bst G hi (sdv G) (v+1) p b->Sb w.heap.size w1 fb G hi (sdv G) (v+1) up' (semi.set v (m:Int)) least' way' q' c'->Fk wr.drew w1 fb q q'->Kp q c q' c' ->
       (w1.cell? ⟨fb,1,none⟩=some (.slice (some ⟨g1,0,none⟩) N (c 1))/\w1.cell? ⟨g1,v,none⟩=some (.int .i64 (m:Int))/\w1.frozen? ⟨g1,v,none⟩=false/\(w1.setCell ⟨g1,v,none⟩ (.int .i64 (min (m:Int) ((semi.set v (m:Int)).getD b 0)))).cell? ⟨fb,1,none⟩=some (.slice (some ⟨g1,0,none⟩) N (c 1))/\w1.cell? ⟨g1,b,none⟩=some (.int .i64 ((semi.set v (m:Int)).getD b 0)))/\b<N /\
       Hid (∃ m':Nat,A2 w (w1.setCell ⟨g1,v,none⟩ (.int .i64 (min (m:Int) ((semi.set v (m:Int)).getD b 0)))) fb gw gr G par hi v m' ((r v).take (j+1)) semi up' least' way' q' c' rw' qw cw res)):=aQ (λ w1 b up' least' way' q' c' hbN hbst hsb hfk hkp=>by
      have hA:=(HA.out.grown (eY wr)).best hsb hfk;have hq:=(hkp 1 (by decide)).1.trans HQ1.out;have hd:=hsb.sr.clE (j:=1) (by decide) (l:=semi.set v (m:Int)) rfl hq (hkp 1 (by decide)).2 HSL.out;have hv:=hsb.sr.atI (j:=1) (by decide) hq (l:=semi.set v (m:Int)) rfl (i:=v) (by rw[HSL.out];exact hvN);have hb:=hsb.sr.atI (j:=1) (by decide) hq (l:=semi.set v (m:Int)) rfl (i:=b) (by rw[HSL.out,<- HND.out];exact hbN)
      have ew:(semi.set v (m:Int)).getD v 0=(m:Int):=by
       rw[bA,if_pos ⟨rfl,by have:=HSL.out;rw[List.length_set]at this;omega⟩]
      have hne:g1≠fb:=λ e=>hsb.sr.ne 1 (by decide) (by rw[hq,e];rfl)
      rw[ew]at hv;have hst:=hA.step HTR.out (by rw[HND.out];exact hvN) HEP.out hbst hbN hq;rw[<- HTK.out]at hst;exact⟨⟨hd,hv.1,hv.2,(World.cell?_setCell_other _ _ _ _ (λ e=>hne (congrArg Addr.block e))).trans hd,hb.1⟩,by rw[<- HND.out];exact hbN,aQ hst⟩)
     generalize semi.set v (m:Int)=sl at *;clear HA HQ1 HSL HTK HEP;refine wp_region_held_drew (S:=(λ W'=>W'.cell? ⟨fb,1,none⟩=some (.slice (some ⟨g1,0,none⟩) N (c 1)))) (by kernel_rfl) ?_ (λ hHeld=>?_)
     ·(try dsimp only);first|exact d1|exact d5|exact d9
     refine aT 0 rfl (h:=aT 1 rfl (h:=aT 2 rfl (h:=aT 3 rfl (h:=aT 4 rfl (h:=?_)))));try simp only[Act.put,aA,aB,aC]
     refine aT 5 rfl (h:=aT 6 rfl (h:=aT 7 rfl (h:=aT 8 rfl (h:=aT 9 rfl (h:=?_)))));try simp only[Act.put,aA,aB,aC]
     refine aT 10 rfl (h:=aT 12 rfl (h:=aT 13 rfl (h:=aT 14 rfl (h:=aT 15 rfl (h:=?_)))));try simp only[Act.put,aA,aB,aC]
     refine aT 16 rfl (h:=aT 17 rfl (h:=?_));try simp only[Act.put,aA,aB,aC]
     refine bY 11 18 (by kernel_rfl) rfl rfl (λ K hK=>?_) (λ K hK=>?_)
     ·
      go_simp
      refine hK.out _ _ ?_ (λ hHeld=>?_)
      ·(try dsimp only);first|exact d1|exact d5|exact d9
      clear hK K;try simp only[Act.put,aA,aB,aC]
      refine aK 18 (by kernel_rfl) rfl (λ K hK=>?_);go_simp
      (go_at_call 136;(with_reducible refine HB.out.mono ?_);rintro e w1 ⟨b',up',least',way',q',c',rfl,hbN,hbst,hsb,hfk,hkp⟩;obtain⟨⟨d5,s5,z5,d9,t5⟩,hbN',HA'⟩:=HSTEP.out w1 b' up' least' way' q' c' hbN hbst hsb hfk hkp;clear hbst hsb hfk hkp hbN)
      refine hK.out _ _ ?_ (λ hHeld=>?_)
      ·(try dsimp only);first|exact d1|exact d5|exact d9
      clear hK K;try simp only[Act.put,aA,aB,aC]
      refine aT 19 rfl (h:=?_);try simp only[Act.put,aA,aB,aC]
      refine aK 20 (by kernel_rfl) rfl (λ K hK=>?_);go_simp
      refine hK.out _ _ ?_ (λ hHeld=>?_)
      ·(try dsimp only);first|exact d1|exact d5|exact d9
      clear hK K;try simp only[Act.put,aA,aB,aC]
      refine aT 21 rfl (h:=aT 22 rfl (h:=?_));try simp only[Act.put,aA,aB,aC]
      refine aK 23 (by kernel_rfl) rfl (λ K hK=>?_);go_simp
      refine hK.out _ _ ?_ (λ hHeld=>?_)
      ·(try dsimp only);first|exact d1|exact d5|exact d9
      clear hK K;try simp only[Act.put,aA,aB,aC]
      refine wpAnyH_done (by kernel_rfl) ?_ _;all_goals rw[List.getD_eq_getElem?_getD]at HA'
      all_goals go_wp2_with fail
      all_goals go_roundw
      all_goals first
       | (obtain⟨m',hA'⟩:=HA'.out;exact⟨j+1,m',_,_,_,_,_,by omega,rfl,aQ hA'⟩)
       | (simp[RowKit.intOf];omega)
     ·
      go_simp
      (go_at_call 136;(with_reducible refine HB.out.mono ?_);rintro e w1 ⟨b',up',least',way',q',c',rfl,hbN,hbst,hsb,hfk,hkp⟩;obtain⟨⟨d5,s5,z5,d9,t5⟩,hbN',HA'⟩:=HSTEP.out w1 b' up' least' way' q' c' hbN hbst hsb hfk hkp;clear hbst hsb hfk hkp hbN)
      refine hK.out _ _ ?_ (λ hHeld=>?_)
      ·(try dsimp only);first|exact d1|exact d5|exact d9
      clear hK K;try simp only[Act.put,aA,aB,aC]
      refine aT 19 rfl (h:=?_);try simp only[Act.put,aA,aB,aC]
      refine bY 11 20 (by kernel_rfl) rfl rfl (λ K hK=>?_) (λ K hK=>?_)
      ·
       go_simp
       refine hK.out _ _ ?_ (λ hHeld=>?_)
       ·(try dsimp only);first|exact d1|exact d5|exact d9
       clear hK K;try simp only[Act.put,aA,aB,aC]
       refine aK 20 (by kernel_rfl) rfl (λ K hK=>?_);go_simp
       refine hK.out _ _ ?_ (λ hHeld=>?_)
       ·(try dsimp only);first|exact d1|exact d5|exact d9
       clear hK K;try simp only[Act.put,aA,aB,aC]
       refine aT 21 rfl (h:=aT 22 rfl (h:=?_));try simp only[Act.put,aA,aB,aC]
       refine aK 23 (by kernel_rfl) rfl (λ K hK=>?_);go_simp
       refine hK.out _ _ ?_ (λ hHeld=>?_)
       ·(try dsimp only);first|exact d1|exact d5|exact d9
       clear hK K;try simp only[Act.put,aA,aB,aC]
       refine wpAnyH_done (by kernel_rfl) ?_ _;all_goals rw[List.getD_eq_getElem?_getD]at HA'
       all_goals go_wp2_with fail
       all_goals go_roundw
       all_goals first
        | (obtain⟨m',hA'⟩:=HA'.out;exact⟨j+1,m',_,_,_,_,_,by omega,rfl,aQ hA'⟩)
        | (simp[RowKit.intOf];omega)
      ·
       go_simp
       refine hK.out _ _ ?_ (λ hHeld=>?_)
       ·(try dsimp only);first|exact d1|exact d5|exact d9
       clear hK K;try simp only[Act.put,aA,aB,aC]
       refine aK 11 (by kernel_rfl) rfl (λ K hK=>?_);go_simp
       refine hK.out _ _ ?_ (λ hHeld=>?_)
       ·(try dsimp only);first|exact d1|exact d5|exact d9
       clear hK K;try simp only[Act.put,aA,aB,aC]
       refine aT 21 rfl (h:=aT 22 rfl (h:=?_));try simp only[Act.put,aA,aB,aC]
       refine aK 23 (by kernel_rfl) rfl (λ K hK=>?_);go_simp
       refine hK.out _ _ ?_ (λ hHeld=>?_)
       ·(try dsimp only);first|exact d1|exact d5|exact d9
       clear hK K;try simp only[Act.put,aA,aB,aC]
       refine wpAnyH_done (by kernel_rfl) ?_ _;all_goals rw[List.getD_eq_getElem?_getD]at HA'
       all_goals go_wp2_with fail
       all_goals go_roundw
       all_goals first
        | (obtain⟨m',hA'⟩:=HA'.out;exact⟨j+1,m',_,_,_,_,_,by omega,rfl,aQ hA'⟩)
        | (simp[RowKit.intOf];omega)
    ·obtain rfl:rl=j:=by omega
     have hvG:v<G.N:=by rw[HND.out];exact hvN
     have hnum:=HA.out.num HTR.out hv0 hvG (λ p hp=>by
      rw[<- HRL.out.1,List.take_length];exact(HR.out v hvG _).2 ⟨p,rfl,hp⟩)
     have HM:=aQ hnum.1;have hmv:=hnum.2;have hsl:(semi.set v (m:Int)).length=N:=by rw[List.length_set,HA.out.ab.sl];exact HND.out
     have hul:up.length=N:=by rw[HA.out.ab.fo.l1];exact HND.out
     obtain⟨g1,q1,_,_,hg1,_,_⟩:=HA.out.mm.sf.row (j:=1) (by decide) (by show 0<(semi.set v (m:Int)).length;rw[hsl];omega);obtain⟨g0,q0,_,hgl0,hg0,_,_⟩:=HA.out.mm.sf.row (j:=0) (by decide) (by show 0<up.length;rw[hul];omega);have d1:=HA.out.mm.sf.clE (j:=1) (by decide) (l:=semi.set v (m:Int)) rfl q1 rfl hsl;have s1:=(HA.out.mm.sf.atI (j:=1) (by decide) q1 (l:=semi.set v (m:Int)) rfl (i:=v) (by rw[hsl];exact hvN)).1
     have ew:(semi.set v (m:Int)).getD v 0=(m:Int):=by
      rw[bA,if_pos ⟨rfl,by rw[List.length_set]at hsl;omega⟩]
     rw[ew]at s1;have hmN:m<N:=by omega
     have hmm:m∈List.range N:=List.mem_range.2 hmN;obtain⟨wl,hwl⟩:∃ l,(rw' m).length=l:=⟨_,rfl⟩;have dw:=HA.out.mm.sw.clE (j:=m) (by rw[HND.out];exact hmm) (l:=rw' m) rfl rfl rfl hwl;have fw:=HA.out.mm.sw.fz m;have lgw:=HA.out.mm.sw.bl;have HWL:Hid (wl<=N):=aQ (by have:=HA.out.ln m;have:=HND.out;omega);have HXE:Hid ((rw' m).length=wl/\(rw' m ++ [(v:Int)]).length=wl+1/\(rw' m).length+[(v:Int)].length<=1099511627776):=aQ ⟨hwl,by simp[hwl],by have:=HWL.out;simp;omega⟩;have HS9:=aQ (λ (x:Int) (W:World) k (e:k=W.heap.size)=>(e ▸ bH (k:=.i64) W 3 [x] #[.int .i64 x] rfl (by simp):NumsAt .i64 (W.alloc (.cells #[.int .i64 x] 3)) (some ⟨k,0,none⟩) [x]).below ((Below.refl _ _).drew));have HMA:Hid (Mm w (wr.alloc (.cells #[.int .i64 (v:Int)] 3)).drew fb gw gr G.N (semi.set v (m:Int)) up least way q c rw' qw cw res):=aQ (HA.out.mm.grown (cR wr _));have HSL:=aQ (And.intro hsl ew);have HQQ:=aQ (And.intro q0 q1);have S1:wr.cell? ⟨fb,1,none⟩=some (.slice (some ⟨g1,0,none⟩) N (c 1))/\wr.cell? ⟨g1,v,none⟩=some (.int .i64 (m:Int)):=⟨d1,s1⟩
     have HCEL:Hid (∀ W rwx qwx cwx,Mm w W fb gw gr G.N (semi.set v (m:Int)) up least way q c rwx qwx cwx res->W.cell? ⟨fb,1,none⟩=some (.slice (some ⟨g1,0,none⟩) N (c 1))/\W.cell? ⟨g1,v,none⟩=some (.int .i64 (m:Int))):=aQ (λ W rwx qwx cwx h =>
      ⟨h.sf.clE (j:=1) (by decide) (l:=semi.set v (m:Int)) rfl HQQ.out.2 rfl HSL.out.1,((h.sf.atI (j:=1) (by decide) HQQ.out.2 (l:=semi.set v (m:Int)) rfl (i:=v) (by rw[HSL.out.1];exact hvN)).1).trans (by rw[HSL.out.2])⟩)
     have SA:=HCEL.out _ _ _ _ HMA.out;have HMR:Hid (m∈List.range G.N):=aQ (by rw[HND.out];exact hmm);have hgwb:gw≠fb/\gw≠g1:=⟨HA.out.mm.n1.symm,λ e=>(HA.out.mm.xf 1 (by decide) g1 (by rw[q1];rfl)).1 e.symm⟩;clear hnum hsl hul q0 q1 ew hwl hmm d1 s1;go_wp2_with fail
     have HAP:Hid (∀ (w8:World) (q8:Option Addr) (c8:Nat),w8.ownsRow w.heap.size 3 1 (.slice q8 (wl+1) c8) (wl+1) (aX (rw' m ++ [(v:Int)]))->(wr.alloc (.cells #[.int .i64 (v:Int)] 3)).drew.grownBy w8 (Value.slice (qw m) wl (cw m)).ownBlock->((Value.slice q8 (wl+1) c8).ownBlock=(Value.slice (qw m) wl (cw m)).ownBlock∨(Value.slice q8 (wl+1) c8).ownBlock=some (wr.alloc (.cells #[.int .i64 (v:Int)] 3)).drew.heap.size) ->
       (w8.cell? ⟨fb,1,none⟩=some (.slice (some ⟨g1,0,none⟩) N (c 1))/\w8.cell? ⟨g1,v,none⟩=some (.int .i64 (m:Int)))/\((w8.setCell ⟨gw,m,none⟩ (.slice q8 (wl+1) c8)).cell? ⟨fb,1,none⟩=some (.slice (some ⟨g1,0,none⟩) N (c 1))/\(w8.setCell ⟨gw,m,none⟩ (.slice q8 (wl+1) c8)).cell? ⟨g1,v,none⟩=some (.int .i64 (m:Int))) /\
       w8.cell? ⟨gw,m,none⟩=some (.slice (qw m) wl (cw m))/\w8.frozen? ⟨gw,m,none⟩=false/\Hid (Mm w (w8.setCell ⟨gw,m,none⟩ (.slice q8 (wl+1) c8)) fb gw gr G.N (semi.set v (m:Int)) up least way q c (up1 rw' m (rw' m ++ [(v:Int)])) (up1 qw m q8) (up1 cw m c8) res)):=aQ (λ w8 q8 c8 ho hg hb=>by
      have hmid:=HMA.out.sw.mid HMR.out hg;rw[HXE.out.1]at hmid;have hx:=HMA.out.app HMR.out (by rw[HXE.out.2.1];exact ho) HXE.out.2.1.symm hg hb;have h9:=HCEL.out _ _ _ _ hx;have n1:=World.cell?_setCell_other w8 ⟨gw,m,none⟩ ⟨fb,1,none⟩ (.slice q8 (wl+1) c8) (λ e=>hgwb.1 (congrArg Addr.block e));have n2:=World.cell?_setCell_other w8 ⟨gw,m,none⟩ ⟨g1,v,none⟩ (.slice q8 (wl+1) c8) (λ e=>hgwb.2 (congrArg Addr.block e));exact⟨⟨n1.symm.trans h9.1,n2.symm.trans h9.2⟩,h9,hmid.1,hmid.2.1,aQ hx⟩)
     have HOW:Hid ((wr.alloc (.cells #[.int .i64 (v:Int)] 3)).drew.ownsRow w.heap.size 3 1 (.slice (qw m) wl (cw m)) (rw' m).length (aX (rw' m))):=aQ (HMA.out.sw.ownE (j:=m) HMR.out rfl rfl rfl HXE.out.1.symm);have HBW:Hid (w.heap.size<=(wr.alloc (.cells #[.int .i64 (v:Int)] 3)).drew.heap.size):=aQ HMA.out.bl.size;obtain⟨rm,hrm⟩:∃ l,rw' m=l:=⟨_,rfl⟩;rw[hrm]at HXE HAP HOW;have HRM:=aQ hrm;clear hrm
     go_cut [8] (λ s8 wx=>s8=.int .i64 (v:Int)/\Hid (∃ (q8:Option Addr) (c8:Nat),Mm w wx fb gw gr G.N (semi.set v (m:Int)) up least way q c (up1 rw' m (rw' m ++ [(v:Int)])) (up1 qw m q8) (up1 cw m c8) res))
     case first =>
      refine wp_region_held_drew (S:=(λ W'=>W'.cell? ⟨fb,1,none⟩=some (.slice (some ⟨g1,0,none⟩) N (c 1))/\W'.cell? ⟨g1,v,none⟩=some (.int .i64 (m:Int)))) (by kernel_rfl) ?_ (λ hHeld=>?_)
      ·(try dsimp only);first|exact S1|exact SA|exact S8|exact S9
      refine aT 0 rfl (h:=aT 1 rfl (h:=aT 2 rfl (h:=aT 3 rfl (h:=aT 4 rfl (h:=?_)))));try simp only[Act.put,aA,aB,aC]
      refine aT 5 rfl (h:=aT 6 rfl (h:=aT 7 rfl (h:=aT 8 rfl (h:=aT 9 rfl (h:=?_)))));try simp only[Act.put,aA,aB,aC]
      refine aT 10 rfl (h:=aT 11 rfl (h:=aT 12 rfl (h:=aT 13 rfl (h:=aT 14 rfl (h:=?_)))));try simp only[Act.put,aA,aB,aC]
      refine aT 15 rfl (h:=aT 16 rfl (h:=aT 18 rfl (h:=?_)));try simp only[Act.put,aA,aB,aC]
      refine bY 17 19 (by kernel_rfl) rfl rfl (λ K hK=>?_) (λ K hK=>?_)
      ·
       go_simp
       refine hK.out _ _ ?_ (λ hHeld=>?_)
       ·(try dsimp only);first|exact S1|exact SA|exact S8|exact S9
       clear hK K;try simp only[Act.put,aA,aB,aC]
       refine aK 19 (by kernel_rfl) rfl (λ K hK=>?_);go_simp
       refine hK.out _ _ ?_ (λ hHeld=>?_)
       ·(try dsimp only);first|exact S1|exact SA|exact S8|exact S9
       clear hK K;try simp only[Act.put,aA,aB,aC]
       refine aK 20 (by kernel_rfl) rfl (λ K hK=>?_)
       (refine bI rfl (.tmp 83) (.tmp 85) rfl rfl w.heap.size _ [(v:Int)] rm (.slice (qw m) wl (cw m)) 1 1 rfl (by simp[Act.eval]) (by simp[Act.eval];rfl) HOW.out (HS9.out _ _ _ (by simp)) HBW.out HXE.out.2.2 ?_;intro v8 w8 ho8 hg8 hb8;rw[HXE.out.2.1]at ho8;obtain⟨q8,c8,rfl⟩:=aW ho8;obtain⟨S8,S9,e8,fz8,HMX⟩:=HAP.out w8 q8 c8 ho8 hg8 hb8;clear ho8 hg8 hb8)
       refine hK.out _ _ ?_ (λ hHeld=>?_)
       ·(try dsimp only);first|exact S1|exact SA|exact S8|exact S9
       clear hK K;try simp only[Act.put,aA,aB,aC]
       refine aT 21 rfl (h:=?_);try simp only[Act.put,aA,aB,aC]
       refine aK 22 (by kernel_rfl) rfl (λ K hK=>?_);go_simp
       refine hK.out _ _ ?_ (λ hHeld=>?_)
       ·(try dsimp only);first|exact S1|exact SA|exact S8|exact S9
       clear hK K;try simp only[Act.put,aA,aB,aC]
       refine wpAnyH_done (by kernel_rfl) ?_ _;all_goals (go_wp2_with fail;go_meet)
       all_goals exact⟨rfl,aQ ⟨q8,c8,by rw[HRM.out];exact HMX.out⟩⟩
      ·
       go_simp
       refine hK.out _ _ ?_ (λ hHeld=>?_)
       ·(try dsimp only);first|exact S1|exact SA|exact S8|exact S9
       clear hK K;try simp only[Act.put,aA,aB,aC]
       refine aK 17 (by kernel_rfl) rfl (λ K hK=>?_);go_simp
       refine hK.out _ _ ?_ (λ hHeld=>?_)
       ·(try dsimp only);first|exact S1|exact SA|exact S8|exact S9
       clear hK K;try simp only[Act.put,aA,aB,aC]
       refine aK 20 (by kernel_rfl) rfl (λ K hK=>?_)
       (refine bI rfl (.tmp 83) (.tmp 85) rfl rfl w.heap.size _ [(v:Int)] rm (.slice (qw m) wl (cw m)) 1 1 rfl (by simp[Act.eval]) (by simp[Act.eval];rfl) HOW.out (HS9.out _ _ _ (by simp)) HBW.out HXE.out.2.2 ?_;intro v8 w8 ho8 hg8 hb8;rw[HXE.out.2.1]at ho8;obtain⟨q8,c8,rfl⟩:=aW ho8;obtain⟨S8,S9,e8,fz8,HMX⟩:=HAP.out w8 q8 c8 ho8 hg8 hb8;clear ho8 hg8 hb8)
       refine hK.out _ _ ?_ (λ hHeld=>?_)
       ·(try dsimp only);first|exact S1|exact SA|exact S8|exact S9
       clear hK K;try simp only[Act.put,aA,aB,aC]
       refine aT 21 rfl (h:=?_);try simp only[Act.put,aA,aB,aC]
       refine aK 22 (by kernel_rfl) rfl (λ K hK=>?_);go_simp
       refine hK.out _ _ ?_ (λ hHeld=>?_)
       ·(try dsimp only);first|exact S1|exact SA|exact S8|exact S9
       clear hK K;try simp only[Act.put,aA,aB,aC]
       refine wpAnyH_done (by kernel_rfl) ?_ _;all_goals (go_wp2_with fail;go_meet)
       all_goals exact⟨rfl,aQ ⟨q8,c8,by rw[HRM.out];exact HMX.out⟩⟩
     case rest =>
      obtain⟨rfl,HMX⟩:=hcut;obtain⟨q8,c8,hmx⟩:=HMX.out;obtain⟨pa,hpa⟩:∃ x,par v=x:=⟨_,rfl⟩;have hpav:=(HTR.out.up v hv0 (by rw[HND.out];exact hvN)).1;rw[hpa]at hpav;have hpN:pa<N:=by omega
      have HPA:=aQ hpa;have hfr:=HFR.out wc hmx.bl;have df:=hfr.1;obtain⟨b6,o6,eq6,hl6,e6⟩:=hfr.2.cells v (by rw[HFL.out,HND.out];exact hvN);rw[HFV.out v hv0 (by rw[HND.out];exact hvN),hpa]at e6;have lb:=World.block_lt_of_cell? wc ⟨b,2,none⟩ df;have hul:up.length=N:=by rw[HA.out.ab.fo.l1];exact HND.out
      have d0:=hmx.sf.clE (j:=0) (by decide) (l:=up) rfl HQQ.out.1 rfl hul;have t0:=hmx.sf.atI (j:=0) (by decide) HQQ.out.1 (l:=up) rfl (i:=v) (by rw[hul];exact hvN);have t01:=t0.1;have t02:=t0.2;obtain⟨sl,hsl⟩:∃ l,semi.set v (m:Int)=l:=⟨_,rfl⟩;obtain⟨rwx,hrx⟩:∃ l,up1 rw' m (rw' m ++ [(v:Int)])=l:=⟨_,rfl⟩;obtain⟨qwx,hqx⟩:∃ l,up1 qw m q8=l:=⟨_,rfl⟩;obtain⟨cwx,hcx⟩:∃ l,up1 cw m c8=l:=⟨_,rfl⟩
      have H3:Hid (A3 w (wc.setCell ⟨g0,v,none⟩ (.int .i64 (pa:Int))) fb gw gr G par hi v [] sl (up.set v (pa:Int)) least way q c rwx qwx cwx res):=aQ (by
       have hF:=hmx.setF (j:=0) (by decide) HQQ.out.1 v (pa:Int) (fr0 _ _ _ _ _);rw[<- hsl,<- hrx,<- hqx,<- hcx];have:=A3.of HTR.out HA.out hv0 (by rw[HND.out];exact hvN) HM.out (by rw[hpa];exact hF);rw[hpa]at this;exact this)
      obtain⟨W5,hW5⟩:∃ W5,wc.setCell ⟨g0,v,none⟩ (.int .i64 (pa:Int))=W5:=⟨_,rfl⟩;obtain⟨row,hrow⟩:∃ l,rwx pa=l:=⟨_,rfl⟩;obtain⟨pw,hpw⟩:∃ l,qwx pa=l:=⟨_,rfl⟩;obtain⟨cp,hcp⟩:∃ l,cwx pa=l:=⟨_,rfl⟩;obtain⟨wl2,hwl2⟩:∃ l,row.length=l:=⟨_,rfl⟩;have HW2:Hid (row.length=wl2/\wl2<=N):=aQ ⟨hwl2,by rw[<- hwl2,<- hrow];have:=H3.out.ln pa;have:=HND.out;omega⟩;have HRW:Hid (rwx pa=row):=aQ hrow
      have HDW:Hid (∀ W done up least way q c res,A3 w W fb gw gr G par hi v done sl up least way q c rwx qwx cwx res->W.cell? ⟨gw,pa,none⟩=some (.slice pw wl2 cp)/\W.frozen? ⟨gw,pa,none⟩=false/\NumsAt .i64 W pw row):=aQ (λ W done up least way q c res h=>by
       have hm:pa∈List.range G.N:=List.mem_range.2 (by rw[HND.out];exact hpN);refine⟨h.mm.sw.clE (j:=pa) hm (l:=row) hrow hpw hcp hwl2,h.mm.sw.fz pa,?_⟩;have:=h.mm.sw.nums (j:=pa) hm (by rw[hrow,HW2.out.1];have:=HW2.out;omega);rw[hrow,hpw]at this;exact this)
      have hwl2N:=HW2.out.2;clear hmx hfr t0 hrx hqx hcx hrow hpw hcp hwl2 HMX HA hsl HAP HOW HBW HMA HCEL HS9 HXE HRM S1 SA dw fw hul;subst eq6;rw[hW5]at H3;have dwf:=(HDW.out _ _ _ _ _ _ _ _ H3.out).1;go_wp2_with fail
      clear dwf hW5 df e6 d0 t01 t02
      go_loopw [107] (λ u wr=>∃ (j:Nat) (up least way:List Int) (q:Nat->Option Addr) (c:Nat->Nat) (res:List Int),j<=wl2/\u=.int .i64 (j:Int)/\Hid (A3 w wr fb gw gr G par hi v (row.take j) sl up least way q c rwx qwx cwx res)) (λ u _=>wl2 - (RowKit.intOf u).toNat)
      case atStart=>exact⟨0,_,_,_,_,_,_,Nat.zero_le _,rfl,by rw[List.take_zero];exact H3⟩
      case round =>
       clear H3;obtain⟨j,up,least,way,q,c,res,hj,rfl,H3⟩:=hrel;have hvG:v<G.N:=by rw[HND.out];exact hvN
       have hdw:=HDW.out _ _ _ _ _ _ _ _ H3.out;by_cases hjw:j<wl2
       ·obtain⟨b7,o7,eq7,hl7,e7⟩:=hdw.2.2.cells j (by rw[HW2.out.1];exact hjw)
        have hmem:row.getD j 0∈rwx pa:=by rw[HRW.out];exact getD_memI (by rw[HW2.out.1];exact hjw)
        obtain⟨n,en,hvn,hnG⟩:=H3.out.wait (by rw[HND.out];exact hpN) hmem;rw[en]at e7 hmem
        have HTK:Hid (row.take (j+1)=row.take j ++ [(n:Int)]):=aQ (by
         have hl:j<row.length:=by rw[HW2.out.1];exact hjw
         rw[List.take_add_one,List.getElem?_eq_getElem hl,<- en,List.getD_eq_getElem?_getD,List.getElem?_eq_getElem hl];rfl)
        have hnN:n<N:=by rw[<- HND.out];exact hnG
        have hgr:=H3.out.mm.so.cellAt n (by rw[HND.out];omega);have hrl:n<res.length:=by rw[H3.out.aw.rl];exact hnG
        rw[cD hrl]at hgr;have zgr:=H3.out.mm.so.frozenAt n;have HB:Hid (Calls Tryz.prog 136 #[.pointer (some ⟨fb,0,none⟩),.int .i64 (n:Int)] (wr.setCell ⟨gr,n,none⟩ (.int .i64 (pa:Int))) (BestP (wr.setCell ⟨gr,n,none⟩ (.int .i64 (pa:Int))) w.heap.size fb G hi (sdv G) v n sl q c)):=aQ (sbest_any HTR.out (H3.out.sb n (pa:Int)) hnG (by rw[HND.out];exact hN) (H3.out.mm.setR n (pa:Int)).bl.size)
        have HTL:Hid (∀ w1 (b:Nat) (up' least' way':List Int) (q':Nat->Option Addr) (c':Nat->Nat),b<G.N->Bst G hi (sdv G) v n b->Sb w.heap.size w1 fb G hi (sdv G) v up' sl least' way' q' c'->Fk (wr.setCell ⟨gr,n,none⟩ (.int .i64 (pa:Int))) w1 fb q q' ->
          ∃ (y1 sb:Nat) (x1:Nat) (z:Int),(w1.cell? ⟨fb,1,none⟩=some (.slice (some ⟨y1,0,none⟩) N x1)/\w1.cell? ⟨y1,b,none⟩=some (.int .i64 (sb:Int))/\w1.cell? ⟨gr,n,none⟩=some (.int .i64 z)/\w1.frozen? ⟨gr,n,none⟩=false)/\b<N /\
          Hid ((sb<pa->A3 w (w1.setCell ⟨gr,n,none⟩ (.int .i64 (b:Int))) fb gw gr G par hi v (row.take (j+1)) sl up' least' way' q' c' rwx qwx cwx ((res.set n (pa:Int)).set n (b:Int)))/\(¬ sb<pa->A3 w w1 fb gw gr G par hi v (row.take (j+1)) sl up' least' way' q' c' rwx qwx cwx (res.set n (pa:Int))))):=aQ (λ w1 b up' least' way' q' c' hbN hbst hsb hfk=>by
         obtain⟨y0,y1,y2,_,_,_,hc,_⟩:=hsb.cells (by omega);have hmR:=(H3.out.mm.setR n (pa:Int)).best hfk hsb.sr;have hz:=hmR.so.cellAt n (by rw[HND.out];omega);rw[cD (by rw[List.length_set];exact hrl)]at hz;have hs:=hc.k1 b hbN;rw[H3.out.aw.shi b (hbst.hi hvn).1 hbN]at hs;have hd:=hc.d1;rw[HND.out]at hd;have htl:=H3.out.tell HTR.out hv0 hvG (n:=n) (b:=b) (by rw[HPA.out];exact hmem) hsb (by rw[HPA.out];exact hfk) hbst;rw[<- HTK.out,HPA.out]at htl;exact⟨y1,sdv G b,c' 1,_,⟨hd,hs,hz,hmR.so.frozenAt n⟩,by rw[<- HND.out];exact hbN,aQ htl⟩)
        clear hdw hmem en hrl hnG H3 HTK;subst eq7
        go_wp2_with (first
         | (go_at_call 136;(with_reducible refine HB.out.mono ?_);rintro e w1 ⟨b',up',least',way',q',c',rfl,hbN,hbst,hsb,hfk,_⟩;obtain⟨y1,sb,x1,z,⟨e1,e2,e3,e4⟩,hbN',HA'⟩:=HTL.out w1 b' up' least' way' q' c' hbN hbst hsb hfk;clear hbst hsb hfk hbN))
        all_goals go_roundw
        all_goals first
         | exact⟨j+1,_,_,_,_,_,_,by omega,rfl,aQ (HA'.out.1 (by omega))⟩
         | exact⟨j+1,_,_,_,_,_,_,by omega,rfl,aQ (HA'.out.2 (by omega))⟩
         | (simp[RowKit.intOf];omega)
       ·obtain rfl:wl2=j:=by omega
        have dwf:=hdw.1;have zwf:=hdw.2.1
        have HCL:Hid (A1 w (wr.setCell ⟨gw,pa,none⟩ (.slice none 0 0)) fb gw gr G par hi v sl up least way q c (up1 rwx pa []) (up1 qwx pa none) (up1 cwx pa 0) res):=aQ (by
         have h:=H3.out;rw[<- HW2.out.1,List.take_length,<- HRW.out,<- HPA.out]at h;have:=A3.close HTR.out h hv0 hvG;rw[HPA.out]at this;exact this)
        clear hdw H3;go_wp2_with fail
        go_roundw
        case rel=>exact⟨v,_,_,_,_,_,_,_,_,_,_,_,rfl,aQ ⟨by omega,by omega,λ e=>by omega⟩,HCL⟩
        case measure=>(simp[RowKit.intOf]) <;> omega
  ·have hx0:x<=0:=by have:=HX.out.1;omega
   have HLP0:Hid (Lp G hi 0 res):=aQ (HA.out.ab.last HTR.out (by omega) (λ e=>by rw[HND.out];exact HX.out.2.2 e));have HMM0:Hid (Mm w wr fb gw gr G.N semi up least way q c rw' qw cw res):=aQ HA.out.mm;have HSS:Hid (∀ n,0<n->n<G.N->semi.getD n 0=(sdv G n:Int)):=aQ (λ n h1 h2=>HA.out.ab.shi n (by omega) h2);have HSL:Hid (semi.length=N):=aQ (HA.out.ab.sl.trans HND.out);clear HA HX;go_wp2_with fail
   go_loopw [137] (λ u wr=>∃ (k:Nat) (res:List Int),k<=N/\u=.int .i64 (k:Int)/\Hid (Lp G hi k res)/\Hid (Mm w wr fb gw gr G.N semi up least way q c rw' qw cw res)) (λ u _=>N - (RowKit.intOf u).toNat)
   case atStart=>exact⟨0,_,Nat.zero_le _,rfl,HLP0,HMM0⟩
   case round =>
    clear HLP0 HMM0;obtain⟨k,res,hk,rfl,HLP,HMM⟩:=hrel;by_cases hkN:k<N
    ·have hkG:k<G.N:=by rw[HND.out];exact hkN
     have hrl:res.length=N:=by rw[HLP.out.rl];exact HND.out
     obtain⟨g1,q1,_,_,_,_,_⟩:=HMM.out.sf.row (j:=1) (by decide) (by show 0<semi.length;rw[HSL.out];omega);have d1:=HMM.out.sf.clE (j:=1) (by decide) (l:=semi) rfl q1 rfl HSL.out;have s1:=(HMM.out.sf.atI (j:=1) (by decide) q1 (l:=semi) rfl (i:=k) (by rw[HSL.out];exact hkN)).1
     have HCR:Hid (∀ i,i<N->wr.cell? ⟨gr,i,none⟩=some (.int .i64 (res.getD i 0))/\wr.frozen? ⟨gr,i,none⟩=false):=aQ (λ i hi=>by
      have:=HMM.out.so.cellAt i (by rw[HND.out];omega);rw[cD (by rw[hrl];exact hi)]at this;exact⟨this,HMM.out.so.frozenAt i⟩)
     have r1:=(HCR.out k hkN).1;have z1:=(HCR.out k hkN).2;have hst:=HLP.out.step HTR.out hkG HSS.out;obtain⟨a,ha⟩:∃ a,res.getD k 0=a:=⟨_,rfl⟩;obtain⟨y,hy⟩:∃ y,semi.getD k 0=y:=⟨_,rfl⟩;rw[ha,hy]at hst;rw[ha]at r1;rw[hy]at s1;have HST:=aQ hst;have lfb:=HMM.out.sf.bl;clear hst ha hy q1 hrl;by_cases h1:a = -1
     ·subst h1
      have HL1:Hid (Lp G hi (k+1) res):=aQ (HST.out.1 (λ c=>c.1 rfl));go_wp2_with fail
      go_quiet (fail)
      go_wp2_with fail
      go_roundw
      case rel=>exact⟨k+1,_,by omega,rfl,HL1,aQ (HMM.out.grown (cL wr nq))⟩
      case measure=>(simp[RowKit.intOf];omega)
     ·have hd:(a != -1)=true:=by simpa using h1
      by_cases h2:a=y
      ·subst h2
       have HL1:Hid (Lp G hi (k+1) res):=aQ (HST.out.1 (λ c=>c.2 rfl));go_wp2_with fail
       go_quiet (fail)
       go_wp2_with fail
       go_roundw
       case rel=>exact⟨k+1,_,by omega,rfl,HL1,aQ (HMM.out.grown (cL wr nq))⟩
       case measure=>(simp[RowKit.intOf];omega)
      ·have hd2:(a != y)=true:=by simpa using h2
       obtain⟨u,rfl,hu,hlp⟩:=HST.out.2 ⟨h1,h2⟩;rw[HND.out]at hu;have r2:=(HCR.out u hu).1;have HL1:=aQ hlp;obtain⟨ru,hru⟩:∃ x,res.getD u 0=x:=⟨_,rfl⟩;rw[hru]at r2 HL1;clear hlp hru;go_wp2_with fail
       go_quiet (fail)
       go_wp2_with fail
       go_roundw
       case rel=>exact⟨k+1,_,by omega,rfl,HL1,aQ ((HMM.out.grown (cL wr nq)).setR k ru)⟩
       case measure=>(simp[RowKit.intOf];omega)
    ·obtain rfl:N=k:=by omega
     have HF:Hid (Q (.returned (.slice (some ⟨gr,0,none⟩) G.N G.N)) wr):=aQ (HQ.out wr gr res (by rw[HND.out];exact HLP.out) HMM.out.so HMM.out.bl);rw[HND.out]at HF;clear HLP HMM;go_wp2_with fail
     exact HF.out
theorem ups_of{G:Dg}{par hi:Nat->Nat}(T:Tr G par hi){res:List Int}(hl:res.length=G.N)(h:∀ n,n<G.N->G.Up n (res.getD n 0)):Ups G res :=
 ⟨hl,h,λ n hn=>by
  rcases h n hn with ⟨e,_⟩|⟨a,e,hI⟩
  ·omega
  ·have:=(T.domAnc hI.d).1
   have:=hI.ne;omega⟩
theorem vz_frm{N:Nat}{cl:Int}{su:Nat->List Int}{f:Nat}(h0:isN N cl 0)(hf:N<1+f):∀ m,0<m->m<(vz N cl su f ws0 0).nodes.length->(vz N cl su f ws0 0).frm.getD m 0=(parN (vz N cl su f ws0 0) m:Int):=by
 obtain⟨hi,k,_⟩:=vz_ok N cl su f ws0 0 (ws0_wf h0) (by simp[ws0]) (by simpa[ws0]using hf);intro m h1 h2;have hs:ws0.nodes.length=1:=rfl;obtain⟨p,e1,_⟩:=k.nw m (by omega) h2;unfold parN;omega
theorem wkS_tree{g:List (List Int)}(hN:g.length<=1000):∃ hi,Tr (gN (λ i=>g.getD i []) (wkS g (-1))) (parN (wkS g (-1))) hi/\∀ m,0<m->m<(wkS g (-1)).nodes.length->(wkS g (-1)).frm.getD m 0=(parN (wkS g (-1)) m:Int):=by
 unfold wkS;by_cases h:isN g.length (-1) 0
 ·rw[if_pos h]
  obtain⟨hi,T⟩:=tree_ok (su:=λ i=>g.getD i []) (f:=1001) h (by omega);exact⟨hi,T,vz_frm h (by omega)⟩
 ·rw[if_neg h]
  exact⟨λ _=>0,⟨λ i j e=>e.1,λ m _ h=>absurd h (Nat.not_lt_zero _),λ m h=>absurd h (Nat.not_lt_zero _),λ m _ h=>absurd h (Nat.not_lt_zero _),λ m _ h=>absurd h (Nat.not_lt_zero _),λ a z e=>absurd e.1 (Nat.not_lt_zero _)⟩,λ m _ h=>absurd h (Nat.not_lt_zero _)⟩
structure Is(w w1 W:World)(gl gr N M:Nat)(l res:List Int):Prop where
 ol:W.ownsRow w.heap.size 3 1 (.slice (some ⟨gl,0,none⟩) N N) N (aX l)
 or:W.ownsRow w.heap.size 3 1 (.slice (some ⟨gr,0,none⟩) M M) M (aX res)
 bl:Below w1.heap.size w1 W
theorem Is.set{w w1 W:World}{gl gr N M:Nat}{l res:List Int}(h:Is w w1 W gl gr N M l res)(hne:gl≠gr)(hgl:w1.heap.size<=gl)(i:Nat)(x:Int):Is w w1 (W.setCell ⟨gl,i,none⟩ (.int .i64 x)) gl gr N M (l.set i x) res:=by
 refine⟨?_,aP (a:=⟨gl,i,none⟩) h.or (λ e=>hne (by injection e with e;exact e.symm)),h.bl.setCell (p:=⟨gl,i,none⟩) hgl _⟩;rw[<- intsV_set];exact(h.ol.stored i _).1
theorem Is.drew{w w1 W:World}{gl gr N M:Nat}{l res:List Int}(h:Is w w1 W gl gr N M l res):Is w w1 W.drew gl gr N M l res :=
 ⟨h.ol.drew,h.or.drew,h.bl.drew⟩
def OwnQ(l:List Int)(w:World)(e:Ending)(w':World):Prop :=
 ∃ gl,e=.returned (.slice (some ⟨gl,0,none⟩) l.length l.length)/\w'.ownsRow w.heap.size 3 1 (.slice (some ⟨gl,0,none⟩) l.length l.length) l.length (aX l)/\Below w.heap.size w w'
theorem sidom_any(q:Option Addr)(qc:Nat)(g:List (List Int))(w:World)(h:GsAt w q g)(hN:g.length<=999)(hT:tot g<=4096)(hW:Wd g):Calls Tryz.prog 56 #[.slice q g.length qc] w (OwnQ (idomL g) w):=by
 have H1:Hid (∀ W,Below w.heap.size w W->Calls Tryz.prog 99 #[.slice q g.length qc,.int .i64 (-1)] W (WkP W (wkS g (-1)))):=aQ (λ W hb=>swalk_any q qc g (-1) W (h.below hb) (by omega) (by omega));have hwf:=wkS_wf (g:=g) (cl:=-1) (by omega);have HNM:=aQ (wkS_nm (g:=g) (by omega));obtain⟨hi,hTr,hfr⟩:=wkS_tree (g:=g) (by omega)
 have HD:Hid (∀ W l gl,Il g (wkS g (-1)) (wkS g (-1)).nodes.length l->W.ownsRow w.heap.size 3 1 (.slice (some ⟨gl,0,none⟩) g.length g.length) g.length (aX l)->Below w.heap.size w W->OwnQ (idomL g) w (.returned (.slice (some ⟨gl,0,none⟩) g.length g.length)) W):=aQ (λ W l gl h1 h2 h3=>by
  have hl:=h1.ln;have e:=h1.done HNM.out;rw[<- hl]at h2 ⊢;rw[<- e];exact⟨_,rfl,h2,h3⟩)
 generalize OwnQ (idomL g) w=Q at *;obtain⟨S,hS⟩:∃ S,wkS g (-1)=S:=⟨_,rfl⟩;rw[hS]at H1 HNM HD hwf hTr hfr;have HNM':=HNM;have HTR:=aQ hTr;have HPR:Hid (∀ W b,Below w.heap.size w W->Tt w.heap.size W b S->Calls Tryz.prog 100 #[.pointer (some ⟨b,0,none⟩),.slice q g.length qc] W (PrP W (λ i=>g.getD i []) S)):=aQ (λ W b hb ht=>spreds_any q qc g W (h.below hb) hN hT hW ht HNM.out.nd HNM.out.lt (by omega))
 have HAB:Hid (∀ W B' b gp r P C,Tt w.heap.size W b S->Sr B' W gp (List.range S.nodes.length) r P C->(∀ j,j<S.nodes.length->∀ x,x∈r j↔∃ p:Nat,x=(p:Int)/\(gN (λ i=>g.getD i []) S).e p j)->(∀ j,(r j).length<=134217728)->Calls Tryz.prog 101 #[.pointer (some ⟨b,0,none⟩),.slice (some ⟨gp,0,none⟩) S.nodes.length S.nodes.length] W (AbQ W (gN (λ i=>g.getD i []) S))):=aQ (λ W B' b gp r P C ht hp hr hl =>
  sabove_any (G:=gN (λ i=>g.getD i []) S) HTR.out W ht hwf.2.1 hfr hp hr hl (by show S.nodes.length<=_;omega))
 have HUP:Hid (∀ res,res.length=S.nodes.length->(∀ n,n<S.nodes.length->(gN (λ i=>g.getD i []) S).Up n (res.getD n 0))->Ups (gN (λ i=>g.getD i []) S) res):=aQ (λ res h1 h2=>ups_of HTR.out h1 h2);obtain⟨M,hM⟩:∃ M,S.nodes.length=M:=⟨_,rfl⟩;have HMD:=aQ hM;have HML:Hid ((S.nodes.map Int.ofNat).length=M):=aQ ((List.length_map ..).trans hM);obtain⟨N,hNl⟩:∃ N,g.length=N:=⟨_,rfl⟩;have HNL:=aQ hNl;have hMN:=hwf.1;have HI0:=aQ (Il.start g S)
 have HLT:Hid (∀ k,k<M->S.nodes.getD k 0<N/\(S.nodes.map Int.ofNat).getD k 0=((S.nodes.getD k 0:Nat):Int)):=aQ (λ k hk=>⟨by rw[<- HNL.out];exact HNM.out.lt _ (bV (by rw[HMD.out];exact hk)),by
  rw[List.getD_eq_getElem?_getD,List.getD_eq_getElem?_getD,List.getElem?_map,List.getElem?_eq_getElem (by rw[HMD.out];exact hk)];rfl⟩)
 have HREP:Hid (∀ (k:Nat) (W:World),W.heap[k]?=some (.cells #[.int .i64 (-1)] 3 (0,0))->Calls Tryz.prog 102 #[.slice (some ⟨k,0,none⟩) 1 1,.int .i64 (N:Int)] W λ e w'=>∃ g,e=.returned (.slice (some ⟨g,0,none⟩) N N)/\W.heap.size<=g/\w'.heap[g]?=some (.cells (rpc (-1) N N).toArray 3 (0,0))/\Below W.heap.size W w'):=aQ (λ k W h=>rep_any _ 1 (-1) N W (by omega) ⟨by simp,λ i hi=>⟨k,0,rfl,(Array.getElem?_eq_some_iff.1 h).1,by
  have:i=0:=by simpa using hi
  subst this;simp[World.cell?,h]⟩⟩)
 have HN9:Hid (∀ W:World,(W.alloc (.cells #[.int .i64 (-1)] 3)).heap[W.heap.size]?=some (.cells #[.int .i64 (-1)] 3 (0,0))):=aQ (λ W=>dL _ _);have HWK:=aQ (H1.out w (Below.refl _ _));unfold WkP at HWK;unfold PrP at HPR;unfold AbQ at HAB;have hGN:(gN (λ i=>g.getD i []) S).N=S.nodes.length:=rfl;rw[hGN]at HAB;rw[hM]at HPR HAB HUP HD hMN;rw[hNl]at HWK HPR HD HI0 hMN hN ⊢;clear h hwf hTr hfr hW hT hS hM hNl H1 hGN;go_enter Tryz.func56,Tryz.ntmps56
 go_wp2_with (first
  | (go_at_call 99;(with_reducible refine HWK.out.mono ?_);rintro e w1 ⟨b,ql,cq,rfl,_,htt,_,_,hb1⟩;have HTT:=aQ htt;have HB1:=aQ hb1;clear htt hb1)
  | (go_at_call 102;(with_reducible refine(HREP.out _ _ (HN9.out _)).mono ?_);rintro e w2 ⟨gl,rfl,hgl,hu,hb2⟩;have HB2:=aQ ((b1 (w:=w1)).trans (hb2.mono (by simp)));have HGL:Hid (w1.heap.size<=gl):=aQ (by simp at hgl;omega);have HU:=aQ hu;have HBW2:Hid (Below w.heap.size w w2):=aQ (HB1.out.trans (HB2.out.mono HB1.out.size));have HT2:=aQ (HTT.out.next HB2.out);clear hgl hu hb2)
  | (go_at_call 100;(with_reducible refine(HPR.out _ _ HBW2.out HT2.out).mono ?_);rintro e w3 ⟨gp,r,P,C,rfl,_,hp,hr,hln,hb3⟩;have HP:=aQ hp;have HR:=aQ hr;have HLN:=aQ hln;have HB3:=aQ hb3;have HT3:=aQ (HT2.out.next hb3);clear hp hr hln hb3)
  | (go_at_call 101;(with_reducible refine(HAB.out _ _ _ _ _ _ _ HT3.out HP.out HR.out HLN.out).mono ?_);rintro e w4 ⟨gr,res,rfl,hor,hrl,hup,hb4⟩;have HOR:=aQ hor;have HRL:=aQ hrl;have HU4:=aQ (HUP.out res hrl hup);have HB4:=aQ hb4;clear hor hrl hup hb4))
 have hglr:gl≠gr:=λ e=>by
  have h1:=(Array.getElem?_eq_some_iff.1 HU.out).1;have h2:=HB3.out.size;have h3:=(HOR.out.lt gr rfl).1;omega
 have HIS0:Hid (Is w w1 w4 gl gr N M (List.replicate N (-1)) res):=aQ (by
  have h4:w4.heap[gl]?=some (.cells (rpc (-1) N N).toArray 3 (0,0)):=cM HB4.out (cM HB3.out HU.out);have s1:=HB1.out.size;have s2:=HBW2.out.size;have s3:=HB3.out.size;have ho:=gM (W:=w4) (base:=w.heap.size) (N:=N) (l:=List.replicate N (-1)) (by have:=HGL.out;omega) h4 (by rw[rpc_ints]) (by simp) (by omega);rw[List.length_replicate]at ho;exact⟨ho,own_low HOR.out (by omega),(HB2.out.trans (HB3.out.mono HB2.out.size)).trans (HB4.out.mono (Nat.le_trans HB2.out.size s3))⟩)
 clear HREP HN9 HPR HAB HWK HUP HP HR HLN HT2 HT3 HU HOR HB3 HB4 HBW2
 go_loopw [19] (λ u wr=>∃ (k:Nat) (l:List Int),k<=M/\u=.int .i64 (k:Int)/\Hid (Il g S k l)/\Hid (Is w w1 wr gl gr N M l res)) (λ u _=>M - (RowKit.intOf u).toNat)
 case atStart=>exact⟨0,_,Nat.zero_le _,rfl,HI0,HIS0⟩
 case round =>
  clear HIS0 HI0;obtain⟨k,l,hk,rfl,HIL,HIS⟩:=hrel;by_cases hkM:k<M
  ·have hkS:k<S.nodes.length:=by rw[HMD.out];exact hkM
   have r1:=HIS.out.or.cellAt k (by omega);rw[cD (by rw[HRL.out];exact hkM)]at r1;obtain⟨a,ha⟩:∃ a,res.getD k 0=a:=⟨_,rfl⟩;rw[ha]at r1;by_cases h1:a = -1
   ·subst h1
    have HIN:=aQ (HIL.out.skip HNM.out HU4.out hkS ha);clear ha;go_wp2_with fail
    go_roundw
    case rel=>exact⟨k+1,_,by omega,rfl,HIN,HIS⟩
    case measure=>(simp[RowKit.intOf]) <;> omega
   ·have hd:(a != -1)=true:=by simpa using h1
    obtain⟨u,eu,hu,hil⟩:=HIL.out.put HNM.out HU4.out hkS (by rw[ha];exact h1);obtain rfl:a=(u:Int):=by omega
    rw[HMD.out]at hu;have HIN:=aQ hil;have htt:=HTT.out.next HIS.out.bl;have lbt:=htt.bl;obtain⟨q1,c1,d1,n1,_⟩:=htt.r1;rw[HMD.out]at d1;obtain⟨b5,o5,rfl,hl5,e5⟩:=n1.cells k (by rw[HML.out];exact hkM);obtain⟨b6,o6,e6,hl6,c6⟩:=n1.cells u (by rw[HML.out];exact hu);injection e6 with e6
    injection e6 with x1 x2
    subst x1 x2;have hxk:=HLT.out k hkM;have hxu:=HLT.out u hu;rw[hxk.2]at e5;rw[hxu.2]at c6;have hxN:=hxk.1;have hll:l.length=N:=by rw[HIL.out.ln];exact HNL.out
    have t1:=HIS.out.ol.cellAt (S.nodes.getD k 0) (by omega);rw[cD (by rw[hll];exact hxN)]at t1;have z1:=HIS.out.ol.frozenAt (S.nodes.getD k 0);obtain⟨nk,hnk⟩:∃ x,S.nodes.getD k 0=x:=⟨_,rfl⟩;obtain⟨nu,hnu⟩:∃ x,S.nodes.getD u 0=x:=⟨_,rfl⟩;rw[hnk]at e5 t1 z1 HIN hxN;rw[hnu]at c6 HIN;clear ha eu hil htt n1 hxk hxu hll hnk hnu;go_wp2_with fail
    go_region
    all_goals go_wp2_with fail
    all_goals go_roundw
    all_goals first
     | exact⟨k+1,_,by omega,rfl,HIN,aQ ((HIS.out.set hglr HGL.out nk (nu:Int)).drew)⟩
     | ((simp[RowKit.intOf]) <;> omega)
  ·obtain rfl:M=k:=by omega
   have HF:Hid (Q (.returned (.slice (some ⟨gl,0,none⟩) N N)) wr):=aQ (HD.out wr l gl HIL.out HIS.out.ol (HB1.out.trans (HIS.out.bl.mono HB1.out.size)));clear HIL HIS;go_wp2_with fail
   exact HF.out
structure Fm(z W:World)(gw gl gr N M:Nat)(rw:Nat->List Int)(qw:Nat->Option Addr)(cw:Nat->Nat)(last res:List Int):Prop where
 sw:Sr z.heap.size W gw (List.range N) rw qw cw
 ol:W.ownsRow z.heap.size 3 1 (.slice (some ⟨gl,0,none⟩) M M) M (aX last)
 or:W.ownsRow z.heap.size 3 1 (.slice (some ⟨gr,0,none⟩) M M) M (aX res)
 bw:z.heap.size<=gw
 n1:gw≠gl
 n2:gw≠gr
 n3:gl≠gr
 xw:∀ j∈List.range N,∀ k,(qw j).map Addr.block=some k->k≠gl/\k≠gr
 bl:Below z.heap.size z W
section
variable {z W W':World} {gw gl gr N M:Nat} {rw:Nat->List Int} {qw:Nat->Option Addr} {cw:Nat->Nat} {last res:List Int}
theorem Fm.grown(h:Fm z W gw gl gr N M rw qw cw last res)(hg:W.grownBy W' none):Fm z W' gw gl gr N M rw qw cw last res :=
 ⟨h.sw.grown hg (by simp) (λ _ _ _ e=>by cases e),h.ol.kept hg (.inr (by simp[Value.ownBlock])),h.or.kept hg (.inr (by simp[Value.ownBlock])),h.bw,h.n1,h.n2,h.n3,h.xw,h.bl.grown hg h.bl.size (λ k e=>by cases e)⟩
theorem Fm.setL(h:Fm z W gw gl gr N M rw qw cw last res)(i:Nat)(x:Int):Fm z (W.setCell ⟨gl,i,none⟩ (.int .i64 x)) gw gl gr N M rw qw cw (last.set i x) res:=by
 refine⟨h.sw.grown (bC W ⟨gl,i,none⟩ (.int .i64 x)) (λ e=>h.n1 (by injection e with e;exact e.symm)) (λ j hj k e e2=>by injection e with e;subst e;exact(h.xw j hj _ e2).1 rfl),?_,aP (a:=⟨gl,i,none⟩) h.or (λ e=>h.n3 (by injection e with e;exact e.symm)),
  h.bw,h.n1,h.n2,h.n3,h.xw,h.bl.setCell (p:=⟨gl,i,none⟩) (h.ol.lt gl rfl).1 _⟩
 rw[<- intsV_set];exact(h.ol.stored i _).1
theorem Fm.app(h:Fm z W gw gl gr N M rw qw cw last res){j n m c':Nat}{q':Option Addr}{l:List Int}(hj:j∈List.range N)(ho:W'.ownsRow z.heap.size 3 1 (.slice q' m c') l.length (aX l))(hm:m=l.length)
  (hg:W.grownBy W' (Value.slice (qw j) n (cw j)).ownBlock) (hb:(Value.slice q' m c').ownBlock=(Value.slice (qw j) n (cw j)).ownBlock∨(Value.slice q' m c').ownBlock=some W.heap.size):Fm z (W'.setCell ⟨gw,j,none⟩ (.slice q' m c')) gw gl gr N M (up1 rw j l) (up1 qw j q') (up1 cw j c') last res:=by
 have hs:=h.sw.app hj ho hm hg hb;have l1:=h.ol.lt gl rfl;have l2:=h.or.lt gr rfl;rw[aH]at hg;rw[aH,aH]at hb;have hlW:W'.ownsRow z.heap.size 3 1 (.slice (some ⟨gl,0,none⟩) M M) M (aX last):=h.ol.kept hg (.inr (λ e=>(h.xw j hj gl (by rw[<- e];rfl)).1 rfl));have hrW:W'.ownsRow z.heap.size 3 1 (.slice (some ⟨gr,0,none⟩) M M) M (aX res):=h.or.kept hg (.inr (λ e=>(h.xw j hj gr (by rw[<- e];rfl)).2 rfl))
 have hq:∀ i∈List.range N,∀ k,(up1 qw j q' i).map Addr.block=some k->(qw i).map Addr.block=some k∨k=W.heap.size:=λ i _ k e=>by
  unfold up1 at e;split at e
  ·rename_i ei
   subst ei;rcases hb with d|d
   ·rw[d]at e;exact .inl e
   ·rw[d]at e;injection e with e;exact .inr e.symm
  ·exact .inl e
 refine⟨hs,aP (a:=⟨gw,j,none⟩) hlW (λ e=>h.n1 (by injection e with e;exact e.symm)),aP (a:=⟨gw,j,none⟩) hrW (λ e=>h.n2 (by injection e with e;exact e.symm)),
  h.bw,h.n1,h.n2,h.n3,λ i hi k e=>?_,(h.bl.grown hg h.bl.size (λ k e=>(h.sw.blk hj e).1)).setCell (p:=⟨gw,j,none⟩) h.bw _⟩
 rcases hq i hi k e with d|d
 ·exact h.xw i hi k d
 ·omega
end
end Go.Proofs.YtkfahppdklecdaaGreatDoor.J
