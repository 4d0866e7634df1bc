import Derived.Test.YtkfahppdklecdaaGreatDoorZ07
set_option maxRecDepth 100000
set_option maxHeartbeats 16000000
namespace Go.Proofs.YtkfahppdklecdaaGreatDoor
open Go.RowKit M
structure Bk where
 fr:Int
 to:Int
 la:Int
 su:List Int
 pr:List Int
deriving DecidableEq
def Bk.z:Bk:=⟨0,0,0,[],[]⟩
namespace Fl
noncomputable def Fg.blk(G:Fg)(k:Nat):Bk:=⟨(G.fr k:Int),(G.to (G.fr k):Int),(G.la k:Int),(G.sk k).map Int.ofNat,(G.pk k).map Int.ofNat⟩
noncomputable def Fg.blks(G:Fg):List Bk:=(List.range G.n).map G.blk
-- the same,reckoned from what one may come to
def leadC(G:Fg)(r:List Nat)(j:Nat):Bool:=decide (j=0) || r.any λ i=>(G.su i).any λ s=>decide (s=j) && (G.ju i || decide (s≠G.nx i))
def finC(G:Fg)(r:List Nat)(i:Nat):Bool:=decide ((G.su i).length≠1) || G.ju i || leadC G r ((G.su i).getD 0 0)
def lastFC(G:Fg)(r:List Nat):Nat->Nat->Nat
 | 0,i=>i
 | f+1,i=>if finC G r i=true then i else lastFC G r f (G.nx i)
def lastC(G:Fg)(r:List Nat)(i:Nat):Nat:=lastFC G r (G.N - i) i
def toC(G:Fg)(r:List Nat)(i:Nat):Nat:=G.nx (lastC G r i)
def lsC(G:Fg)(r:List Nat):List Nat:=r.filter (leadC G r)
def frC(G:Fg)(r:List Nat)(k:Nat):Nat:=(lsC G r).getD k 0
def inBC(G:Fg)(r:List Nat)(k x:Nat):Bool:=decide (frC G r k<=x) && decide (x<toC G r (frC G r k))
def fdC(G:Fg)(r:List Nat)(x:Nat):Nat:=((List.range (lsC G r).length).find? λ k=>inBC G r k x).getD (lsC G r).length
def skC(G:Fg)(r:List Nat)(k:Nat):List Nat:=(G.su (lastC G r (frC G r k))).foldl (λ a s=>once a (fdC G r s)) []
def pkC(G:Fg)(r:List Nat)(t:Nat):List Nat:=(List.range (lsC G r).length).filter λ k=>decide (t∈skC G r k)
def blksC(G:Fg)(r:List Nat):List Bk:=(List.range (lsC G r).length).map λ k=>⟨(frC G r k:Int),(toC G r (frC G r k):Int),(lastC G r (frC G r k):Int),(skC G r k).map Int.ofNat,(pkC G r k).map Int.ofNat⟩
theorem lastF_is(G:Fg):∀ f i,G.lastF f i=lastFC G G.reach f i
 | 0,_=>rfl
 | f+1,i=>by
  show(if G.fin i=true then i else G.lastF f (G.nx i))=(if finC G G.reach i=true then i else lastFC G G.reach f (G.nx i));rw[lastF_is G f];rfl
theorem last_is(G:Fg):G.last=lastC G G.reach:=by
 funext i
 exact lastF_is G _ i
theorem to_is(G:Fg):G.to=toC G G.reach:=by
 funext i
 unfold Fg.to toC;rw[last_is]
theorem inB_is(G:Fg)(k x:Nat):G.inB k x=inBC G G.reach k x:=by
 unfold Fg.inB inBC;rw[to_is];rfl
theorem fd_is'(G:Fg)(x:Nat):G.fd x=fdC G G.reach x:=by
 unfold Fg.fd fdC;rw[show(λ k=>G.inB k x)=λ k=>inBC G G.reach k x from funext λ k=>inB_is G k x];rfl
theorem sk_is(G:Fg)(k:Nat):G.sk k=skC G G.reach k:=by
 unfold Fg.sk skC Fg.la;rw[last_is,show G.fd=fdC G G.reach from funext (fd_is' G)];rfl
theorem pk_is(G:Fg)(t:Nat):G.pk t=pkC G G.reach t:=by
 unfold Fg.pk pkC;rw[show G.sk=skC G G.reach from funext (sk_is G)];rfl
theorem blks_is(G:Fg):G.blks=blksC G G.reach:=by
 unfold Fg.blks blksC
 rw[show G.blk=λ k=>(⟨(frC G G.reach k:Int),(toC G G.reach (frC G G.reach k):Int),(lastC G G.reach (frC G G.reach k):Int),(skC G G.reach k).map Int.ofNat,(pkC G G.reach k).map Int.ofNat⟩:Bk) from funext λ k=>by
  unfold Fg.blk Fg.la;rw[to_is,last_is,sk_is,pk_is];rfl]
 rfl
end Fl
noncomputable def aR(l:List In):List Bk:=if (aS l).2=0 then (gOf l).blks else []
def bk(B:List Bk)(k:Nat):Bk:=B.getD k Bk.z
theorem blocks_ok{l:List In}(h:(aS l).2=0):aR l=(gOf l).blks:=if_pos h
theorem blocks_no{l:List In}(h:¬ (aS l).2=0):aR l=[]:=if_neg h
theorem dR{l:List In}(h:(aS l).2=0):(aR l).length=(gOf l).n:=by rw[blocks_ok h];simp[Fl.Fg.blks]
theorem blocks_at{l:List In}(h:(aS l).2=0){k:Nat}(hk:k<(gOf l).n):bk (aR l) k=(gOf l).blk k:=by
 rw[blocks_ok h];unfold bk Fl.Fg.blks;rw[List.getD_eq_getElem?_getD,List.getElem?_map,List.getElem?_range hk];rfl
def p0:List In:=[⟨183,0,0,0,0,0⟩,⟨21,0,0,1,0,0⟩,⟨183,0,0,0,1,0⟩,⟨149,0,0,0,0,0⟩]
end Go.Proofs.YtkfahppdklecdaaGreatDoor
namespace Go.Proofs.YtkfahppdklecdaaGreatDoor
open Go.RowKit M
structure BksAt(w:World)(q:Option Addr)(B:List Bk):Prop where
 small:B.length*72<=140737488351232
 cells:∀ i,i<B.length->∃ b off sp sc pp pc,q=some ⟨b,off,none⟩/\b<w.heap.size/\w.cell? ⟨b,off+i*5,none⟩=some (.int .i64 (bk B i).fr)/\w.cell? ⟨b,off+i*5+1,none⟩=some (.int .i64 (bk B i).to)/\w.cell? ⟨b,off+i*5+2,none⟩=some (.int .i64 (bk B i).la)/\w.cell? ⟨b,off+i*5+3,none⟩=some (.slice sp (bk B i).su.length sc)/\w.cell? ⟨b,off+i*5+4,none⟩=some (.slice pp (bk B i).pr.length pc)/\NumsAt .i64 w sp (bk B i).su/\NumsAt .i64 w pp (bk B i).pr
theorem BksAt.below{w w':World}{q:Option Addr}{B:List Bk}(h:BksAt w q B)(hb:Below w.heap.size w w'):BksAt w' q B :=
 ⟨h.small,λ i hi=>by
  obtain⟨b,off,sp,sc,pp,pc,hq,hl,c0,c1,c2,c3,c4,n1,n2⟩:=h.cells i hi;exact⟨b,off,sp,sc,pp,pc,hq,Nat.lt_of_lt_of_le hl hb.size,(hb.cell (p:=⟨b,off+i*5,none⟩) hl).trans c0,(hb.cell (p:=⟨b,off+i*5+1,none⟩) hl).trans c1,(hb.cell (p:=⟨b,off+i*5+2,none⟩) hl).trans c2,(hb.cell (p:=⟨b,off+i*5+3,none⟩) hl).trans c3,(hb.cell (p:=⟨b,off+i*5+4,none⟩) hl).trans c4,n1.below hb,n2.below hb⟩⟩
theorem su_ints{l:List In}(hc:(aS l).2=0){i:Nat}(hi:(gOf l).R i):bG l (i:Int)=((gOf l).su i).map Int.ofNat:=by
 obtain⟨k1,k2⟩:=hi.ok (bJ hc);have hp:bQ l (i:Int)=true:=gK.2 ⟨k1,k2⟩;have h3:=(cW hc).2.2;have hm:=may_place h3 hp;show bG l (i:Int)=((bG l (i:Int)).map Int.toNat).map Int.ofNat;rw[List.map_map]
 have:∀ n∈bG l (i:Int),(Int.ofNat ∘ Int.toNat) n=n:=by
  intro n hn;have:=(bT.1 (hm n hn)).1.1;show((n.toNat:Nat):Int)=n;omega
 rw[List.map_congr_left this];simp
structure FtAt(w:World)(q:Option Addr)(n:Nat)(fr to:Nat->Int):Prop where
 small:n*72<=140737488351232
 cells:∀ i,i<n->∃ b off,q=some ⟨b,off,none⟩/\b<w.heap.size/\w.cell? ⟨b,off+i*5,none⟩=some (.int .i64 (fr i))/\w.cell? ⟨b,off+i*5+1,none⟩=some (.int .i64 (to i))
def findI(fr to:Nat->Int)(n:Nat)(x:Int):Int:=match (List.range n).find? (λ k=>decide (fr k<=x) && decide (x<to k))with
 | some k=>(k:Int)
 | none=>-1
theorem findI_some{fr to:Nat->Int}{n k:Nat}{x:Int}(hk:k<n)(h1:fr k<=x)(h2:x<to k)(hj:∀ j,j<k->¬ (fr j<=x/\x<to j)):findI fr to n x=(k:Int):=by
 have hf:(List.range n).find? (λ k=>decide (fr k<=x) && decide (x<to k))=some k:=by
  rw[List.find?_range_eq_some];refine⟨by simp[h1,h2],List.mem_range.2 hk,λ j h=>?_⟩;have:=hj j h;simp only[Bool.not_eq_true',Bool.and_eq_false_iff,decide_eq_false_iff_not];by_cases c:fr j<=x
  ·exact .inr (λ d=>this ⟨c,d⟩)
  ·exact .inl c
 unfold findI;rw[hf]
theorem findI_none{fr to:Nat->Int}{n:Nat}{x:Int}(hj:∀ j,j<n->¬ (fr j<=x/\x<to j)):findI fr to n x = -1:=by
 have hf:(List.range n).find? (λ k=>decide (fr k<=x) && decide (x<to k))=none:=by
  rw[List.find?_eq_none];intro j h;have:=hj j (List.mem_range.1 h);simpa using this
 unfold findI;rw[hf]
theorem rfind_any(q:Option Addr)(qc n:Nat)(fr to:Nat->Int)(x:Int)(w:World)(h:FtAt w q n fr to):Calls Tryz.prog 32 #[.slice q n qc,.int .i64 x] w λ e w'=>e=.returned (.int .i64 (findI fr to n x))/\w=w':=by
 have hs:=h.small;have HT:=aQ (λ k (hk:k<n) h1 h2 hj=>findI_some (fr:=fr) (to:=to) (x:=x) hk h1 h2 hj);have HF:=aQ (λ hj=>findI_none (fr:=fr) (to:=to) (n:=n) (x:=x) hj);have HC:=aQ h.cells;generalize findI fr to n x=g at *;clear h;go_enter Tryz.func32,Tryz.ntmps32
 go_wp2
 go_loop [5] (λ i=>∃ k:Nat,k<=n/\i=.int .i64 (k:Int)/\Hid (∀ j,j<k->¬ (fr j<=x/\x<to j))) (λ i=>n - (intOf i).toNat)
 case atStart=>exact⟨0,Nat.zero_le _,rfl,aQ (λ j hj=>absurd hj (Nat.not_lt_zero _))⟩
 case round =>
  obtain⟨k,hk1,rfl,HK⟩:=hrel;by_cases hk:k<n
  ·obtain⟨b,off,rfl,hb,c0,c1⟩:=HC.out k hk
   have HT':=aQ (HT.out k hk)
   have next:Hid (¬ (fr k<=x/\x<to k)->∀ j,j<k+1->¬ (fr j<=x/\x<to j)):=aQ (λ hn j hj=>by
     by_cases e:j=k
     ·rw[e];exact hn
     ·exact HK.out j (by omega))
   generalize fr k=y at *;generalize to k=y2 at *;by_cases h1:y<=x
   ·by_cases h2:x<y2
    ·have HG:=aQ (HT'.out h1 h2 HK.out)
     clear HT' next;go_wp2
     go_ret;rw[HG.out];exact⟨rfl,rfl⟩
    ·have HK':=aQ (next.out (λ c=>h2 c.2))
     clear HT' next;go_wp2
     go_round
     case rel=>exact⟨k+1,by omega,rfl,HK'.out |> aQ⟩
     case measure=>simp[intOf];omega
   ·have HK':=aQ (next.out (λ c=>h1 c.1))
    clear HT' next;go_wp2
    go_round
    case rel=>exact⟨k+1,by omega,rfl,HK'.out |> aQ⟩
    case measure=>simp[intOf];omega
  ·obtain rfl:n=k:=by omega
   have HG:=aQ (HF.out HK.out);go_wp2
   go_ret;rw[HG.out];exact⟨rfl,rfl⟩
structure Lw(w W:World)(g:Nat)(L:List Bool):Prop where
 low:Below w.heap.size w W
 gb:w.heap.size<=g
 rb:Rb W g L
theorem Lw.next{w W W':World}{g:Nat}{L:List Bool}(h:Lw w W g L)(hb:Below W.heap.size W W'):Lw w W' g L :=
 ⟨h.low.trans (hb.mono h.low.size),h.gb,h.rb.next hb⟩
theorem Rb.setV{W:World}{g k:Nat}{l:List Bool}{v:Bool}(h:Rb W g l)(hk:k<l.length):Rb (W.setCell ⟨g,k,none⟩ (.bool v)) g (l.set k v):=by
 refine⟨by simpa[World.setCell]using h.lt,λ i hi=>?_,λ j=>(World.frozen?_setCell ..).trans (h.fr j)⟩;rw[List.length_set]at hi;rw[Fl.getD_set_v _ _ _ _ hk];by_cases e:i=k
 ·subst e
  rw[if_pos rfl];exact World.cell?_setCell_same _ _ _ (h.cell i hi)
 ·rw[if_neg e]
  exact(World.cell?_setCell_other _ _ _ _ (λ e'=>e (congrArg Addr.off e').symm)).trans (h.cell i hi)
theorem Lw.set{w W:World}{g k:Nat}{L:List Bool}{v:Bool}(h:Lw w W g L)(hk:k<L.length):Lw w (W.setCell ⟨g,k,none⟩ (.bool v)) g (L.set k v) :=
 ⟨h.low.setCell (p:=⟨g,k,none⟩) h.gb _,h.gb,h.rb.setV hk⟩
theorem Lw.start(w:World)(n:Nat):Lw w (w.alloc (.cells (madeCells #[.bool false] n) 4)) w.heap.size (List.replicate n false):=by
 refine⟨(Below.refl _ _).alloc (Nat.le_refl _) _,Nat.le_refl _,by simp,λ i hi=>?_,λ j=>World.frozen?_alloc_new _ _ _ j⟩;have hi':i<n:=by simpa using hi
 refine aJ w ?_;rw[List.getD_eq_getElem?_getD,List.getElem?_replicate,if_pos hi'];simp[madeCells,hi',Nat.mod_one]
theorem Lw.start2(w:World)(n:Nat)(hn:0<n):Lw w (w.alloc (.cells ((madeCells #[.bool false] n).setIfInBounds 0 (.bool true)) 4)) w.heap.size ((List.replicate n false).set 0 true):=by
 refine⟨(Below.refl _ _).alloc (Nat.le_refl _) _,Nat.le_refl _,by simp,λ i hi=>?_,λ j=>World.frozen?_alloc_new _ _ _ j⟩;have hi':i<n:=by simpa using hi
 refine aJ w ?_;rw[Fl.getD_set_v _ _ _ _ (by simpa using hn),Array.getElem?_setIfInBounds];by_cases e:i=0
 ·subst e
  rw[if_pos rfl,if_pos rfl,if_pos (by simp[madeCells];omega)]
 ·rw[if_neg e,if_neg (λ h=>e h.symm),List.getD_eq_getElem?_getD,List.getElem?_replicate,if_pos hi']
  simp[madeCells,hi',Nat.mod_one]
theorem NumsAt.setOther{k:IntKind}{w:World}{q:Option Addr}{l:List Int}(h:NumsAt k w q l){a:Addr}(ha:∀ ad,q=some ad->ad.block≠a.block)(v:Value):NumsAt k (w.setCell a v) q l :=
 ⟨h.small,λ i hi=>by
  obtain⟨b,o,hq,hb,hc⟩:=h.cells i hi;exact⟨b,o,hq,by simpa[World.setCell]using hb,(World.cell?_setCell_other w a ⟨b,o+i,none⟩ v (λ e=>ha _ hq (show b=a.block from(congrArg Addr.block e).symm))).trans hc⟩⟩
section
variable {P:Program} {md:Region.Mode} {ops:Array Oper} {Q:Exit->Act->World->Prop} {S:World->Prop}
theorem takeNo{i:Nat}{oi:Oper}(d:Option Tmp){fuel:Nat}{listed:Array Bool}{a:Act}{w:World}(hi:ops[i]?=some oi)(hd:oi.dst=d)
  (hs:Region.noSelect ops=true) (hf:Region.free md ops listed i=true) (hr:(Region.ready md ops listed).contains i=true)
  (hQ:∀ c a w,Q (.panic c) (a.put d undef) w->Q (.panic c) a w) (hw:Region.wanted oi (yielded ops a.tmps)=false) (hS:S w)
  (h:wpAnyH P md ops Q S fuel (listed.setIfInBounds i true) (a.put d undef) w):wpAnyH P md ops Q S (fuel+1) listed a w:=by
 subst hd;exact wpAnyH_take hi hs hf hr hQ (Or.inr ⟨hw,rfl⟩) hS h
theorem takeYes{i:Nat}{oi:Oper}{v:Value}(d:Option Tmp){fuel:Nat}{listed:Array Bool}{a:Act}{w:World}(hi:ops[i]?=some oi)(hd:oi.dst=d)
  (hs:Region.noSelect ops=true) (hf:Region.free md ops listed i=true) (hr:(Region.ready md ops listed).contains i=true)
  (hQ:∀ c a w,Q (.panic c) (a.put d v) w->Q (.panic c) a w) (hw:Region.wanted oi (yielded ops a.tmps)=true) (hy:∀ w,S w->(execOp a.eval oi).run P w=.ok (.value v) w) (hS:S w)
  (h:wpAnyH P md ops Q S fuel (listed.setIfInBounds i true) (a.put d v) w):wpAnyH P md ops Q S (fuel+1) listed a w:=by
 subst hd;exact wpAnyH_take hi hs hf hr hQ (Or.inl ⟨hw,hy⟩) hS h
end
structure Ls(w W:World)(L:List Bool)(p2:Option Addr)(xs:List Int)(b2 o2 m:Nat)(s:Int)(b3 o3 i:Nat)(X:In):Prop where
 lw:Lw w W w.heap.size L
 nu:NumsAt .i64 W p2 xs
 l2:b2<W.heap.size
 l3:b3<W.heap.size
 s:W.cell? ⟨b2,o2+m,none⟩=some (.int .i64 s)/\W.cell? ⟨b3,o3+i*6,none⟩=some (.int .i64 X.op)/\W.cell? ⟨b3,o3+i*6+1,none⟩=some (.int .i64 X.dst)/\W.cell? ⟨b3,o3+i*6+2,none⟩=some (.int .i64 X.src)/\W.cell? ⟨b3,o3+i*6+3,none⟩=some (.int .i64 X.off)/\W.cell? ⟨b3,o3+i*6+4,none⟩=some (.int .i64 X.imm)/\W.cell? ⟨b3,o3+i*6+5,none⟩=some (.int .u64 X.wide)
theorem Ls.next{w W W':World}{L:List Bool}{p2:Option Addr}{xs:List Int}{b2 o2 m:Nat}{s:Int}{b3 o3 i:Nat}{X:In}(h:Ls w W L p2 xs b2 o2 m s b3 o3 i X)(hb:Below W.heap.size W W'):Ls w W' L p2 xs b2 o2 m s b3 o3 i X:=by
 obtain⟨h1,h2,l2,l3,c,d0,d1,d2,d3,d4,d5⟩:=h;exact⟨h1.next hb,h2.below hb,Nat.lt_of_lt_of_le l2 hb.size,Nat.lt_of_lt_of_le l3 hb.size,(hb.cell (p:=⟨b2,_,none⟩) l2).trans c,(hb.cell (p:=⟨b3,_,none⟩) l3).trans d0,(hb.cell (p:=⟨b3,_,none⟩) l3).trans d1,(hb.cell (p:=⟨b3,_,none⟩) l3).trans d2,(hb.cell (p:=⟨b3,_,none⟩) l3).trans d3,(hb.cell (p:=⟨b3,_,none⟩) l3).trans d4,(hb.cell (p:=⟨b3,_,none⟩) l3).trans d5⟩
theorem fQ{W:World}{b o g k:Nat}{u v:Value}(h:W.cell? ⟨b,o,none⟩=some u)(hb:b≠g):(W.setCell ⟨g,k,none⟩ v).cell? ⟨b,o,none⟩=some u :=
 (World.cell?_setCell_other W ⟨g,k,none⟩ ⟨b,o,none⟩ v (λ e=>hb (show b=g from(congrArg Addr.block e).symm))).trans h
theorem Ls.set{w W:World}{L:List Bool}{p2:Option Addr}{xs:List Int}{b2 o2 m:Nat}{s:Int}{b3 o3 i k:Nat}{X:In}{v:Bool}(h:Ls w W L p2 xs b2 o2 m s b3 o3 i X)(hk:k<L.length)(hp:∀ ad,p2=some ad->ad.block≠w.heap.size)(h2:b2≠w.heap.size)(h3:b3≠w.heap.size) :
  Ls w (W.setCell ⟨w.heap.size,k,none⟩ (.bool v)) (L.set k v) p2 xs b2 o2 m s b3 o3 i X:=by
 obtain⟨h1,hn,l2,l3,c,d0,d1,d2,d3,d4,d5⟩:=h;exact⟨h1.set hk,NumsAt.setOther hn hp _,by simpa[World.setCell]using l2,by simpa[World.setCell]using l3,fQ c h2,fQ d0 h3,fQ d1 h3,fQ d2 h3,fQ d3 h3,fQ d4 h3,fQ d5 h3⟩
theorem rlead_any(q:Option Addr)(qc:Nat)(l:List In)(p:Option Addr)(pc:Nat)(w:World)(h:InsAt w q l)(hc:(aS l).2=0)(hr:NumsAt .i64 w p (cK l)) :
  Calls Tryz.prog 29 #[.slice q l.length qc,.slice p (cK l).length pc] w λ e w'=>∃ g L,e=.returned (.slice (some ⟨g,0,none⟩) (l.length+2) (l.length+2))/\L.length=l.length+2/\(∀ j,L.getD j false=(gOf l).lead j)/\Lw w w' g L:=by
 have HG:=aQ (bJ hc);have hN:=(cW hc).1;have HI:=aQ h;have HR:=aQ hr;have HL0:Hid ((gOf l).Ld 0 0 ((List.replicate (l.length+2) false).set 0 true)):=aQ (Fl.Fg.Ld.start (gOf l));have hrn:(cK l).length=(gOf l).reach.length:=by rw[dS hc];simp
 have HRA:Hid (∀ k,k<(gOf l).reach.length->(cK l).getD k 0=(((gOf l).reach.getD k 0:Nat):Int)):=aQ (λ k hk=>by
  rw[dS hc,List.getD_eq_getElem?_getD,List.getElem?_map,List.getD_eq_getElem?_getD,List.getElem?_eq_getElem hk];rfl)
 have HLW:=aQ (Lw.start w (l.length+2));have hs:=hr.small;have HCK:=aQ hc;obtain⟨N,hNl⟩:∃ N,l.length=N:=⟨_,rfl⟩;have HNL:=aQ hNl;obtain⟨M,hM⟩:∃ M,(gOf l).reach.length=M:=⟨_,rfl⟩;rw[hrn,hM]at hs ⊢;rw[hM]at HRA;have HM:=aQ hM;have HRN:=aQ hrn;rw[hNl]at hN HL0 HLW ⊢;clear h hc hNl hr hrn hM;have hmk:=λ W=>run_make_row' (P:=Tryz.prog) 91 4 (.bool false) 1 Tryz.underlying91 eX rfl .i64 .i64 (N+2) (by omega) (by omega) W
 have e2:((N+2:Nat):Int)=(N:Int)+2:=by omega
 simp only[e2]at hmk;have c0:=HLW.out.rb.cell 0 (by simp);have hl:=HLW.out.rb.lt;have hf:=HLW.out.rb.fr 0;go_enter Tryz.func29,Tryz.ntmps29
 go_wp2_with fail
 clear hf hl hmk e2;have HSU:=aQ (λ (i:Int) (W:World) (hW:Below w.heap.size w W)=>rsucc_new q qc l i W (HI.out.below hW));unfold SuccQ at HSU;rw[HNL.out]at HSU
 go_loopw [6] (λ k wr=>∃ (a:Nat) (L:List Bool),a<=M/\k=.int .i64 (a:Int)/\Hid ((gOf l).Ld a 0 L)/\Lw w wr w.heap.size L) (λ k _=>M - (intOf k).toNat)
 case atStart=>exact⟨0,_,Nat.zero_le _,rfl,HL0,Lw.start2 w (N+2) (by omega)⟩
 case round =>
  clear HLW HL0 c0;obtain⟨a,L,ha,rfl,HLd,hlw⟩:=hrel;have HW:=aQ hlw;by_cases hlt:a<M
  ·obtain⟨b1,o1,rfl,hl1,c0⟩:=(HR.out.below hlw.low).cells a (by rw[HRN.out,HM.out];exact hlt)
   rw[HRA.out a hlt]at c0;have hR:(gOf l).R ((gOf l).reach.getD a 0):=(Fl.Fg.mem_reach HG.out).1 (Fl.getD_mem (by rw[HM.out];exact hlt));have hiN:=(hR.ok HG.out).1;have HSI:=HSU.out (((gOf l).reach.getD a 0:Nat):Int);rw[su_ints HCK.out hR]at HSI;have HST:=aQ (λ m L (h:(gOf l).Ld a m L) hm hs=>h.step hm hs);clear hlw;have HNX:=aQ (λ (L:List Bool) (h:(gOf l).Ld a ((gOf l).su ((gOf l).reach.getD a 0)).length L)=>h.next (by rw[HM.out];exact hlt))
   have HSL:Hid (∀ m,m<((gOf l).su ((gOf l).reach.getD a 0)).length->((gOf l).su ((gOf l).reach.getD a 0)).getD m 0<N):=aQ (λ m hm=>by
    have:=(HG.out.su _ hiN (hR.ok HG.out).2 _ (Fl.getD_mem hm)).1;rw[<- HNL.out];exact this)
   have HBD:=aQ (λ (W:World) (hW:Below w.heap.size w W)=>(HI.out.below hW).cells ((gOf l).reach.getD a 0) hiN);have hiN':(gOf l).reach.getD a 0<N:=by rw[<- HNL.out];exact hiN
   have HRN2:=aQ (λ (W:World) (hW:Below w.heap.size w W)=>rnext_any q qc l ((gOf l).reach.getD a 0) hiN W (HI.out.below hW));have HRJ:=aQ (λ (W:World)=>rjumps_any (l.getD ((gOf l).reach.getD a 0) z) (HI.out.bd _ hiN) W);have HJU:Hid (jB (l.getD ((gOf l).reach.getD a 0) z)=(gOf l).ju ((gOf l).reach.getD a 0)):=aQ rfl;have HNXT:Hid (nxI (l.getD ((gOf l).reach.getD a 0) z) ((gOf l).reach.getD a 0)=(gOf l).nx ((gOf l).reach.getD a 0)):=aQ rfl;clear hiN hR;rw[HNL.out]at HRN2;rw[HJU.out]at HRJ;rw[HNXT.out]at HRN2;clear HJU HNXT;generalize (gOf l).nx ((gOf l).reach.getD a 0)=NX at *;generalize (gOf l).ju ((gOf l).reach.getD a 0)=JU at *;generalize (gOf l).su ((gOf l).reach.getD a 0)=SU at *;generalize (gOf l).reach.getD a 0=i at *;generalize l.getD i z=X at *;simp only[List.length_map]at HSI;have HSI2:=aQ HSI;obtain⟨S,hS⟩:∃ S,SU.length=S:=⟨_,rfl⟩;rw[hS]at HNX HSL HST HSI2;have HS:=aQ hS;clear HSI hS;go_wp2_with (go_at_call 22;(with_reducible refine(HSI2.out _ HW.out.low).mono ?_);rintro e w1 ⟨p2,c2,rfl,hn,hb,hp⟩;have HX:=aQ (HW.out.next hb);have HNU:=aQ hn;have HPP:=aQ (λ ad h=>Nat.ne_of_gt (Nat.lt_of_lt_of_le HW.out.rb.lt (hp ad h)));clear hn hb hp)
   go_loopw [9] (λ v wr2=>∃ (m:Nat) (L2:List Bool),m<=S/\v=.int .i64 (m:Int)/\Hid ((gOf l).Ld a m L2)/\Lw w wr2 w.heap.size L2/\NumsAt .i64 wr2 p2 (SU.map Int.ofNat)) (λ v _=>S - (intOf v).toNat)
   case atStart=>exact⟨0,L,Nat.zero_le _,rfl,HLd,HX.out,HNU.out⟩
   case round =>
    clear HX HNU HLd HW hl1 c0;obtain⟨m,L2,hmS,rfl,HLd,hlw,hnu⟩:=hrel;by_cases hm:m<S
    ·obtain⟨b2,o2,rfl,hl2,c0⟩:=(hnu.below ((Below.refl _ _).drew)).cells m (by rw[List.length_map,HS.out];exact hm)
     obtain⟨b3,o3,rfl,hl3,d⟩:=HBD.out wr.drew hlw.low.drew;obtain⟨b3',o3',hq3,hb3,_⟩:=HBD.out w (Below.refl _ _)
     have n3:b3≠w.heap.size:=by
      injection hq3 with hq3
      injection hq3 with hq3 _
      omega
     clear hq3 hb3;have n2:b2≠w.heap.size:=HPP.out _ rfl;have hsN:=HSL.out m hm;have HLd2:=aQ (HST.out m L2 HLd.out hm (by have:=HNL.out;show _<l.length+2;omega));have hll:L2.length=N+2:=by rw[HLd.out.len,<- HNL.out];rfl
     have hse:(SU.map Int.ofNat).getD m 0=((SU.getD m 0:Nat):Int):=by
      have hm':m<SU.length:=by rw[HS.out];exact hm
      rw[List.getD_eq_getElem?_getD,List.getElem?_map,List.getD_eq_getElem?_getD,List.getElem?_eq_getElem hm'];rfl
     rw[hse]at c0;have hSs:=hnu.small;rw[List.length_map,HS.out]at hSs;have mS:(m:Int)+1<=140737488351232:=by omega
     have HN:=aQ (Ls.mk (xs:=SU.map Int.ofNat) (p2:=some ⟨b2,o2,none⟩) (hlw.next ((Below.refl _ _).drew)) (hnu.below ((Below.refl _ _).drew)) hl2 hl3 ⟨c0,d⟩);clear hse c0 d hl2 hl3 hlw hnu HLd;generalize hs9:SU.getD m 0=s at *;clear hs9;have oc:=HN.out.lw.rb.cell s (by omega);have sN:(s:Int)<(N:Int)+2:=by omega
     cases hv:L2.getD s false with
     | true =>
      rw[hv]at oc HLd2;simp only[Bool.true_or]at HLd2;clear hv;have f0:=HN.out.lw.rb.fr s;have f1:=HN.out.lw.rb.lt;go_wp2_with fail
      refine wp_region_held_drew (S:=(λ W=>W.cell? ⟨b2,o2+m,none⟩=some (.int .i64 (s:Int))/\W.cell? ⟨b3,o3+i*6,none⟩=some (.int .i64 X.op)/\W.cell? ⟨b3,o3+i*6+1,none⟩=some (.int .i64 X.dst)/\W.cell? ⟨b3,o3+i*6+2,none⟩=some (.int .i64 X.src)/\W.cell? ⟨b3,o3+i*6+3,none⟩=some (.int .i64 X.off)/\W.cell? ⟨b3,o3+i*6+4,none⟩=some (.int .i64 X.imm)/\W.cell? ⟨b3,o3+i*6+5,none⟩=some (.int .u64 X.wide))) (by kernel_rfl) HN.out.s (λ hHeld=>?_);refine aU 0 (some 35) rfl (h:=aU 1 (some 36) rfl (h:=aU 2 (some 37) rfl (h:=aU 3 (some 38) rfl (h:=aU 4 (some 39) rfl (h:=?_)))));try simp only[Act.put,aA,aB,aC]
      refine aU 5 (some 40) rfl (h:=aU 6 (some 41) rfl (h:=aU 7 (some 42) rfl (h:=aU 8 (some 43) rfl (h:=aU 9 (some 44) rfl (h:=?_)))));try simp only[Act.put,aA,aB,aC]
      refine aU 10 (some 45) rfl (h:=?_);try simp only[Act.put,aA,aB,aC]
      refine wpAnyH_ready (rs:=[11]) (by kernel_rfl) (by simp) ?_;refine AllReadyH.cons rfl (λ K hK=>?_) AllReadyH.nil;go_simp
      try dsimp only
      refine hK.out _ _ HN.out.s (λ hHeld2=>?_);clear hK K;try simp only[Act.put,aA,aB,aC]
      refine aU 12 (some 47) rfl (h:=aV 13 (some 48) rfl (h:=aV 14 (some 49) rfl (h:=aV 15 (some 50) rfl (h:=aV 16 (some 51) rfl (h:=?_)))));try simp only[Act.put,aA,aB,aC]
      refine aV 17 (some 52) rfl (h:=aU 18 (some 53) rfl (h:=aU 19 (some 54) rfl (h:=aV 20 (some 55) rfl (h:=aV 21 (some 56) rfl (h:=?_)))));try simp only[Act.put,aA,aB,aC]
      refine aV 22 (some 57) rfl (h:=aV 23 (some 58) rfl (h:=aV 24 (some 59) rfl (h:=aV 25 (some 60) rfl (h:=aV 26 (some 61) rfl (h:=?_)))));try simp only[Act.put,aA,aB,aC]
      refine aV 27 (some 62) rfl (h:=aU 28 (some 63) rfl (h:=aU 29 (some 64) rfl (h:=?_)));try simp only[Act.put,aA,aB,aC]
      refine wpAnyH_ready (rs:=[30]) (by kernel_rfl) (by simp) ?_;refine AllReadyH.cons rfl (λ K hK=>?_) AllReadyH.nil;go_simp
      have H':=aQ (HN.out.set (k:=s) (v:=true) (by omega) HPP.out n2 n3);try dsimp only
      refine hK.out _ _ H'.out.s (λ hHeld9=>?_);clear hK K;try simp only[Act.put,aA,aB,aC]
      refine wpAnyH_done (by kernel_rfl) ?_ _;go_wp2_with fail
      go_roundw
      case rel=>exact⟨m+1,L2.set s true,by omega,rfl,HLd2,H'.out.lw,H'.out.nu⟩
      case measure=>simp[intOf];omega
     | false =>
      rw[hv]at oc HLd2;simp only[Bool.false_or]at HLd2;have HV:=aQ hv;clear hv;have f0:=HN.out.lw.rb.fr s;have f1:=HN.out.lw.rb.lt;cases JU with
      | true =>
       simp only[Bool.true_or]at HLd2;go_wp2_with fail
       refine wp_region_held_drew (S:=(λ W=>W.cell? ⟨b2,o2+m,none⟩=some (.int .i64 (s:Int))/\W.cell? ⟨b3,o3+i*6,none⟩=some (.int .i64 X.op)/\W.cell? ⟨b3,o3+i*6+1,none⟩=some (.int .i64 X.dst)/\W.cell? ⟨b3,o3+i*6+2,none⟩=some (.int .i64 X.src)/\W.cell? ⟨b3,o3+i*6+3,none⟩=some (.int .i64 X.off)/\W.cell? ⟨b3,o3+i*6+4,none⟩=some (.int .i64 X.imm)/\W.cell? ⟨b3,o3+i*6+5,none⟩=some (.int .u64 X.wide))) (by kernel_rfl) HN.out.s (λ hHeld=>?_);refine aU 0 (some 35) rfl (h:=aU 1 (some 36) rfl (h:=aU 2 (some 37) rfl (h:=aU 3 (some 38) rfl (h:=aU 4 (some 39) rfl (h:=?_)))));try simp only[Act.put,aA,aB,aC]
       refine aU 5 (some 40) rfl (h:=aU 6 (some 41) rfl (h:=aU 7 (some 42) rfl (h:=aU 8 (some 43) rfl (h:=aU 9 (some 44) rfl (h:=?_)))));try simp only[Act.put,aA,aB,aC]
       refine aU 10 (some 45) rfl (h:=?_);try simp only[Act.put,aA,aB,aC]
       refine wpAnyH_ready (rs:=[11]) (by kernel_rfl) (by simp) ?_;refine AllReadyH.cons rfl (λ K hK=>?_) AllReadyH.nil;go_simp
       try dsimp only
       refine hK.out _ _ HN.out.s (λ hHeld2=>?_);clear hK K;try simp only[Act.put,aA,aB,aC]
       refine aU 12 (some 47) rfl (h:=aU 13 (some 48) rfl (h:=aU 14 (some 49) rfl (h:=aU 15 (some 50) rfl (h:=aU 16 (some 51) rfl (h:=?_)))));try simp only[Act.put,aA,aB,aC]
       refine wpAnyH_ready (rs:=[17]) (by kernel_rfl) (by simp) ?_;refine AllReadyH.cons rfl (λ K hK=>?_) AllReadyH.nil;go_simp
       go_at_call 31
       refine(HRJ.out _).mono ?_;rintro e w3 ⟨rfl,hb⟩;have H':=aQ (HN.out.next hb);clear hb HN hHeld hHeld2 oc f0 f1;have HN:=H';clear H';have oc:=HN.out.lw.rb.cell s (by omega);rw[HV.out]at oc;have f0:=HN.out.lw.rb.fr s;have f1:=HN.out.lw.rb.lt;try dsimp only
       refine hK.out _ _ HN.out.s (λ hHeld3=>?_);clear hK K;try simp only[Act.put,aA,aB,aC]
       refine aU 18 (some 53) rfl (h:=aU 19 (some 54) rfl (h:=aV 20 (some 55) rfl (h:=aV 21 (some 56) rfl (h:=aV 22 (some 57) rfl (h:=?_)))));try simp only[Act.put,aA,aB,aC]
       refine aV 23 (some 58) rfl (h:=aV 24 (some 59) rfl (h:=aV 25 (some 60) rfl (h:=aV 26 (some 61) rfl (h:=aV 27 (some 62) rfl (h:=?_)))));try simp only[Act.put,aA,aB,aC]
       refine aU 28 (some 63) rfl (h:=aU 29 (some 64) rfl (h:=?_));try simp only[Act.put,aA,aB,aC]
       refine wpAnyH_ready (rs:=[30]) (by kernel_rfl) (by simp) ?_;refine AllReadyH.cons rfl (λ K hK=>?_) AllReadyH.nil;go_simp
       have H':=aQ (HN.out.set (k:=s) (v:=true) (by omega) HPP.out n2 n3);try dsimp only
       refine hK.out _ _ H'.out.s (λ hHeld9=>?_);clear hK K;try simp only[Act.put,aA,aB,aC]
       refine wpAnyH_done (by kernel_rfl) ?_ _;go_wp2_with fail
       go_roundw
       case rel=>exact⟨m+1,L2.set s true,by omega,rfl,HLd2,H'.out.lw,H'.out.nu⟩
       case measure=>simp[intOf];omega
      | false =>
       simp only[Bool.false_or]at HLd2
       rw[show decide (s≠NX)=((s:Int) != (NX:Int)) by
        by_cases e:s=NX
        ·subst e;simp
        ·have e2:¬ (s:Int)=(NX:Int):=by omega
         simp[e,e2]]at HLd2
       go_wp2_with fail
       refine wp_region_held_drew (S:=(λ W=>W.cell? ⟨b2,o2+m,none⟩=some (.int .i64 (s:Int))/\W.cell? ⟨b3,o3+i*6,none⟩=some (.int .i64 X.op)/\W.cell? ⟨b3,o3+i*6+1,none⟩=some (.int .i64 X.dst)/\W.cell? ⟨b3,o3+i*6+2,none⟩=some (.int .i64 X.src)/\W.cell? ⟨b3,o3+i*6+3,none⟩=some (.int .i64 X.off)/\W.cell? ⟨b3,o3+i*6+4,none⟩=some (.int .i64 X.imm)/\W.cell? ⟨b3,o3+i*6+5,none⟩=some (.int .u64 X.wide))) (by kernel_rfl) HN.out.s (λ hHeld=>?_);refine aU 0 (some 35) rfl (h:=aU 1 (some 36) rfl (h:=aU 2 (some 37) rfl (h:=aU 3 (some 38) rfl (h:=aU 4 (some 39) rfl (h:=?_)))));try simp only[Act.put,aA,aB,aC]
       refine aU 5 (some 40) rfl (h:=aU 6 (some 41) rfl (h:=aU 7 (some 42) rfl (h:=aU 8 (some 43) rfl (h:=aU 9 (some 44) rfl (h:=?_)))));try simp only[Act.put,aA,aB,aC]
       refine aU 10 (some 45) rfl (h:=?_);try simp only[Act.put,aA,aB,aC]
       refine wpAnyH_ready (rs:=[11]) (by kernel_rfl) (by simp) ?_;refine AllReadyH.cons rfl (λ K hK=>?_) AllReadyH.nil;go_simp
       try dsimp only
       refine hK.out _ _ HN.out.s (λ hHeld2=>?_);clear hK K;try simp only[Act.put,aA,aB,aC]
       refine aU 12 (some 47) rfl (h:=aU 13 (some 48) rfl (h:=aU 14 (some 49) rfl (h:=aU 15 (some 50) rfl (h:=aU 16 (some 51) rfl (h:=?_)))));try simp only[Act.put,aA,aB,aC]
       refine wpAnyH_ready (rs:=[17]) (by kernel_rfl) (by simp) ?_;refine AllReadyH.cons rfl (λ K hK=>?_) AllReadyH.nil;go_simp
       go_at_call 31
       refine(HRJ.out _).mono ?_;rintro e w3 ⟨rfl,hb⟩;have H':=aQ (HN.out.next hb);clear hb HN hHeld hHeld2 oc f0 f1;have HN:=H';clear H';have oc:=HN.out.lw.rb.cell s (by omega);rw[HV.out]at oc;have f0:=HN.out.lw.rb.fr s;have f1:=HN.out.lw.rb.lt;try dsimp only
       refine hK.out _ _ HN.out.s (λ hHeld3=>?_);clear hK K;try simp only[Act.put,aA,aB,aC]
       refine aU 18 (some 53) rfl (h:=aU 19 (some 54) rfl (h:=aU 20 (some 55) rfl (h:=aU 21 (some 56) rfl (h:=aU 22 (some 57) rfl (h:=?_)))));try simp only[Act.put,aA,aB,aC]
       refine aU 23 (some 58) rfl (h:=aU 24 (some 59) rfl (h:=aU 25 (some 60) rfl (h:=?_)));try simp only[Act.put,aA,aB,aC]
       refine wpAnyH_ready (rs:=[26]) (by kernel_rfl) (by simp) ?_;refine AllReadyH.cons rfl (λ K hK=>?_) AllReadyH.nil;go_simp
       go_at_call 30
       refine(HRN2.out _ HN.out.lw.low).mono ?_;rintro e w4 ⟨rfl,rfl⟩;try dsimp only
       refine hK.out _ _ HN.out.s (λ hHeld4=>?_);clear hK K;try simp only[Act.put,aA,aB,aC]
       refine aU 27 (some 62) rfl (h:=aU 28 (some 63) rfl (h:=aU 29 (some 64) rfl (h:=?_)));try simp only[Act.put,aA,aB,aC]
       refine wpAnyH_ready (rs:=[30]) (by kernel_rfl) (by simp) ?_;refine AllReadyH.cons rfl (λ K hK=>?_) AllReadyH.nil;go_simp
       have H':=aQ (HN.out.set (k:=s) (v:=((s:Int) != (NX:Int))) (by omega) HPP.out n2 n3);try dsimp only
       refine hK.out _ _ H'.out.s (λ hHeld9=>?_);clear hK K;try simp only[Act.put,aA,aB,aC]
       refine wpAnyH_done (by kernel_rfl) ?_ _;go_wp2_with fail
       go_roundw
       case rel=>exact⟨m+1,L2.set s ((s:Int) != (NX:Int)),by omega,rfl,HLd2,H'.out.lw,H'.out.nu⟩
       case measure=>simp[intOf];omega
    ·obtain rfl:m=S:=by omega
     have HX:=aQ hlw;have HN':=aQ (HNX.out L2 HLd.out);clear hlw hnu;go_wp2_with fail
     go_roundw
     case rel=>exact⟨a+1,L2,by omega,rfl,HN',HX.out⟩
     case measure=>simp[intOf];omega
  ·obtain rfl:a=M:=by omega
   have hd:∀ j,L.getD j false=(gOf l).lead j:=by
    have:=HLd.out;rw[<- HM.out]at this;exact this.done
   have hlen:L.length=N+2:=by
    have:=HLd.out.len;rw[this,<- HNL.out];rfl
   have HD:=aQ (And.intro hlen (And.intro hd HW.out));clear hd hlen hlw;go_wp2_with fail
   go_ret;exact⟨_,L,rfl,HD.out⟩
end Go.Proofs.YtkfahppdklecdaaGreatDoor
