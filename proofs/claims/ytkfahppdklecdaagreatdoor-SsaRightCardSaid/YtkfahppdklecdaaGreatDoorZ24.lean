import Derived.Test.YtkfahppdklecdaaGreatDoorZ12
import Derived.Test.YtkfahppdklecdaaGreatDoorZ23
set_option maxRecDepth 100000
set_option maxHeartbeats 16000000
namespace Go.Proofs.YtkfahppdklecdaaGreatDoor
open Go.RowKit M
open Fl (Fg upd upd_same upd_other)
namespace Fl
variable {G:Fg}
theorem Fg.fd_in(hG:G.Ok){r:Nat}(h:G.R r):G.fd r<G.n/\G.inB (G.fd r) r=true:=by
 obtain⟨k,hk,hb⟩:=Fg.in_some hG h;rw[Fg.fd_is hG hk hb];exact⟨hk,hb⟩
theorem sorted_le{l:List Nat}(h:l.Pairwise (· < ·)){i j:Nat}(hij:i<=j)(hj:j<l.length):l.getD i 0<=l.getD j 0:=by
 rcases Nat.lt_or_ge i j with c|c
 ·exact Nat.le_of_lt (sorted_lt h c hj)
 ·rw[show i=j by omega];exact Nat.le_refl _
theorem Fg.fd_prev(hG:G.Ok){k:Nat}(hk:k+1<G.reach.length)(hl:G.lead (G.reach.getD (k+1) 0)=false):G.fd (G.reach.getD (k+1) 0)=G.fd (G.reach.getD k 0):=by
 have hR:=(Fg.mem_reach hG).1 (getD_mem hk);obtain⟨h1,h2⟩:=Fg.fd_in hG hR;obtain⟨a1,a2⟩:=Fg.inB_iff.1 h2;have hf:=Fg.fr_ok hG h1
 have hne:G.fr (G.fd (G.reach.getD (k+1) 0))≠G.reach.getD (k+1) 0:=λ e=>by
  rw[e,hl]at hf;cases hf.2
 obtain⟨j,hj,e⟩:=mem_getD ((Fg.mem_reach hG).2 hf.1)
 have hjk:j<=k:=by
  rcases Nat.lt_or_ge k j with c|c
  ·have:=sorted_le G.reach_sorted (i:=k+1) (j:=j) (by omega) hj
   omega
  ·exact c
 have h3:=sorted_le G.reach_sorted hjk (by omega);have h4:=sorted_lt G.reach_sorted (i:=k) (j:=k+1) (by omega) hk;exact(Fg.fd_is hG h1 (Fg.inB_iff.2 ⟨by omega,by omega⟩)).symm
theorem Fg.reach_zero(hG:G.Ok):G.lead (G.reach.getD 0 0)=true:=by
 obtain⟨j,hj,e⟩:=mem_getD ((Fg.mem_reach hG).2 .zero);have:=sorted_le G.reach_sorted (i:=0) (j:=j) (by omega) hj;rw[show G.reach.getD 0 0=0 by omega];exact Fg.lead0
end Fl
structure Ct(G:Fg)(k:Nat)(F T L:Nat->Nat):Prop where
 fr:∀ a,a<G.n->G.fr a∈G.reach.take k->F a=G.fr a
 la:∀ a,a<G.n->∀ r∈G.reach.take k,G.inB a r=true->r<=L a/\G.R (L a)/\G.inB a (L a)=true/\T a=G.nx (L a)
theorem Ct.start(G:Fg)(F T L:Nat->Nat):Ct G 0 F T L:=⟨λ a _ h=>by simp at h,λ a _ r h=>by simp at h⟩
theorem take_lt{G:Fg}{k:Nat}(hk:k<G.reach.length){r:Nat}(h:r∈G.reach.take k):r<G.reach.getD k 0:=by
 obtain⟨j,hj,e⟩:=List.getElem_of_mem h;rw[List.length_take]at hj;have:=Fl.sorted_lt G.reach_sorted (i:=j) (j:=k) (by omega) hk;rw[List.getElem_take]at e;rw[List.getD_eq_getElem?_getD,List.getElem?_eq_getElem (by omega)]at this;have e2:G.reach[j]'(by omega)=r:=e;simp only[Option.getD_some]at this;omega
theorem Ct.step{G:Fg}(hG:G.Ok){k:Nat}{F T L:Nat->Nat}(h:Ct G k F T L)(hk:k<G.reach.length){r t:Nat}(hr:G.reach.getD k 0=r)(ht:G.fd r=t) :
  Ct G (k+1) (if G.lead r=true then upd F t r else F) (upd T t (G.nx r)) (upd L t r):=by
 have hR:G.R r:=by rw[<- hr];exact(Fg.mem_reach hG).1 (Fl.getD_mem hk)
 obtain⟨h1,h2⟩:=Fg.fd_in hG hR;rw[ht]at h1 h2;have htk:=fE hk;rw[hr]at htk;refine⟨λ a ha hm=>?_,λ a ha s hm hb=>?_⟩
 ·rw[htk]at hm
  rcases List.mem_append.1 hm with c|c
  ·have e:=h.fr a ha c
   split
   ·rename_i hl
    by_cases e2:a=t
    ·subst e2
     have h3:=Fg.fd_lead hG hR hl;rw[ht]at h3;rw[upd_same,h3.2.1]
    ·rw[upd_other _ _ e2];exact e
   ·exact e
  ·have e:G.fr a=r:=List.mem_singleton.1 c
   have hl:G.lead r=true:=by rw[<- e];exact(Fg.fr_ok hG ha).2
   have h3:=Fg.fd_lead hG hR hl;rw[ht]at h3;have e2:a=t:=Fg.fr_inj G ha h1 (by rw[e,h3.2.1]);rw[if_pos hl,e2,upd_same,h3.2.1]
 ·rw[htk]at hm
  by_cases e2:a=t
  ·subst e2
   rw[upd_same,upd_same];refine⟨?_,hR,h2,rfl⟩;rcases List.mem_append.1 hm with c|c
   ·have:=take_lt hk c;omega
   ·rw[List.mem_singleton.1 c];exact Nat.le_refl _
  ·rw[upd_other _ _ e2,upd_other _ _ e2]
   rcases List.mem_append.1 hm with c|c
   ·exact h.la a ha s c hb
   ·rw[List.mem_singleton.1 c]at hb
    exact absurd (Fg.in_one hG ha h1 hb h2) e2
theorem Ct.done{G:Fg}(hG:G.Ok){F T L:Nat->Nat}(h:Ct G G.reach.length F T L){a:Nat}(ha:a<G.n):F a=G.fr a/\T a=G.to (G.fr a)/\L a=G.la a:=by
 rw[show G.reach.length=G.reach.length from rfl]at h;have hfr:=Fg.fr_ok hG ha;have h1:=h.fr a ha (by rw[List.take_length];exact(Fg.mem_reach hG).2 hfr.1);obtain⟨l1,l2,l3⟩:=Fg.last_ok hG _ hfr.1;obtain⟨t1,t2,t3⟩:=Fg.to_ok hG hfr.1;obtain⟨c1,c2,c3,c4⟩:=h.la a ha (G.la a) (by rw[List.take_length];exact(Fg.mem_reach hG).2 l1) (Fg.inB_iff.2 ⟨l3,t1⟩);obtain⟨d1,d2⟩:=Fg.inB_iff.1 c3;have hto:G.to (G.fr a)=G.nx (G.last (G.fr a)):=rfl;have hla:G.la a=G.last (G.fr a):=rfl;rw[hla]at c1
 have e:L a=G.la a:=by
  rw[hla];obtain⟨k1,k2⟩:=l1.ok hG;rcases hG.nx _ k1 k2 with e|⟨e,hh⟩
  ·omega
  ·by_cases e2:L a=G.last (G.fr a)+1
   ·have:=(c2.ok hG).2
    rw[e2,hh]at this;cases this
   ·omega
 exact⟨h1,by rw[c4,e];rfl,e⟩
structure Bc(w W:World)(g n:Nat)(F T L:Nat->Nat):Prop where
 low:Below w.heap.size w W
 gb:w.heap.size<=g
 gl:g<W.heap.size
 fz:∀ j,W.frozen? ⟨g,j,none⟩=false
 c:∀ k,k<n->W.cell? ⟨g,k*5,none⟩=some (.int .i64 (F k))/\W.cell? ⟨g,k*5+1,none⟩=some (.int .i64 (T k))/\W.cell? ⟨g,k*5+2,none⟩=some (.int .i64 (L k))/\W.cell? ⟨g,k*5+3,none⟩=some (.slice none 0 0)/\W.cell? ⟨g,k*5+4,none⟩=some (.slice none 0 0)
theorem cX{W:World}{g o k:Nat}{u v:Value}(h:W.cell? ⟨g,o,none⟩=some u)(hb:o≠k):(W.setCell ⟨g,k,none⟩ v).cell? ⟨g,o,none⟩=some u :=
 (World.cell?_setCell_other _ _ _ _ (λ e=>hb (congrArg Addr.off e).symm)).trans h
theorem Bc.set0{w W:World}{g n a o:Nat}{F T L:Nat->Nat}(h:Bc w W g n F T L)(ha:a<n)(ho:o=a*5)(x:Nat):Bc w (W.setCell ⟨g,o,none⟩ (.int .i64 (x:Int))) g n (upd F a x) T L:=by
 subst ho;obtain⟨low,gb,gl,fz,c⟩:=h;refine⟨low.setCell (p:=⟨g,_,none⟩) gb _,gb,by simpa[World.setCell]using gl,λ j=>(World.frozen?_setCell ..).trans (fz j),λ k hk=>?_⟩;obtain⟨c0,c1,c2,c3,c4⟩:=c k hk;refine⟨?_,cX c1 (by omega),cX c2 (by omega),cX c3 (by omega),cX c4 (by omega)⟩;by_cases e:k=a
 ·subst e;rw[upd_same];exact World.cell?_setCell_same _ _ _ c0
 ·rw[upd_other _ _ e];exact cX c0 (by omega)
theorem Bc.set1{w W:World}{g n a o:Nat}{F T L:Nat->Nat}(h:Bc w W g n F T L)(ha:a<n)(ho:o=a*5+1)(x:Nat):Bc w (W.setCell ⟨g,o,none⟩ (.int .i64 (x:Int))) g n F (upd T a x) L:=by
 subst ho;obtain⟨low,gb,gl,fz,c⟩:=h;refine⟨low.setCell (p:=⟨g,_,none⟩) gb _,gb,by simpa[World.setCell]using gl,λ j=>(World.frozen?_setCell ..).trans (fz j),λ k hk=>?_⟩;obtain⟨c0,c1,c2,c3,c4⟩:=c k hk;refine⟨cX c0 (by omega),?_,cX c2 (by omega),cX c3 (by omega),cX c4 (by omega)⟩;by_cases e:k=a
 ·subst e;rw[upd_same];exact World.cell?_setCell_same _ _ _ c1
 ·rw[upd_other _ _ e];exact cX c1 (by omega)
theorem Bc.set2{w W:World}{g n a o:Nat}{F T L:Nat->Nat}(h:Bc w W g n F T L)(ha:a<n)(ho:o=a*5+2)(x:Nat):Bc w (W.setCell ⟨g,o,none⟩ (.int .i64 (x:Int))) g n F T (upd L a x):=by
 subst ho;obtain⟨low,gb,gl,fz,c⟩:=h;refine⟨low.setCell (p:=⟨g,_,none⟩) gb _,gb,by simpa[World.setCell]using gl,λ j=>(World.frozen?_setCell ..).trans (fz j),λ k hk=>?_⟩;obtain⟨c0,c1,c2,c3,c4⟩:=c k hk;refine⟨cX c0 (by omega),cX c1 (by omega),?_,cX c3 (by omega),cX c4 (by omega)⟩;by_cases e:k=a
 ·subst e;rw[upd_same];exact World.cell?_setCell_same _ _ _ c2
 ·rw[upd_other _ _ e];exact cX c2 (by omega)
def zB:Array Value:=#[.int .i64 0,.int .i64 0,.int .i64 0,.slice none 0 0,.slice none 0 0]
def mkB(n:Nat):Array Value:=madeCells zB (n*5)
theorem mkB_get{n k d:Nat}(hk:k<n)(hd:d<5):(mkB n)[k*5+d]?=zB[d]?:=by
 have h1:k*5+d<n*5:=by omega
 have h2:(k*5+d) % 5=d:=by omega
 have h3:zB.size=5:=rfl;simp only[mkB,madeCells,Array.getElem?_map,Array.getElem?_range,h1,h3];simp[h2,h3,hd]
theorem run_make_blk(n:Nat)(hn:n<=8192)(W:World):(Instr.makeSlice 42 (.int .i64 (n:Int)) (.int .i64 (n:Int))).run Tryz.prog W=.ok (.slice (some ⟨W.heap.size,0,none⟩) n n) (W.alloc (.cells (mkB n) 94)):=by
 obtain⟨i,hi,hz,hs,hb⟩:=info_parts infoBlk;have h:=run_make (P:=Tryz.prog) W 42 94 i _ Tryz.underlying42 hi hz .i64 .i64 n n (by omega) (Int.le_refl _) (by rw[hb];omega) (by omega);simp only[Int.toNat_natCast,hs]at h;exact h
theorem Bc.start(w:World)(n:Nat):Bc w (w.alloc (.cells (mkB n) 94)) w.heap.size n (λ _=>0) (λ _=>0) (λ _=>0) :=
 ⟨(Below.refl _ _).alloc (Nat.le_refl _) _,Nat.le_refl _,by simp,λ j=>World.frozen?_alloc_new _ _ _ j,λ k hk =>
  ⟨aJ w (mkB_get (d:=0) hk (by omega)),aJ w (mkB_get (d:=1) hk (by omega)),aJ w (mkB_get (d:=2) hk (by omega)),aJ w (mkB_get (d:=3) hk (by omega)),aJ w (mkB_get (d:=4) hk (by omega))⟩⟩
theorem Bc.done{w W:World}{g:Nat}{G:Fg}(hG:G.Ok){F T L:Nat->Nat}(h:Bc w W g G.n F T L)(hc:Ct G G.reach.length F T L):Bm w W g G.n G (λ _=>none) (λ _=>0) (G.row 0 0):=by
 rw[Fl.Fg.row_start];refine⟨h.low,h.gb,h.gl,h.fz,λ k hk=>?_,λ r hr=>?_,λ r hr=>World.ownsRow_nil _ _ _ _,λ r hr=>by simp,λ r s hr hs _ b hb2=>by simp at hb2⟩
 ·obtain⟨c0,c1,c2,_⟩:=h.c k hk
  obtain⟨e0,e1,e2⟩:=hc.done hG hk;rw[e0]at c0;rw[e1]at c1;rw[e2]at c2;exact⟨c0,c1,c2⟩
 ·obtain⟨_,_,_,c3,c4⟩:=h.c (r / 2) (by omega)
  rcases Nat.mod_two_eq_zero_or_one r with e|e
  ·rw[e];exact c3
  ·rw[e];exact c4
theorem cut_any(q:Option Addr)(qc:Nat)(l:List In)(p:Option Addr)(pc b nn:Nat)(f:Int->Option Int)(w:World)(h:InsAt w q l)(hc:(aS l).2=0)(hr:NumsAt .i64 w p (cK l))(hm:Mp w b nn f)(hp:Lp (gOf l) (gOf l).n f) :
  Calls Tryz.prog 49 #[.slice q l.length qc,.slice p (cK l).length pc,.map (some b)] w λ e w'=>∃ g,e=.returned (.slice (some ⟨g,0,none⟩) (gOf l).n (gOf l).n)/\Bm w w' g (gOf l).n (gOf l) (λ _=>none) (λ _=>0) ((gOf l).row 0 0):=by
 have HG:=aQ (bJ hc);have hN:=(cW hc).1;have HR:=aQ (λ W (hW:Below w.heap.size w W)=>hr.below hW);have HMP:=aQ (λ W (hW:Below w.heap.size w W)=>hm.next hW);have HBE:=aQ (λ (i:Nat) (hi:(gOf l).R i) (W:World) (hb:Below w.heap.size w W)=>behind_any q qc l i W (h.below hb) hc hi);have hrn:(cK l).length=(gOf l).reach.length:=by rw[dS hc];simp
 have HRA:Hid (∀ k,k<(gOf l).reach.length->(cK l).getD k 0=(((gOf l).reach.getD k 0:Nat):Int)):=aQ (λ k hk=>by
  rw[dS hc,List.getD_eq_getElem?_getD,List.getElem?_map,List.getD_eq_getElem?_getD,List.getElem?_eq_getElem hk];rfl)
 have HRR:Hid (∀ k,k<(gOf l).reach.length->(gOf l).R ((gOf l).reach.getD k 0)):=aQ (λ k hk=>(Fl.Fg.mem_reach HG.out).1 (Fl.getD_mem hk));have HST:=aQ (λ k F T L (h:Ct (gOf l) k F T L) hk=>h.step HG.out hk rfl rfl);have HPR:=aQ (λ k hk hl=>Fl.Fg.fd_prev (G:=gOf l) HG.out (k:=k) hk hl);have HZE:=aQ (Fl.Fg.reach_zero HG.out);have HDN:=aQ (λ g W F T L (h:Bc w W g (gOf l).n F T L) (hc:Ct (gOf l) (gOf l).reach.length F T L)=>h.done HG.out hc);have HLE:=aQ (λ s hs hl=>hp.lead HG.out (s:=s) hs hl);have HNO:=aQ (λ s hl=>hp.none HG.out (s:=s) hl);have HFD:=aQ (λ r (h:(gOf l).R r)=>(Fl.Fg.fd_in HG.out h).1);have HLS:=aQ (ls_lt (gOf l));have HKE:=aQ hp.key;have hll:((gOf l).ls.map Int.ofNat).length=(gOf l).n:=by rw[List.length_map];rfl
 have hs:=hr.small;obtain⟨N,hNl⟩:∃ N,l.length=N:=⟨_,rfl⟩;have HNL:=aQ hNl;obtain⟨M,hM⟩:∃ M,(gOf l).reach.length=M:=⟨_,rfl⟩
 have hMN:M<=4096:=by
  have h2:(gOf l).reach.length<=(List.range (gOf l).N).length:=List.length_filter_le _ _;have h3:(gOf l).N<=4096:=hN;rw[List.length_range]at h2;omega
 have hn:(gOf l).n<=4096:=by
  have h2:(gOf l).ls.length<=(gOf l).reach.length:=List.length_filter_le _ _;have:(gOf l).ls.length=(gOf l).n:=rfl;omega
 obtain⟨n,hnn⟩:∃ n,(gOf l).n=n:=⟨_,rfl⟩;rw[hM]at hrn HRA HRR HST HPR HDN;rw[hnn]at HFD hll hn HDN;have HRN:=aQ hrn;have HNN:=aQ hnn;have HLL:=aQ hll;rw[hrn]at hs ⊢;rw[hNl]at hN HBE ⊢;generalize (gOf l).ls.map Int.ofNat=ks at *;have hmk:=run_make_blk n (by omega);clear h hc hNl hM hrn hr hm hp hnn hll;rw[HNN.out];have hlen:=λ ty=>(HMP.out _ (Below.refl _ w)).size (nodup_lt HLS.out) HKE.out ty
 rw[HLL.out]at hlen;go_enter Tryz.func49,Tryz.ntmps49
 go_wp2_with fail
 clear hmk hlen
 go_loopw [8,18] (λ o v wr=>∃ (k a:Nat) (F T L:Nat->Nat),k<=M/\v=.int .i64 (k:Int)/\o=.int .i64 (a:Int)/\Hid (∀ j,k=j+1->a=(gOf l).fd ((gOf l).reach.getD j 0))/\Hid (Ct (gOf l) k F T L)/\Bc w wr w.heap.size n F T L) (λ _ v _=>M - (RowKit.intOf v).toNat)
 case atStart=>exact⟨0,0,_,_,_,Nat.zero_le _,rfl,rfl,aQ (λ j hj=>by omega),aQ (Ct.start _ _ _ _),Bc.start w n⟩
 case round =>
  obtain⟨k,a,F,T,L,hk,rfl,rfl,HA,HCT,hb⟩:=hrel;have HB:=aQ hb;by_cases hlt:k<M
  ·obtain⟨b1,o1,rfl,hl1,c0⟩:=(HR.out _ hb.low).cells k (by rw[HRN.out];exact hlt)
   rw[HRA.out k hlt]at c0;have hRi:=HRR.out k hlt;have hiN:(gOf l).reach.getD k 0<N:=by have:=(hRi.ok HG.out).1;rw[<- HNL.out];exact this
   have HS2:=aQ (HST.out k F T L HCT.out hlt);have hfd:=HFD.out _ hRi;have hleT:=λ hl=>HLE.out _ hRi hl
   have hnoT:=λ hl=>HNO.out ((gOf l).reach.getD k 0) hl
   have hprev:(gOf l).lead ((gOf l).reach.getD k 0)=false->a=(gOf l).fd ((gOf l).reach.getD k 0):=λ hl=>by
    cases k with
    | zero=>rw[HZE.out]at hl;cases hl
    | succ j=>rw[HPR.out j hlt hl];exact HA.out j rfl
   have HAN:Hid (∀ j,k+1=j+1->(gOf l).fd ((gOf l).reach.getD k 0)=(gOf l).fd ((gOf l).reach.getD j 0)):=aQ (λ j hj=>by rw[show k=j by omega]);have HBE2:=aQ (HBE.out _ hRi);generalize hrr:(gOf l).reach.getD k 0=r at *;have hlt1:=(HB.out.c);generalize htt:(gOf l).fd r=t at *;have hgl:=hb.gl;obtain⟨NX,hNX⟩:∃ x,nxI (l.getD r z) r=x:=⟨_,rfl⟩;have hnx:(gOf l).nx r=NX:=hNX;rw[hNX]at HBE2;rw[hnx]at HS2;clear hb hRi hlt1 HST hNX hnx;cases hv:(gOf l).lead r with
   | true =>
    rw[hv,if_pos rfl]at HS2;have HF:=aQ (hleT hv);obtain⟨c1,c2,c3,c4,c5⟩:=HB.out.c t hfd;have f0:=HB.out.fz;have HB1:=aQ (HB.out.set0 hfd (o:=t*5) rfl r);have HB2:=aQ (HB1.out.set2 hfd (o:=t*5+2) rfl r);have HB3:=aQ (HB2.out.set1 hfd (o:=t*5+1) rfl NX);clear hleT hnoT hprev hv
    go_wp2_with (first
     | (at_lookup;refine dA rfl (.tmp 23) (.tmp 24) rfl b nn f (r:Int) (t:Int) rfl rfl (HMP.out _ HB.out.low) (dK (by omega) (by omega)) HF.out ?_)
     | (go_at_call 94;(with_reducible refine(HBE2.out _ HB2.out.low).mono ?_);rintro e w4 ⟨rfl,rfl⟩))
    go_roundw
    case rel=>exact⟨k+1,t,_,_,_,by omega,rfl,rfl,HAN,HS2,HB3.out⟩
    case measure=>simp[RowKit.intOf];omega
   | false =>
    rw[hv,if_neg (by simp)]at HS2;have HF:=aQ (hnoT hv);have hat:=hprev hv;subst hat;obtain⟨c1,c2,c3,c4,c5⟩:=HB.out.c a hfd;have f0:=HB.out.fz;have HB2:=aQ (HB.out.set2 hfd (o:=a*5+2) rfl r);have HB3:=aQ (HB2.out.set1 hfd (o:=a*5+1) rfl NX);clear hleT hnoT hprev hv
    go_wp2_with (first
     | (at_lookup;refine dC rfl (.tmp 23) (.tmp 24) rfl b nn f (r:Int) rfl rfl (HMP.out _ HB.out.low) (dK (by omega) (by omega)) HF.out ?_;intro c9)
     | (go_at_call 94;(with_reducible refine(HBE2.out _ HB2.out.low).mono ?_);rintro e w4 ⟨rfl,rfl⟩))
    go_roundw
    case rel=>exact⟨k+1,a,_,_,_,by omega,rfl,rfl,HAN,HS2,HB3.out⟩
    case measure=>simp[RowKit.intOf];omega
  ·obtain rfl:M=k:=by omega
   have HD:=aQ (HDN.out _ _ F T L hb HCT.out);clear hb;go_wp2_with fail
   go_ret;exact⟨w.heap.size,rfl,HD.out⟩
end Go.Proofs.YtkfahppdklecdaaGreatDoor
namespace Go.Proofs.YtkfahppdklecdaaGreatDoor
open Go.RowKit M
open Fl (upd upd_same upd_other)
theorem contains_nums(q:Option Addr)(qc:Nat)(l:List Int)(x:Int)(w:World)(h:NumsAt .i64 w q l):Calls Tryz.prog 95 #[.slice q l.length qc,.int .i64 x] w λ e w'=>e=.returned (.bool (decide (x∈l)))/\w=w':=by
 have hs:=h.small;cases l with
 | nil =>
  refine(Tryz.slices_Contains_int_empty q qc x w).mono ?_;rintro e w' ⟨rfl,rfl⟩;exact⟨by simp,rfl⟩
 | cons y l =>
  obtain⟨b,off,rfl,_,_⟩:=h.cells 0 (by simp);refine(Tryz.slices_Contains_int b off (y :: l).length qc (y :: l) x w (Nat.le_refl _) (by omega) (λ j hj=>?_)).mono ?_
  ·obtain⟨b',off',e,_,hc⟩:=h.cells j hj
   injection e with e
   injection e with e1 e2
   subst e1 e2;exact hc
  ·rintro e w' ⟨rfl,rfl⟩
   refine⟨?_,rfl⟩;rw[List.take_length];congr 2
   rw[Bool.eq_iff_iff,List.contains_iff_mem,decide_eq_true_eq]
structure Bo(w W:World)(g n:Nat)(G:Fl.Fg)(P:Nat->Option Addr)(C:Nat->Nat)(R:Nat->List Nat)(b nn:Nat)(f:Int->Option Int):Prop where
 bm:Bm w W g n G P C R
 mp:Mp W b nn f
 nb:g≠b
 nq:∀ r,r<2*n->(P r).map Addr.block≠some b
structure Bn(w W:World)(g n:Nat)(G:Fl.Fg)(P:Nat->Option Addr)(C:Nat->Nat)(R:Nat->List Nat)(ps:Option Addr)(xs:List Int)(b nn:Nat)(f:Int->Option Int):Prop where
 bj:Bj w W g n G P C R ps xs
 mp:Mp W b nn f
 nb:g≠b
 nq:∀ r,r<2*n->(P r).map Addr.block≠some b
theorem Bn.o{w W:World}{g n:Nat}{G:Fl.Fg}{P:Nat->Option Addr}{C:Nat->Nat}{R:Nat->List Nat}{ps:Option Addr}{xs:List Int}{b nn:Nat}{f:Int->Option Int}(h:Bn w W g n G P C R ps xs b nn f):Bo w W g n G P C R b nn f :=
 ⟨h.bj.bm,h.mp,h.nb,h.nq⟩
theorem Bn.start{w W W':World}{g n:Nat}{G:Fl.Fg}{P:Nat->Option Addr}{C:Nat->Nat}{R:Nat->List Nat}{ps:Option Addr}{xs:List Int}{b nn:Nat}{f:Int->Option Int}(h:Bo w W g n G P C R b nn f)(hb:Below W.heap.size W W')(hn:NumsAt .i64 W' ps xs)(hp:∀ ad,ps=some ad->W.heap.size<=ad.block):Bn w W' g n G P C R ps xs b nn f :=
 ⟨Bj.start h.bm hb hn hp,h.mp.next hb,h.nb,h.nq⟩
theorem Bn.next{w W W':World}{g n:Nat}{G:Fl.Fg}{P:Nat->Option Addr}{C:Nat->Nat}{R:Nat->List Nat}{ps:Option Addr}{xs:List Int}{b nn:Nat}{f:Int->Option Int}(h:Bn w W g n G P C R ps xs b nn f)(hb:Below W.heap.size W W'):Bn w W' g n G P C R ps xs b nn f :=
 ⟨h.bj.next hb,h.mp.next hb,h.nb,h.nq⟩
theorem Bn.app{w W W':World}{g n r x m c' o:Nat}{q':Option Addr}{G:Fl.Fg}{P:Nat->Option Addr}{C:Nat->Nat}{R:Nat->List Nat}{ps:Option Addr}{xs:List Int}{v:Value}{b nn:Nat}{f:Int->Option Int}(h:Bn w W g n G P C R ps xs b nn f)(hv:v.ownBlock=(P r).map Addr.block)(hr:r<2*n)(heo:o=r / 2*5+3+r % 2)
  (ho:W'.ownsRow w.heap.size 3 1 (.slice q' m c') ((R r).map Int.ofNat ++ [(x:Int)]).length (aX ((R r).map Int.ofNat ++ [(x:Int)]))) (hm:m=(R r).length+1) (hg:W.grownBy W' v.ownBlock) (hb:(Value.slice q' m c').ownBlock=v.ownBlock∨(Value.slice q' m c').ownBlock=some W.heap.size)
  (hlt:∀ ad,ps=some ad->ad.block<W.heap.size) :
  Bn w (W'.setCell ⟨g,o,none⟩ (.slice q' m c')) g n G (upd P r q') (upd C r c') (upd R r (R r ++ [x])) ps xs b nn f:=by
 refine⟨h.bj.app hv hr heo ho hm hg hb hlt,(h.mp.kept hg (λ e=>h.nq r hr (by rw[<- hv];exact e.symm))).other (a:=⟨g,o,none⟩) h.nb _,h.nb,λ s hs=>?_⟩;rw[hv]at hb;rw[aH]at hb;by_cases e2:s=r
 ·subst e2
  rw[upd_same];rcases hb with e3|e3
  ·rw[e3];exact h.nq s hs
  ·rw[e3]
   intro e4;injection e4 with e4
   have:=h.mp.lt;omega
 ·rw[upd_other _ _ e2];exact h.nq s hs
theorem Bn.contains{w W:World}{g n r:Nat}{G:Fl.Fg}{P:Nat->Option Addr}{C:Nat->Nat}{R:Nat->List Nat}{ps:Option Addr}{xs:List Int}{b nn:Nat}{f:Int->Option Int}(h:Bn w W g n G P C R ps xs b nn f)(hr:r<2*n)(hl:(R r).length<=8192)(t:Nat){y:Bool}(hb:y=decide (t∈R r)):Calls Tryz.prog 95 #[.slice (P r) (R r).length (C r),.int .i64 (t:Int)] W λ e w'=>e=.returned (.bool y)/\W=w':=by
 have o:=h.bj.row hr;have el:(R r).length=((R r).map Int.ofNat).length:=by simp
 rw[el]at o;have hN:=cA o (by rw[<- el];omega);rw[el];refine(contains_nums (P r) (C r) ((R r).map Int.ofNat) (t:Int) W hN).mono ?_;rintro e w' ⟨rfl,rfl⟩;refine⟨?_,rfl⟩;rw[hb];congr 3
 rw[eq_iff_iff,List.mem_map];constructor
 ·rintro⟨a,ha,e⟩
  have:a=t:=by have:(a:Int)=(t:Int):=e;omega
  exact this ▸ ha
 ·intro ha;exact⟨t,ha,rfl⟩
theorem link_any(q:Option Addr)(qc:Nat)(l:List In)(g2 c b nn:Nat)(f:Int->Option Int)(w W:World)(h:InsAt w q l)(hc:(aS l).2=0)(hb:Bm w W g2 (gOf l).n (gOf l) (λ _=>none) (λ _=>0) ((gOf l).row 0 0))(hm:Mp W b nn f)(hp:Lp (gOf l) (gOf l).n f)(hbg:g2≠b) :
  Calls Tryz.prog 50 #[.slice q l.length qc,.slice (some ⟨g2,0,none⟩) (gOf l).n c,.map (some b)] W λ e w'=>e=.returned (.tuple #[])/\∃ P C,Bm w w' g2 (gOf l).n (gOf l) P C ((gOf l).row (gOf l).n 0):=by
 have HG:=aQ (bJ hc);have hN:=(cW hc).1;have HCK:=aQ hc;have HSU:=aQ (λ (i:Int) (W:World) (hW:Below w.heap.size w W)=>psucc_new q qc l i W (h.below hW));unfold SuccQ at HSU
 have HS2:Hid (∀ i,((gOf l).su i).length<=2):=aQ (λ i=>by
  show((bG l (i:Int)).map Int.toNat).length<=2;rw[List.length_map];exact dT l _)
 have HRL:Hid (∀ k j r,j<=2->((gOf l).row k j r).length<=k+2):=aQ (λ k j r hj=>Fl.Fg.row_len (λ k=>HS2.out _) hj r);have HLE:=aQ (λ s hs hl=>hp.lead HG.out (s:=s) hs hl);obtain⟨N,hNl⟩:∃ N,l.length=N:=⟨_,rfl⟩;have HNL:=aQ hNl
 have hnM:(gOf l).n<=4096:=by
  have h2:(gOf l).ls.length<=(gOf l).reach.length:=List.length_filter_le _ _;have h3:(gOf l).reach.length<=(List.range (gOf l).N).length:=List.length_filter_le _ _;have h4:(gOf l).N<=4096:=hN;rw[List.length_range]at h3;have:(gOf l).ls.length=(gOf l).n:=rfl;omega
 obtain⟨n,hn⟩:∃ n,(gOf l).n=n:=⟨_,rfl⟩;have HNN:=aQ hn;have HFR:Hid (∀ k,k<n->(gOf l).R ((gOf l).fr k)):=aQ (λ k hk=>(Fl.Fg.fr_ok HG.out (by rw[HNN.out];exact hk)).1);rw[hn]at hb hnM ⊢;rw[hNl]at hN HSU ⊢;have HB:Hid (Bo w W g2 n (gOf l) (λ _=>none) (λ _=>0) ((gOf l).row 0 0) b nn f):=aQ ⟨hb,hm,hbg,λ r hr=>by simp⟩;clear h hc hb hm hp hbg hn hNl;go_enter Tryz.func50,Tryz.ntmps50
 go_wp2_with fail
 go_loopw [12] (λ v wr2=>∃ (k:Nat) (P:Nat->Option Addr) (C:Nat->Nat),k<=n/\v=.int .i64 (k:Int)/\Bo w wr2 g2 n (gOf l) P C ((gOf l).row k 0) b nn f) (λ v _=>n - (RowKit.intOf v).toNat)
 case atStart=>exact⟨0,_,_,Nat.zero_le _,rfl,HB.out⟩
 case round =>
  clear HB;obtain⟨k,P,C,hk,rfl,hbm⟩:=hrel;have HB:=aQ hbm;by_cases hlt:k<n
  ·obtain⟨c0,c1,c2⟩:=hbm.bm.c k hlt
   have hgl:=hbm.bm.gl;obtain⟨l1,l2,_⟩:=Fl.Fg.last_ok HG.out _ (HFR.out k hlt);have HSI:=HSU.out ((gOf l).la k:Int);have l1':(gOf l).R ((gOf l).la k):=l1;rw[su_ints HCK.out l1']at HSI;simp only[List.length_map]at HSI;have HSL:Hid (∀ s∈(gOf l).su ((gOf l).la k),(gOf l).R s/\(gOf l).lead s=true):=aQ (λ s hs=>Fl.Fg.su_lead HG.out l1 l2 hs);have HSI2:=aQ HSI;have hS2:=HS2.out ((gOf l).la k);have HNXT:=aQ (Fl.Fg.row_next (gOf l) k);have HOLD:=aQ (λ j (hj:j<((gOf l).su ((gOf l).la k)).length) h=>Fl.Fg.row_old (G:=gOf l) (k:=k) (j:=j) hj h);have HNEW:=aQ (λ j t (hj:j<((gOf l).su ((gOf l).la k)).length) ht h=>Fl.Fg.row_new (G:=gOf l) (k:=k) (j:=j) (t:=t) hj ht h);have HHERE:=aQ (λ j=>Fl.Fg.row_here (gOf l) k j);obtain⟨SU,hSU⟩:∃ n,(gOf l).su ((gOf l).la k)=n:=⟨_,rfl⟩;obtain⟨LA,hLA⟩:∃ n,(gOf l).la k=n:=⟨_,rfl⟩;obtain⟨S,hS⟩:∃ n,SU.length=n:=⟨_,rfl⟩;rw[hSU]at HSI2 HSL hS2 HNXT HOLD HNEW;rw[hS]at HSI2 hS2 HNXT HOLD HNEW;rw[hLA]at c2 HSI2;have HS:=aQ hS;clear hbm c0 c1 l1 l2 l1' HSI hSU hLA hS;go_wp2_with (go_at_call 91;(with_reducible refine(HSI2.out _ HB.out.bm.low).mono ?_);rintro e w5 ⟨p5,c5,rfl,hn5,hb5,hp5⟩;have HJ:=aQ (Bn.start HB.out hb5 hn5 hp5);clear hb5 hn5 hp5)
   go_loopw [23] (λ v wr3=>∃ (j:Nat) (P:Nat->Option Addr) (C:Nat->Nat),j<=S/\v=.int .i64 (j:Int)/\Bn w wr3 g2 n (gOf l) P C ((gOf l).row k j) p5 (SU.map Int.ofNat) b nn f) (λ v _=>S - (RowKit.intOf v).toNat)
   case atStart=>exact⟨0,P,C,Nat.zero_le _,rfl,HJ.out⟩
   case round =>
    clear HJ HB c2 hgl P C;obtain⟨j,P,C,hj,rfl,hbj⟩:=hrel;have HJ:=aQ hbj;by_cases hjs:j<S
    ·have hjs2:j<SU.length:=by rw[HS.out];exact hjs
     obtain⟨b4,o4,rfl,hl4,e4⟩:=hbj.bj.nu.cells j (by rw[List.length_map];exact hjs2)
     have hse:(SU.map Int.ofNat).getD j 0=((SU.getD j 0:Nat):Int):=by
      rw[List.getD_eq_getElem?_getD,List.getElem?_map,List.getD_eq_getElem?_getD,List.getElem?_eq_getElem hjs2];rfl
     rw[hse]at e4;have hsm:SU.getD j 0∈SU:=Fl.getD_mem hjs2;obtain⟨r1,r2⟩:=HSL.out _ hsm;have hsN:SU.getD j 0<N:=by have:=(r1.ok HG.out).1;rw[<- HNL.out];exact this
     have HOLD2:=aQ (HOLD.out j hjs);have HNEW2:=aQ (λ t=>HNEW.out j t hjs);generalize SU.getD j 0=s at *;obtain⟨t1,t2,_⟩:=Fl.Fg.fd_lead HG.out r1 r2;rw[HNN.out]at t1;have HFD:=aQ (HLE.out s r1 r2);generalize (gOf l).fd s=t at *;have HHR:=aQ (HHERE.out j);have HL0:=aQ (HRL.out k j (2*k) (by omega));have HL1:=aQ (HRL.out k j (2*t+1) (by omega));have p0:=hbj.bj.at (r:=2*k) (o:=k*5+3) (by omega) (by omega);have hgl:=hbj.bj.bm.gl;by_cases hin:t∈(gOf l).row k j (2*k)
     ·have HE:=aQ (HOLD2.out (HHR.out ▸ hin))
      have HHS:=aQ (hbj.contains (r:=2*k) (by omega) (by have:=HL0.out;omega) t (y:=true) (by simp[hin]));clear hbj hin hsm r1 r2 t2 HNEW2 HNEW HOLD;generalize (gOf l).row k j=R0 at *
      go_wp2_with (first
       | (at_lookup;refine wpList_mp_look rfl (.tmp 27) (.tmp 28) rfl b nn f (s:Int) (t:Int) rfl rfl HJ.out.mp (dK (by omega) (by omega)) HFD.out ?_)
       | (go_at_call 95;(with_reducible refine HHS.out.mono ?_);rintro e w7 ⟨rfl,rfl⟩))
      go_roundw
      case rel=>exact⟨j+1,P,C,by omega,rfl,by rw[HE.out];exact HJ.out⟩
      case measure=>simp[RowKit.intOf];omega
     ·have HE:=aQ (HNEW2.out t rfl (λ c=>hin (HHR.out ▸ c)))
      have HHS:=aQ (hbj.contains (r:=2*k) (by omega) (by have:=HL0.out;omega) t (y:=false) (by simp[hin]));have HHL:=aQ hl4;clear hbj hin hsm r1 r2 t2 HNEW2 HNEW HOLD HOLD2 HHR hl4;generalize (gOf l).row k j=R0 at *;have HN8:Hid (∀ (x:Int) (W:World) (n:Nat),W.heap.size=n->NumsAt .i64 (W.alloc (.cells #[.int .i64 x] 3)) (some ⟨n,0,none⟩) [x]):=aQ (λ x W n h=>by subst h;exact bH (k:=.i64) W 3 [x] #[.int .i64 x] rfl (by simp));have HN9:=aQ (λ (x:Int) W=>bH (k:=.i64) W 3 [x] #[.int .i64 x] rfl (by simp))
      go_wp2_with (first
       | (at_lookup;refine wpList_mp_look rfl (.tmp 27) (.tmp 28) rfl b nn f (s:Int) (t:Int) rfl rfl HJ.out.mp (dK (by omega) (by omega)) HFD.out ?_)
       | (go_at_call 95;(with_reducible refine HHS.out.mono ?_);rintro e w7 ⟨rfl,rfl⟩)
       | (at_builtin;refine aZ rfl (.tmp 43) (.tmp 45) rfl rfl w.heap.size (some ⟨wr.heap.size,0,none⟩) [(t:Int)] ((R0 (2*k)).map Int.ofNat) (.slice (P (2*k)) (R0 (2*k)).length (C (2*k))) 1 1 rfl rfl rfl ((HJ.out.next ((Below.refl _ _).alloc (Nat.le_refl _) _)).bj.row (r:=2*k) (by omega)) (HN9.out _ _) (by have:=HJ.out.bj.bm.low.size;simp;omega) (by have:=HL0.out;simp;omega) ?_;intro v8 w8 ho8 hg8 hb8;obtain⟨q8,c8,rfl⟩:=aW ho8;obtain⟨m0,m1,m2⟩:=(HJ.out.next ((Below.refl _ _).alloc (Nat.le_refl _) _)).bj.mid (aH _ _ _) (r:=2*k) (o:=k*5+3) (by omega) (by omega) hg8;have HX:=aQ ((HJ.out.next ((Below.refl _ _).alloc (Nat.le_refl _) _)).app (aH _ _ _) (r:=2*k) (o:=k*5+3) (by omega) (by omega) ho8 (by simp) hg8 hb8 (λ ad e=>by cases e;have:=HHL.out;simp;omega));simp only[List.length_append,List.length_map,List.length_cons,List.length_nil,Nat.zero_add]at HX;obtain⟨P1,hP1⟩:∃ f,Fl.upd P (2*k) q8=f:=⟨_,rfl⟩;obtain⟨C1,hC1⟩:∃ f,Fl.upd C (2*k) c8=f:=⟨_,rfl⟩;obtain⟨R1,hR1⟩:∃ f,Fl.upd R0 (2*k) (R0 (2*k) ++ [t])=f:=⟨_,rfl⟩;have HR1:=aQ hR1;have HRo:Hid (R1 (2*t+1)=R0 (2*t+1)):=aQ (by rw[<- hR1];exact Fl.upd_other _ _ (by omega));rw[hP1,hC1,hR1]at HX;have p1:=HX.out.bj.at (r:=2*t+1) (o:=t*5+4) (by omega) (by omega);clear hP1 hC1 hR1 ho8 hg8 hb8)
       | (at_builtin;refine aZ rfl (.tmp 55) (.tmp 57) rfl rfl w.heap.size (some ⟨w8.heap.size,0,none⟩) [(k:Int)] ((R1 (2*t+1)).map Int.ofNat) (.slice (P1 (2*t+1)) (R1 (2*t+1)).length (C1 (2*t+1))) 1 1 rfl rfl rfl ((HX.out.next ((Below.refl _ _).alloc (Nat.le_refl _) _)).bj.row (r:=2*t+1) (by omega)) (HN8.out _ _ _ (by simp)) (by have:=HX.out.bj.bm.low.size;simp at this ⊢;omega) (by have:=HL1.out;rw[HRo.out];simp;omega) ?_;intro v9 w9 ho9 hg9 hb9;obtain⟨q9,c9,rfl⟩:=aW ho9;obtain⟨n0,n1,n2⟩:=(HX.out.next ((Below.refl _ _).alloc (Nat.le_refl _) _)).bj.mid (aH _ _ _) (r:=2*t+1) (o:=t*5+4) (by omega) (by omega) hg9;have HY:=aQ ((HX.out.next ((Below.refl _ _).alloc (Nat.le_refl _) _)).app (aH _ _ _) (r:=2*t+1) (o:=t*5+4) (by omega) (by omega) ho9 (by simp) hg9 hb9 (λ ad e=>by cases e;obtain⟨b9,o9,hq9,hb9',_⟩:=HX.out.bj.nu.cells j (by rw[List.length_map];exact hjs2);cases hq9;simp at hb9' ⊢;omega));simp only[List.length_append,List.length_map,List.length_cons,List.length_nil,Nat.zero_add]at HY;clear ho9 hg9 hb9 p1 m0 m1 m2))
      go_roundw
      case rel=>exact⟨j+1,_,_,by omega,rfl,by rw[HE.out,HR1.out,<- HRo.out];exact HY.out⟩
      case measure=>simp[RowKit.intOf];omega
    ·obtain rfl:j=S:=by omega
     clear hbj;go_wp2_with fail
     go_roundw
     case rel=>exact⟨k+1,P,C,by omega,rfl,by rw[<- HNXT.out];exact HJ.out.o⟩
     case measure=>simp[RowKit.intOf];omega
  ·obtain rfl:n=k:=by omega
   clear hbm;go_wp2_with fail
   go_end0
   exact⟨rfl,P,C,HB.out.bm⟩
end Go.Proofs.YtkfahppdklecdaaGreatDoor
namespace Go.Proofs.YtkfahppdklecdaaGreatDoor
open Go.RowKit M
theorem sblocks_no(q:Option Addr)(qc:Nat)(l:List In)(w:World)(h:InsAt w q l)(hc:¬ (aS l).2=0) :
  Calls Tryz.prog 15 #[.slice q l.length qc] w λ e w'=>e=.returned (.tuple #[.slice none 0 0,.int .i64 (aS l).2])/\Below w.heap.size w w':=by
 have HC:=aQ (check_any q qc l w h);unfold fV at HC;have hne:((aS l).2 != 0)=true:=by simpa using hc
 generalize (aS l).2=e1 at *;generalize (aS l).1=e0 at *;generalize l.length=N at *;clear h;go_enter Tryz.func15,Tryz.ntmps15
 go_wp2_with (go_at_call 46;(with_reducible refine HC.out.mono ?_);rintro e w1 ⟨rfl,hb⟩;have B1:=aQ hb;clear hb)
 go_ret2;exact⟨rfl,B1.out⟩
theorem sblocks_yes(q:Option Addr)(qc:Nat)(l:List In)(w:World)(h:InsAt w q l)(hc:(aS l).2=0) :
  Calls Tryz.prog 15 #[.slice q l.length qc] w λ e w'=>∃ p c,e=.returned (.tuple #[.slice p (aR l).length c,.int .i64 0])/\BksAt w' p (aR l)/\Below w.heap.size w w':=by
 have HC:=aQ (check_any q qc l w h);unfold fV at HC;rw[hc]at HC;have HI:=aQ (λ W (hW:Below w.heap.size w W)=>h.below hW);have HRE:=aQ (λ W (hW:Below w.heap.size w W)=>reach_any q qc l W (h.below hW) hc);have HLE:=aQ (λ p pc W (hW:Below w.heap.size w W) hr=>leaders_any q qc l p pc W (h.below hW) hc hr);have HCU:=aQ (λ p pc b nn f W (hW:Below w.heap.size w W) hr hm hp=>cut_any q qc l p pc b nn f W (h.below hW) hc hr hm hp);have HLI:=aQ (λ g2 c b nn f w3 W (hW:Below w.heap.size w w3) hb hm hp hbg=>link_any q qc l g2 c b nn f w3 W (h.below hW) hc hb hm hp hbg);have hN:=(cW hc).1
 have hnM:(gOf l).n<=4096:=by
  have h2:(gOf l).ls.length<=(gOf l).reach.length:=List.length_filter_le _ _;have h3:(gOf l).reach.length<=(List.range (gOf l).N).length:=List.length_filter_le _ _;have h4:(gOf l).N<=4096:=hN;rw[List.length_range]at h3;have:(gOf l).ls.length=(gOf l).n:=rfl;omega
 have HDN:=aQ (λ w W g P C (hb:Bm w W g (gOf l).n (gOf l) P C ((gOf l).row (gOf l).n 0))=>hb.done hc hnM (λ r=>by
  have:=Fl.Fg.row_len (G:=gOf l) (k:=(gOf l).n) (j:=0) (λ k=>by
   show((bG l (((gOf l).la k:Nat):Int)).map Int.toNat).length<=2;rw[List.length_map];exact dT l _) (by omega) r
  omega))
 rw[dR hc];generalize (aS l).1=e0 at *;generalize hn:(gOf l).n=n at *;generalize (cK l).length=M at *;generalize l.length=N at *;clear h hc hn;go_enter Tryz.func15,Tryz.ntmps15
 go_wp2_with (first
  | (go_at_call 46;(with_reducible refine HC.out.mono ?_);rintro e w1 ⟨rfl,hb⟩;have B1:=aQ hb;clear hb)
  | (go_at_call 47;(with_reducible refine(HRE.out _ B1.out).mono ?_);rintro e w2 ⟨p2,c2,rfl,hn2,hb2⟩;have B2:=aQ (B1.out.trans (hb2.mono B1.out.size));have HN2:=aQ hn2;clear hb2 hn2)
  | (go_at_call 48;(with_reducible refine(HLE.out p2 c2 _ B2.out HN2.out).mono ?_);rintro e w3 ⟨b,nn,f,rfl,hp3,hq3⟩;have B3:=aQ (B2.out.trans (hq3.low.mono B2.out.size));have HN3:=aQ (HN2.out.below hq3.low);have HM3:=aQ hq3.mp;have HP3:=aQ hp3;clear hq3 hp3)
  | (go_at_call 49;(with_reducible refine(HCU.out p2 c2 b nn f _ B3.out HN3.out HM3.out HP3.out).mono ?_);rintro e w4 ⟨g,rfl,hb4⟩;have HM4:=aQ (HM3.out.next hb4.low);have HB4:=aQ hb4;have HGB:Hid (¬ g=b):=aQ (by have:=hb4.gb;have:=HM3.out.lt;omega);clear hb4)
  | (go_at_call 50;(with_reducible refine(HLI.out g n b nn f w3 _ B3.out HB4.out HM4.out HP3.out HGB.out).mono ?_);rintro e w5 ⟨rfl,P,C,hb5⟩;have HB5:=aQ hb5;clear hb5))
 go_ret2;exact⟨some ⟨g,0,none⟩,n,rfl,HDN.out _ _ _ _ _ HB5.out,B3.out.trans (HB5.out.low.mono B3.out.size)⟩
theorem sblocks_any(q:Option Addr)(qc:Nat)(l:List In)(w:World)(h:InsAt w q l):Calls Tryz.prog 15 #[.slice q l.length qc] w λ e w'=>∃ p c,e=.returned (.tuple #[.slice p (aR l).length c,.int .i64 (aS l).2])/\BksAt w' p (aR l)/\Below w.heap.size w w':=by
 by_cases hc:(aS l).2=0
 ·rw[hc];exact sblocks_yes q qc l w h hc
 ·refine(sblocks_no q qc l w h hc).mono ?_
  rintro e w' ⟨rfl,hb⟩;rw[blocks_no hc];exact⟨none,0,rfl,⟨by simp,λ i hi=>absurd hi (Nat.not_lt_zero _)⟩,hb⟩
structure Wq where
 now:Nat->Int
 at':Int
 v:Int
 nodes:List Nd
 phis:List Int
 ta:Int
 tb:Int
def putR(s:Wq)(n:Nd):Int:=if n.op=6 then -1 else s.v
def putN(s:Wq)(n:Nd):Nd:={ n with id:=putR s n,at':=s.at' }
def putS(s:Wq)(n:Nd):Wq:={ s with nodes:=s.nodes ++ [putN s n],v:=if n.op=6 then s.v else s.v+1 }
def numN(x:Int):Nd:={ Nd.z with op:=1,imm:=x }
def numS(s:Wq)(x:Int):Wq:=putS s (numN x)
def immV(n:Int)(wide:Bool):Int:=if wide=true then n % 18446744073709551616 else n % 4294967296
def wholeV(x:In):Int:=if x.src=0 then x.wide else (3+x.imm)*4294967296 % 18446744073709551616
def opdS(s:Wq)(x:In)(wide:Bool):Wq:=if rg x.op=true then s else numS s (immV x.imm wide)
def opdR(s:Wq)(x:In):Int:=if rg x.op=true then s.now x.src.toNat else s.v
def aluN(op:Int)(wide:Bool)(a b:Int):Nd:={ Nd.z with op:=4,alu:=op,wide:=wide,a:=a,b:=b }
def aluM(s:Wq)(x:In)(op:Int)(wide:Bool):Wq:=if op=128 then s else opdS s x wide
def aluO(s:Wq)(x:In)(op:Int):Int:=if op=128 then s.now x.dst.toNat else opdR s x
def aluC(x:In)(op:Int)(wide:Bool):Bool:=decide (op=176) && (wide || !rg x.op)
def aluA(s:Wq)(x:In)(op:Int):Int:=if op=176 then aluO s x op else s.now x.dst.toNat
def aluS(s:Wq)(x:In)(op:Int)(wide:Bool):Wq:=if aluC x op wide=true then aluM s x op wide else putS (aluM s x op wide) (aluN op wide (aluA s x op) (aluO s x op))
def aluR(s:Wq)(x:In)(op:Int)(wide:Bool):Int:=if aluC x op wide=true then aluO s x op else (aluM s x op wide).v
def accN(op a b:Int)(x:In):Nd:={ Nd.z with op:=op,a:=a,b:=b,size:=dJ x.op,off:=x.off,guard:=true }
def accS(s:Wq)(x:In):Wq :=
 if x.op % 8=1 then putS s (accN 5 (s.now x.src.toNat) 0 x)else if x.op % 8=3 then putS s (accN 6 (s.now x.dst.toNat) (s.now x.src.toNat) x)
 else putS (numS s (immV x.imm true)) (accN 6 (s.now x.dst.toNat) s.v x)
def accR(s:Wq)(x:In):Int:=if x.op % 8=1 then s.v else -1
def eK(s:Wq)(x:In):Nd:={ Nd.z with op:=7,imm:=x.imm % 18446744073709551616,args:=(List.range (arity x.imm)).map λ i=>s.now (i+1) }
def doS(s:Wq)(x:In):Wq :=
 if aluB x.op=true then aluS s x (x.op - x.op % 16) (decide (x.op % 8=7))else if x.op=24 then numS s (wholeV x)else if x.op=133 then putS s (eK s x)else if 0<dJ x.op then accS s x else s
def doR(s:Wq)(x:In):Int :=
 if aluB x.op=true then aluR s x (x.op - x.op % 16) (decide (x.op % 8=7))else if x.op=24 then s.v else if x.op=133 then s.v else if 0<dJ x.op then accR s x else -1
def cQ(x:In):Int:=if x.op=133 then 0 else x.dst
def dU(x:In):Bool:=decide (x.op=133) || (aluB x.op || decide (x.op=24) || decide (x.op % 8=1))
def updI(f:Nat->Int)(i:Nat)(v:Int):Nat->Int:=λ j=>if j=i then v else f j
def eC(s:Wq)(x:In):Wq:=if dU x=true then { doS s x with now:=updI (doS s x).now (cQ x).toNat (doR s x) } else doS s x
def blkS(p:List In)(f:Nat):Nat->Wq->Wq
 | 0,s=>{ s with at':=(f:Int) }
 | k+1,s=>{ eC (blkS p f k s) (p.getD (f+k) z)with at':=((f+k+1:Nat):Int) }
def askS(s:Wq)(op:Int)(wide:Bool)(x:In):Wq :=
 if op=2 then { opdS s x wide with ta:=s.now x.dst.toNat,tb:=opdR s x } else if op=3 then { s with ta:=s.now 0 } else s
theorem sclass_any(op:Int)(w:World):Calls Tryz.prog 139 #[.int .i64 op] w λ e w'=>e=.returned (.int .i64 (op % 8))/\w=w':=by
 go_enter Tryz.func139,Tryz.ntmps139
 go_wp2_with fail
 go_ret;exact⟨dH (by first|exact eI _|(rw[eI])),rfl⟩
theorem simm_any(n:Int)(wide:Bool)(w:World):Calls Tryz.prog 183 #[.int .i64 n,.bool wide] w λ e w'=>e=.returned (.int .u64 (immV n wide))/\w=w':=by
 cases wide
 all_goals
  go_enter Tryz.func183,Tryz.ntmps183
  go_wp2_with fail
  go_ret;refine⟨dH ?_,rfl⟩;first|(simp[immV];done)|(simp[immV];exact IntKind.wrap_u64 _)
theorem swhole_any(x:In)(w:World)(hi:0<=x.imm/\x.imm<=7∨x.src=0):Calls Tryz.prog 160 #[.agg #[.int .i64 x.op,.int .i64 x.dst,.int .i64 x.src,.int .i64 x.off,.int .i64 x.imm,.int .u64 x.wide]] w λ e w'=>e=.returned (.int .u64 (wholeV x))/\Below w.heap.size w w':=by
 unfold wholeV;by_cases h:x.src=0
 ·have hb:(x.src == 0)=true:=by simpa using h
  rw[if_pos h];go_enter Tryz.func160,Tryz.ntmps160
  go_wp2_with fail
  go_ret;exact⟨rfl,b1⟩
 ·have hb:(x.src == 0)=false:=by simpa using h
  rw[if_neg h];obtain⟨h1,h2⟩:=hi.resolve_right h;go_enter Tryz.func160,Tryz.ntmps160
  go_wp2_with fail
  go_ret;refine⟨dH ?_,b1⟩;omega
theorem ssets_any(x:In)(w:World)(hb0:-9223372036854775808<=x.op)(hb1:x.op<=9223372036854775807):Calls Tryz.prog 103 #[.agg #[.int .i64 x.op,.int .i64 x.dst,.int .i64 x.src,.int .i64 x.off,.int .i64 x.imm,.int .u64 x.wide]] w λ e w'=>e=.returned (.tuple #[.int .i64 (cQ x),.bool (dU x)])/\Below w.heap.size w w':=by
 have HA:=aQ (λ W=>fD x.op W hb0 hb1);unfold AluP at HA;have HC:=aQ (λ W=>sclass_any x.op W);by_cases h:x.op=133
 ·have hs1:cQ x=0:=by unfold cQ;rw[if_pos h]
  have hs2:dU x=true:=by unfold dU;rw[decide_eq_true h];rfl
  have hb:(x.op == 133)=true:=by simpa using h
  rw[hs1,hs2];clear h hs1 hs2;go_enter Tryz.func103,Tryz.ntmps103
  go_wp2_with fail
  go_ret2;exact⟨rfl,b1⟩
 ·have hs1:cQ x=x.dst:=by unfold cQ;rw[if_neg h]
  have hs2:dU x=(aluB x.op || decide (x.op=24) || decide (x.op % 8=1)):=by unfold dU;rw[decide_eq_false h];rfl
  have hb:(x.op == 133)=false:=by simpa using h
  rw[hs1,hs2];clear hs1 hs2 h;generalize aluB x.op=ab at *;cases ab with
  | true =>
   go_enter Tryz.func103,Tryz.ntmps103
   go_wp2_with (go_at_call 138;(with_reducible refine(HA.out _).mono ?_);rintro e w1 ⟨rfl,rfl⟩)
   go_quiet ((go_at_call 139;exact Calls.quiet_of_same ((HC.out _).mono λ _ _ ⟨h1,h2⟩=>⟨h1,h2.symm⟩)))
   all_goals go_wp2_with fail
   all_goals go_ret2
   all_goals exact⟨rfl,below_drewN b1 _⟩
  | false =>
   by_cases h24:x.op=24
   ·have d24:decide (x.op=24)=true:=decide_eq_true h24
    have d8:decide (x.op % 8=1)=false:=decide_eq_false (by omega);rw[d24,d8];clear d24 d8;generalize x.op=o at *;subst h24;go_enter Tryz.func103,Tryz.ntmps103
    go_wp2_with (go_at_call 138;(with_reducible refine(HA.out _).mono ?_);rintro e w1 ⟨rfl,rfl⟩)
    go_quiet ((go_at_call 139;exact Calls.quiet_of_same ((HC.out _).mono λ _ _ ⟨h1,h2⟩=>⟨h1,h2.symm⟩)))
    all_goals go_wp2_with fail
    all_goals go_ret2
    all_goals exact⟨rfl,below_drewN b1 _⟩
   ·have b24:(x.op == 24)=false:=by simpa using h24
    have d24:decide (x.op=24)=false:=decide_eq_false h24;rw[d24];go_enter Tryz.func103,Tryz.ntmps103
    go_wp2_with (go_at_call 138;(with_reducible refine(HA.out _).mono ?_);rintro e w1 ⟨rfl,rfl⟩)
    go_quiet ((go_at_call 139;exact Calls.quiet_of_same ((HC.out _).mono λ _ _ ⟨h1,h2⟩=>⟨h1,h2.symm⟩)))
    all_goals go_wp2_with fail
    all_goals go_ret2
    all_goals
     refine⟨?_,below_drewN b1 _⟩;first|rfl|(simp;done)
end Go.Proofs.YtkfahppdklecdaaGreatDoor
