import Derived.Test.YtkfahppdklecdaaGreatDoorZ32
import Derived.DeepKeys4
import Derived.Test.YtkfahppdklecdaaGreatDoorZ33
set_option maxRecDepth 100000
set_option maxHeartbeats 16000000
namespace Go.Proofs.YtkfahppdklecdaaGreatDoor.J
open Go.RowKit
open Dm M
def setsI(r:Nat->List Int)(x:In)(p:Int):Nat->List Int:=if dU x=true then up1 r (cQ x).toNat (r (cQ x).toNat ++ [p])else r
def setsN(l:List In)(f:Nat)(p:Int):Nat->(Nat->List Int)->(Nat->List Int)
 | 0,r=>r
 | n+1,r=>setsI (setsN l f p n r) (l.getD (f+n) z) p
def setsA(l:List In)(B:List Bk)(a:Nat):Nat->(Nat->List Int)
 | 0=>λ _=>[]
 | k+1=>setsN l (bk B k).fr.toNat ((k:Int)+a) ((bk B k).to.toNat - (bk B k).fr.toNat) (setsA l B a k)
theorem setsI_le{r:Nat->List Int}{c:Nat}(h:∀ j,(r j).length<=c)(x:In)(p:Int):∀ j,(setsI r x p j).length<=c+1:=λ j=>by
 unfold setsI;split
 ·unfold up1
  split
  ·have:=h (cQ x).toNat;simp;omega
  ·have:=h j;omega
 ·have:=h j;omega
theorem setsN_le(l:List In)(f:Nat)(p:Int){r:Nat->List Int}{c:Nat}(h:∀ j,(r j).length<=c):∀ n j,(setsN l f p n r j).length<=c+n
 | 0=>h
 | n+1=>setsI_le (setsN_le l f p h n) _ _
theorem setsA_le(l:List In)(B:List Bk)(a:Nat)(hB:∀ k,(bk B k).to.toNat<=4096):∀ k j,(setsA l B a k j).length<=k*4096
 | 0,_=>Nat.zero_le _
 | k+1,j=>Nat.le_trans (setsN_le l _ _ (setsA_le l B a hB k) _ j) (by have:=hB k;omega)
theorem slice_ins(bp off len cap lo hi:Nat)(h1:lo<=hi)(h2:hi<=cap)(w:World):(Instr.slice 22 (.slice (some ⟨bp,off,none⟩) len cap) (some (.int .i64 (lo:Int))) (some (.int .i64 (hi:Int))) none).run Tryz.prog w=.ok (.slice (if cap=lo then some ⟨bp,off,none⟩else some ⟨bp,off+lo*6,none⟩) (hi - lo) (cap - lo)) w:=by
 rw[run_slice_lh w 22 (some ⟨bp,off,none⟩) len cap Tryz.underlying22 .i64 .i64 (lo:Int) (hi:Int) (by omega) (by omega) (by omega)];have hz:(sizeOf (Tryz.prog.elem 22)).run Tryz.prog w=.ok 6 w:=by kernel_rfl
 rw[hz];simp[sliced,Addr.add];by_cases c:lo=0
 ·subst c;simp
 ·rw[if_neg (show ¬ lo*6=0 by omega)]
theorem Sr.nil11(W:World):Sr W.heap.size (W.alloc (.cells #[.slice none 0 0,.slice none 0 0,.slice none 0 0,.slice none 0 0,.slice none 0 0,.slice none 0 0,.slice none 0 0,.slice none 0 0,.slice none 0 0,.slice none 0 0,.slice none 0 0] 131)) W.heap.size (List.range 11) (λ _=>[]) (λ _=>none) (λ _=>0):=by
 refine⟨by simp,λ j=>World.frozen?_alloc_new _ _ _ j,λ j hj=>?_,λ j _=>World.ownsRow_nil _ _ _ _,λ j _=>by simp,λ j _ k _ _=>.inl rfl⟩;refine aJ W ?_
 match j,List.mem_range.1 hj with
 | 0,_=>rfl
 | 1,_=>rfl
 | 2,_=>rfl
 | 3,_=>rfl
 | 4,_=>rfl
 | 5,_=>rfl
 | 6,_=>rfl
 | 7,_=>rfl
 | 8,_=>rfl
 | 9,_=>rfl
 | 10,_=>rfl
def StQ(w:World)(r:Nat->List Int)(e:Ending)(w':World):Prop :=
 ∃ (P:Nat->Option Addr) (C:Nat->Nat),(e=.returned (.agg #[.slice (P 0) (r 0).length (C 0),.slice (P 1) (r 1).length (C 1),.slice (P 2) (r 2).length (C 2),.slice (P 3) (r 3).length (C 3),.slice (P 4) (r 4).length (C 4),.slice (P 5) (r 5).length (C 5),.slice (P 6) (r 6).length (C 6),.slice (P 7) (r 7).length (C 7),.slice (P 8) (r 8).length (C 8),.slice (P 9) (r 9).length (C 9),.slice (P 10) (r 10).length (C 10)]))/\(∀ j,j<11->w'.ownsRow w.heap.size 3 1 (.slice (P j) (r j).length (C j)) (r j).length (aX (r j)))/\(∀ j,j<11->∀ k,k<11->j≠k->P j=none∨(P j).map Addr.block≠(P k).map Addr.block)/\Below w.heap.size w w'
theorem ssetters_any(bb a:Nat)(l:List In)(q:Option Addr)(qc:Nat)(B:List Bk)(qB:Option Addr)(cB:Nat)(w:World)(c0:w.cell? ⟨bb,0,none⟩=some (.slice q l.length qc))(c1:w.cell? ⟨bb,1,none⟩=some (.slice qB B.length cB))(c2:w.cell? ⟨bb,2,none⟩=some (.int .i64 (a:Int)))(hI:InsAt w q l)(hB:BksAt w qB B)(hbl:bb<w.heap.size)(hl0:0<l.length)(hN:l.length<=4096)(hqc:l.length<=qc)(hBn:B.length<=999)(ha:a<=1)
  (hbk:∀ k,k<B.length->0<=(bk B k).fr/\(bk B k).fr<=(bk B k).to/\(bk B k).to<=(l.length:Int)) (hd:∀ i,i<l.length->dU (l.getD i z)=true->0<=cQ (l.getD i z)/\cQ (l.getD i z)<=10) :
  Calls Tryz.prog 54 #[.pointer (some ⟨bb,0,none⟩)] w (StQ w (setsA l B a B.length)):=by
 obtain⟨bp,off,rfl,hbp,_⟩:=hI.cells 0 hl0;have HI:=aQ hI;have HB:=aQ hB;have HBK:=aQ hbk;have HD:=aQ hd;obtain⟨NB,hNB⟩:∃ n,B.length=n:=⟨_,rfl⟩;obtain⟨A,hA⟩:∃ A,setsA l B a=A:=⟨_,rfl⟩;have HA0:Hid (A 0=λ _=>[]):=aQ (by rw[<- hA];rfl);have HAS:Hid (∀ k,A (k+1)=setsN l (bk B k).fr.toNat ((k:Int)+a) ((bk B k).to.toNat - (bk B k).fr.toNat) (A k)):=aQ (λ k=>by rw[<- hA];rfl)
 have HAL:Hid (∀ k j,(A k j).length<=k*4096):=aQ (by
  rw[<- hA];refine setsA_le l B a (λ k=>?_);by_cases hk:k<B.length
  ·have:=HBK.out k hk;omega
  ·have e:bk B k=Bk.z:=by unfold bk;rw[List.getD_eq_getElem?_getD,List.getElem?_eq_none (by omega)];rfl
   rw[e];exact Nat.zero_le _)
 rw[hNB]at hBn HBK c1 ⊢;rw[hA];have hBsm:=hB.small;rw[hNB]at hBsm;clear hI hB hbk hd hA;go_enter Tryz.func54,Tryz.ntmps54
 go_wp2_with fail
 have HR0:=aQ (λ W=>(Sr.nil11 W:Sr W.heap.size (W.alloc (.cells #[.slice none 0 0,.slice none 0 0,.slice none 0 0,.slice none 0 0,.slice none 0 0,.slice none 0 0,.slice none 0 0,.slice none 0 0,.slice none 0 0,.slice none 0 0,.slice none 0 0] 131)) W.heap.size (List.range 11) (λ _=>[]) (λ _=>none) (λ _=>0)));have HW1:Hid (Below w.heap.size w (w.alloc (.cells #[.slice none 0 0,.slice none 0 0,.slice none 0 0,.slice none 0 0,.slice none 0 0,.slice none 0 0,.slice none 0 0,.slice none 0 0,.slice none 0 0,.slice none 0 0,.slice none 0 0] 131))):=aQ b1
 have HE1:Hid (∀ W,Below (w.alloc (.cells #[.slice none 0 0,.slice none 0 0,.slice none 0 0,.slice none 0 0,.slice none 0 0,.slice none 0 0,.slice none 0 0,.slice none 0 0,.slice none 0 0,.slice none 0 0,.slice none 0 0] 131)).heap.size (w.alloc (.cells #[.slice none 0 0,.slice none 0 0,.slice none 0 0,.slice none 0 0,.slice none 0 0,.slice none 0 0,.slice none 0 0,.slice none 0 0,.slice none 0 0,.slice none 0 0,.slice none 0 0] 131)) W->(∀ i,i<11->W.cell? ⟨w.heap.size,i,none⟩=some (.slice none 0 0))/\(∀ i,W.frozen? ⟨w.heap.size,i,none⟩=false)/\w.heap.size<W.heap.size):=aQ (λ W hb=>by
  have hl:w.heap.size<(w.alloc (.cells #[.slice none 0 0,.slice none 0 0,.slice none 0 0,.slice none 0 0,.slice none 0 0,.slice none 0 0,.slice none 0 0,.slice none 0 0,.slice none 0 0,.slice none 0 0,.slice none 0 0] 131)).heap.size:=by simp
  refine⟨λ i hi=>(hb.cell (p:=⟨w.heap.size,i,none⟩) hl).trans (aJ w ?_),λ i=>(hb.frozen (p:=⟨w.heap.size,i,none⟩) hl).trans (World.frozen?_alloc_new _ _ _ i),Nat.lt_of_lt_of_le hl hb.size⟩
  match i,hi with
  | 0,_=>rfl
  | 1,_=>rfl
  | 2,_=>rfl
  | 3,_=>rfl
  | 4,_=>rfl
  | 5,_=>rfl
  | 6,_=>rfl
  | 7,_=>rfl
  | 8,_=>rfl
  | 9,_=>rfl
  | 10,_=>rfl)
 have hs1:(w.alloc (.cells #[.slice none 0 0,.slice none 0 0,.slice none 0 0,.slice none 0 0,.slice none 0 0,.slice none 0 0,.slice none 0 0,.slice none 0 0,.slice none 0 0,.slice none 0 0,.slice none 0 0] 131)).heap.size=w.heap.size+1:=by simp
 have hb1:=b1 (w:=(w.alloc (.cells #[.slice none 0 0,.slice none 0 0,.slice none 0 0,.slice none 0 0,.slice none 0 0,.slice none 0 0,.slice none 0 0,.slice none 0 0,.slice none 0 0,.slice none 0 0,.slice none 0 0] 131))) (o:=.cells #[.slice none 0 0,.slice none 0 0,.slice none 0 0,.slice none 0 0,.slice none 0 0,.slice none 0 0,.slice none 0 0,.slice none 0 0,.slice none 0 0,.slice none 0 0,.slice none 0 0] 131);replace HR0:=aQ (HR0.out (w.alloc (.cells #[.slice none 0 0,.slice none 0 0,.slice none 0 0,.slice none 0 0,.slice none 0 0,.slice none 0 0,.slice none 0 0,.slice none 0 0,.slice none 0 0,.slice none 0 0,.slice none 0 0] 131)));obtain⟨w1,hw1⟩:∃ W,(w.alloc (.cells #[.slice none 0 0,.slice none 0 0,.slice none 0 0,.slice none 0 0,.slice none 0 0,.slice none 0 0,.slice none 0 0,.slice none 0 0,.slice none 0 0,.slice none 0 0,.slice none 0 0] 131))=W:=⟨_,rfl⟩;rw[hw1]at HR0 HW1 HE1 hs1 hb1 ⊢;rw[<- hs1];have HB1:=aQ hb1;clear hw1 hb1
 have HLI:Hid (∀ W,Below w1.heap.size w1 W->W.cell? ⟨bb,0,none⟩=some (.slice (some ⟨bp,off,none⟩) l.length qc)/\W.cell? ⟨bb,2,none⟩=some (.int .i64 (a:Int))/\bb<W.heap.size/\BksAt W qB B/\InsAt W (some ⟨bp,off,none⟩) l/\W.cell? ⟨bb,1,none⟩=some (.slice qB NB cB)):=aQ (λ W hb=>by
  have h:=HW1.out.trans (hb.mono HW1.out.size);exact⟨(h.cell (p:=⟨bb,0,none⟩) hbl).trans c0,(h.cell (p:=⟨bb,2,none⟩) hbl).trans c2,Nat.lt_of_lt_of_le hbl h.size,HB.out.below h,HI.out.below h,(h.cell (p:=⟨bb,1,none⟩) hbl).trans c1⟩)
 clear c0 c1 c2 hbl;obtain⟨g1,hg1⟩:∃ g,w1.heap.size=g:=⟨_,rfl⟩;have HG1:Hid (w1.heap.size=g1/\g1=w.heap.size+1):=aQ ⟨hg1,by omega⟩;rw[hg1]at HR0 HE1 HB1 HLI ⊢;clear hs1 hg1
 have HD2:Hid (∀ W v0 v1 v2 v3 v4 v5 v6 v7 v8 v9 v10 r P C,r=A NB->Sr g1 W g1 (List.range 11) r P C->Below g1 w1 W->StQ w (A NB) (.returned (.agg #[.slice (P 0) (r 0).length (C 0),.slice (P 1) (r 1).length (C 1),.slice (P 2) (r 2).length (C 2),.slice (P 3) (r 3).length (C 3),.slice (P 4) (r 4).length (C 4),.slice (P 5) (r 5).length (C 5),.slice (P 6) (r 6).length (C 6),.slice (P 7) (r 7).length (C 7),.slice (P 8) (r 8).length (C 8),.slice (P 9) (r 9).length (C 9),.slice (P 10) (r 10).length (C 10)])) (((((((((((W.setCell ⟨w.heap.size,0,none⟩ v0).setCell ⟨w.heap.size,1,none⟩ v1).setCell ⟨w.heap.size,2,none⟩ v2).setCell ⟨w.heap.size,3,none⟩ v3).setCell ⟨w.heap.size,4,none⟩ v4).setCell ⟨w.heap.size,5,none⟩ v5).setCell ⟨w.heap.size,6,none⟩ v6).setCell ⟨w.heap.size,7,none⟩ v7).setCell ⟨w.heap.size,8,none⟩ v8).setCell ⟨w.heap.size,9,none⟩ v9).setCell ⟨w.heap.size,10,none⟩ v10)):=aQ (λ W v0 v1 v2 v3 v4 v5 v6 v7 v8 v9 v10 r P C hr h hb=>by
  subst hr;obtain⟨e1,e2⟩:=HG1.out;have hbw:Below w.heap.size w W:=HW1.out.trans (by rw[<- e1]at hb;exact hb.mono HW1.out.size);refine⟨P,C,rfl,λ j hj=>?_,λ j hj k hk hn=>h.ap j (List.mem_range.2 hj) k (List.mem_range.2 hk) hn,(Below.setCell (Below.setCell (Below.setCell (Below.setCell (Below.setCell (Below.setCell (Below.setCell (Below.setCell (Below.setCell (Below.setCell (Below.setCell hbw (p:=⟨w.heap.size,0,none⟩) (Nat.le_refl _) _) (p:=⟨w.heap.size,1,none⟩) (Nat.le_refl _) _) (p:=⟨w.heap.size,2,none⟩) (Nat.le_refl _) _) (p:=⟨w.heap.size,3,none⟩) (Nat.le_refl _) _) (p:=⟨w.heap.size,4,none⟩) (Nat.le_refl _) _) (p:=⟨w.heap.size,5,none⟩) (Nat.le_refl _) _) (p:=⟨w.heap.size,6,none⟩) (Nat.le_refl _) _) (p:=⟨w.heap.size,7,none⟩) (Nat.le_refl _) _) (p:=⟨w.heap.size,8,none⟩) (Nat.le_refl _) _) (p:=⟨w.heap.size,9,none⟩) (Nat.le_refl _) _) (p:=⟨w.heap.size,10,none⟩) (Nat.le_refl _) _)⟩;have ho:=h.own j (List.mem_range.2 hj)
  have hne:(Value.slice (P j) (A NB j).length (C j)).ownBlock≠some w.heap.size:=λ e=>by
   have:=(ho.lt _ e).1;omega
  have ho':=own_low ho (show w.heap.size<=g1 by omega);exact(aP (aP (aP (aP (aP (aP (aP (aP (aP (aP (aP ho' hne) hne) hne) hne) hne) hne) hne) hne) hne) hne) hne))
 go_loopw [15] (λ v W=>∃ (k:Nat) (P:Nat->Option Addr) (C:Nat->Nat),k<=NB/\v=.int .i64 (k:Int)/\Hid (Sr g1 W g1 (List.range 11) (A k) P C)/\Hid (Below g1 w1 W)) (λ v _=>NB - (intOf v).toNat)
 case atStart=>exact⟨0,_,_,Nat.zero_le _,rfl,by rw[HA0.out];exact HR0,HB1⟩
 case round =>
  clear HR0 HB1;obtain⟨k,P,C,hk,rfl,HSR,HBW⟩:=hrel;obtain⟨d0,d2,dl,dB,dI,_⟩:=HLI.out _ HBW.out;by_cases hkN:k<NB
  ·clear HD2
   obtain⟨bB,oB,sp,sc,pp,pc,rfl,lB,t0,t1,t2,t3,t4,_,_⟩:=dB.cells k (by rw[hNB];exact hkN);obtain⟨k0,k1,k2⟩:=HBK.out k hkN;have HAK:=aQ (HAS.out k);obtain⟨f,hf⟩:∃ f:Nat,(bk B k).fr=(f:Int):=⟨(bk B k).fr.toNat,by omega⟩;obtain⟨t,ht⟩:∃ t:Nat,(bk B k).to=(t:Int):=⟨(bk B k).to.toNat,by omega⟩;rw[hf,ht,Int.toNat_natCast,Int.toNat_natCast]at HAK;rw[hf]at t0 k0 k1;rw[ht]at t1 k1 k2;have hft:f<=t:=by omega
   have htl:t<=l.length:=by omega
   have hfI:(0:Int)<=(f:Int):=by omega
   have htI:(t:Int)<=(qc:Int):=by omega
   have hkI:(k:Int)<(NB:Int):=by omega
   have hsl:=λ W=>slice_ins bp off l.length qc f t hft (by omega) W
   have HXX:Hid (f<t->(if qc=f then (some ⟨bp,off,none⟩:Option Addr)else some ⟨bp,off+f*6,none⟩)=some ⟨bp,off+f*6,none⟩):=aQ (λ h=>if_neg (by omega));obtain⟨X,hX⟩:∃ X,(if qc=f then (some ⟨bp,off,none⟩:Option Addr)else some ⟨bp,off+f*6,none⟩)=X:=⟨_,rfl⟩;simp only[hX]at hsl;rw[hX]at HXX;obtain⟨m,hm⟩:∃ m,t - f=m:=⟨_,rfl⟩;simp only[hm]at hsl;rw[hm]at HAK;have hsl2:=λ W=>(run_sliceAt_slice W 22 _ _ _ _ Tryz.underlying22).trans (hsl W)
   generalize (bk B k).la=xl at *;generalize (bk B k).su.length=xs at *;generalize (bk B k).pr.length=xp at *;clear hX k0 k1 k2 dB dI hf ht;go_wp2_with fail
   go_region
   all_goals go_wp2_with fail
   have hg1w:g1<=wr.heap.size:=by have:=HBW.out.size;have:=HG1.out.1;omega
   have HSR1:Hid (Sr g1 (wr.alloc (.cells #[.int .i64 (f:Int),.int .i64 (t:Int),.int .i64 xl,.slice sp xs sc,.slice pp xp pc] 94)).drew g1 (List.range 11) (setsN l f ((k:Int)+a) 0 (A k)) P C):=aQ (HSR.out.next (aD b1));have HBW1:Hid (Below g1 w1 (wr.alloc (.cells #[.int .i64 (f:Int),.int .i64 (t:Int),.int .i64 xl,.slice sp xs sc,.slice pp xp pc] 94)).drew):=aQ (HBW.out.trans ((aD b1).mono hg1w));clear t0 t1 t2 t3 t4 lB d0 d2 dl HSR HBW hg1w hsl hsl2;obtain⟨r0,hr0⟩:∃ r:Nat->(Nat->List Int),(λ n=>setsN l f ((k:Int)+a) n (A k))=r:=⟨_,rfl⟩;have hr:∀ n,setsN l f ((k:Int)+a) n (A k)=r0 n:=λ n=>congrFun hr0 n
   have HRS:Hid (∀ n,r0 (n+1)=setsI (r0 n) (l.getD (f+n) z) ((k:Int)+a)):=aQ (λ n=>by rw[<- hr,<- hr];rfl)
   have HRL:Hid (∀ n j,n<=m->(r0 n j).length<=8388608):=aQ (λ n j hn=>by
    rw[<- hr];have:=setsN_le l f ((k:Int)+a) (HAL.out k) n j;have h2:k*4096<=999*4096:=Nat.mul_le_mul_right _ (by omega);omega)
   rw[hr]at HSR1 HAK;clear hr hr0
   go_loopw [30] (λ v W=>∃ (n:Nat) (P:Nat->Option Addr) (C:Nat->Nat),n<=m/\v=.int .i64 (n:Int)/\Hid (Sr g1 W g1 (List.range 11) (r0 n) P C)/\Hid (Below g1 w1 W)) (λ v _=>m - (intOf v).toNat)
   case atStart=>exact⟨0,P,C,Nat.zero_le _,rfl,HSR1,HBW1⟩
   case round =>
    clear HSR1 HBW1;obtain⟨n,P,C,hn,rfl,HSR,HBW⟩:=hrel;obtain⟨d0,d2,dl,dB,dI,_⟩:=HLI.out _ HBW.out;have hg1w:g1<=wr.heap.size:=by have:=HBW.out.size;have:=HG1.out.1;omega
    by_cases hnm:n<m
    ·obtain rfl:=HXX.out (by omega)
     have hil:f+n<l.length:=by omega
     obtain⟨bq,oq,hq,lq,i0,i1,i2,i3,i4,i5⟩:=dI.cells (f+n) hil;obtain⟨rfl,rfl⟩:bp=bq/\off=oq:=by injection hq with h;injection h with h1 h2;exact⟨h1,h2⟩
     have ho:∀ j,off+(f+n)*6+j=off+f*6+n*6+j:=λ j=>by omega
     have ho':off+(f+n)*6=off+f*6+n*6:=by omega
     rw[ho']at i0;rw[ho]at i1 i2 i3 i4 i5;have HSE:=aQ (λ W=>ssets_any (l.getD (f+n) z) W (dI.bd _ hil).op.1 (dI.bd _ hil).op.2);have HSB:=aQ (HD.out _ hil);have HRN:=aQ (HRS.out n);have hnI:(n:Int)<(m:Int):=by omega
     unfold setsI at HRN;generalize dU (l.getD (f+n) z)=SBo at *;generalize cQ (l.getD (f+n) z)=SR at *;generalize (l.getD (f+n) z).op=x0 at *;generalize (l.getD (f+n) z).dst=x1 at *;generalize (l.getD (f+n) z).src=x2 at *;generalize (l.getD (f+n) z).off=x3 at *;generalize (l.getD (f+n) z).imm=x4 at *;generalize (l.getD (f+n) z).wide=x5 at *;have HNX:=aQ (λ W (h:Below wr.heap.size wr W)=>(And.intro (HSR.out.next h) (HBW.out.trans (h.mono hg1w)):Sr g1 W g1 (List.range 11) (r0 n) P C/\Below g1 w1 W));clear dI dB hq ho ho';cases SBo with
     | false =>
      rw[if_neg (by simp)]at HRN;go_wp2_with (go_at_call 103;(with_reducible refine(HSE.out _).mono ?_);rintro e w5 ⟨rfl,hb5⟩;have H5:=aQ (HNX.out w5 (b1.trans (hb5.mono (by simp))));clear hb5)
      go_roundw
      case rel=>exact⟨n+1,P,C,by omega,rfl,by rw[HRN.out];exact aQ H5.out.1,aQ H5.out.2⟩
      case measure=>simp[intOf];omega
     | true =>
      rw[if_pos rfl]at HRN;obtain⟨r1,r2⟩:=HSB.out rfl;obtain⟨j,rfl⟩:∃ j:Nat,SR=(j:Int):=⟨SR.toNat,by omega⟩;rw[Int.toNat_natCast]at HRN;have hj11:j<11:=by omega
      have hjI:(j:Int)<11:=by omega
      have hjI0:(0:Int)<=(j:Int):=by omega
      go_wp2_with (go_at_call 103;(with_reducible refine(HSE.out _).mono ?_);rintro e w5 ⟨rfl,hb5⟩;have H5:=aQ (HNX.out w5 (b1.trans (hb5.mono (by simp))));clear hb5)
      obtain⟨S0x,S0,S0l,_⟩:=HLI.out _ H5.out.2;clear S0x;have HPO:=aQ (λ W (h:W.cell? ⟨bb,2,none⟩=some (.int .i64 (a:Int)))=>spartOf_any bb a (k:Int) W h (by rw[IntKind.wrap_i64];omega));have S1:w5.drew.cell? ⟨bb,2,none⟩=some (.int .i64 (a:Int)):=S0;have hgw:g1<=w5.heap.size:=by have:=H5.out.2.size;have:=HG1.out.1;omega
      have HSM:Hid (Sr g1 (w5.alloc (.cells #[.int .i64 ((k:Int)+(a:Int))] 3)).drew g1 (List.range 11) (r0 n) P C):=aQ (H5.out.1.next (aD b1));have HBA:Hid (Below g1 w1 (w5.alloc (.cells #[.int .i64 ((k:Int)+(a:Int))] 3)).drew):=aQ (H5.out.2.trans ((aD b1).mono hgw));have HGW:Hid (g1<=(w5.alloc (.cells #[.int .i64 ((k:Int)+(a:Int))] 3)).drew.heap.size):=aQ (by simp;omega);have SA:=(HLI.out _ HBA.out).2.1;have hmem:j∈List.range 11:=List.mem_range.2 hj11;obtain⟨L,hL⟩:∃ L,r0 n j=L:=⟨_,rfl⟩;obtain⟨zl,hzl⟩:∃ z,L.length=z:=⟨_,rfl⟩;have HEN:Hid (j∈List.range 11/\r0 n j=L):=aQ ⟨hmem,hL⟩;have HLN:Hid (L.length=zl/\(L ++ [(k:Int)+(a:Int)]).length=zl+1/\L.length+[(k:Int)+(a:Int)].length<=1099511627776):=aQ ⟨hzl,by simp[hzl],by have:=HRL.out n j hn;rw[hL]at this;simp;omega⟩;have e50:=(H5.out.1.next (aD (Below.refl _ _))).clE (j:=j) hmem hL rfl rfl hzl;have e51:=HSM.out.clE (j:=j) hmem hL rfl rfl hzl;have e52:(w5.alloc (.cells #[.int .i64 ((k:Int)+(a:Int))] 3)).cell? ⟨g1,j,none⟩=some (.slice (P j) zl (C j)):=e51;have e53:w5.cell? ⟨g1,j,none⟩=some (.slice (P j) zl (C j)):=e50;have HN9:Hid (∀ (x:Int) (W:World) k (e:k=W.heap.size),NumsAt .i64 (W.alloc (.cells #[.int .i64 x] 3)).drew (some ⟨k,0,none⟩) [x]):=aQ (λ x W k e=>by subst e;exact(bH (k:=.i64) W 3 [x] #[.int .i64 x] rfl (by simp)).below (aD (Below.refl _ _)));clear hL hzl hmem;refine wp_region_held_drew (S:=(λ W'=>W'.cell? ⟨bb,2,none⟩=some (.int .i64 (a:Int)))) (by kernel_rfl) ?_ (λ hHeld=>?_)
      ·(try dsimp only);first|exact S0|exact S1|exact SA|exact S8|exact S9
      refine aT 0 rfl (h:=aT 1 rfl (h:=aT 2 rfl (h:=aT 4 rfl (h:=aT 5 rfl (h:=?_)))));try simp only[Act.put,aA,aB,aC]
      refine bY 3 6 (by kernel_rfl) rfl rfl (λ K hK=>?_) (λ K hK=>?_)
      ·
       go_simp
       refine hK.out _ _ ?_ (λ hHeld=>?_)
       ·(try dsimp only);first|exact S0|exact S1|exact SA|exact S8|exact S9
       clear hK K;try simp only[Act.put,aA,aB,aC]
       refine aK 6 (by kernel_rfl) rfl (λ K hK=>?_);go_wp2_with (go_at_call 96;(with_reducible refine(HPO.out _ (by first|exact S1|exact S0)).mono ?_);rintro e w6 ⟨rfl,rfl⟩)
       refine hK.out _ _ ?_ (λ hHeld=>?_)
       ·(try dsimp only);first|exact S0|exact S1|exact SA|exact S8|exact S9
       clear hK K;try simp only[Act.put,aA,aB,aC]
       refine aK 7 (by kernel_rfl) rfl (λ K hK=>?_);go_simp
       refine hK.out _ _ ?_ (λ hHeld=>?_)
       ·(try dsimp only);first|exact S0|exact S1|exact SA|exact S8|exact S9
       clear hK K;try simp only[Act.put,aA,aB,aC]
       refine aK 8 (by kernel_rfl) rfl (λ K hK=>?_)
       (refine bI rfl (.tmp 43) (.tmp 47) rfl rfl g1 _ [(k:Int)+(a:Int)] L (.slice (P j) zl (C j)) 1 1 rfl (by simp[Act.eval]) (by simp[Act.eval];rfl) (HSM.out.ownE (j:=j) HEN.out.1 HEN.out.2 rfl rfl HLN.out.1.symm) (HN9.out _ _ _ (by first|rfl|simp)) HGW.out HLN.out.2.2 ?_;intro v8 w8 ho8 hg8 hb8;rw[HLN.out.2.1]at ho8;obtain⟨q8,c8,rfl⟩:=aW ho8;obtain⟨e8,fz8,bl8⟩:=HSM.out.mid (j:=j) HEN.out.1 hg8;rw[HEN.out.2,HLN.out.1]at e8;have HX:=aQ (HSM.out.app (j:=j) HEN.out.1 (by rw[HLN.out.2.1];exact ho8) HLN.out.2.1.symm hg8 hb8);have hb8':=HBA.out.grown hg8 HGW.out (λ k e=>(HSM.out.blk (j:=j) HEN.out.1 (by rw[<- e,aH])).1);have HBX:=aQ (hb8'.setCell (p:=⟨g1,j,none⟩) (Nat.le_refl _) (.slice q8 (zl+1) c8));have S8:=(HLI.out _ hb8').2.1;have S9:=(HLI.out _ HBX.out).2.1;clear ho8 hg8 hb8 hb8')
       refine hK.out _ _ ?_ (λ hHeld=>?_)
       ·(try dsimp only);first|exact S0|exact S1|exact SA|exact S8|exact S9
       clear hK K;try simp only[Act.put,aA,aB,aC]
       refine aT 9 rfl (h:=?_);try simp only[Act.put,aA,aB,aC]
       refine aK 10 (by kernel_rfl) rfl (λ K hK=>?_);go_simp
       refine hK.out _ _ ?_ (λ hHeld=>?_)
       ·(try dsimp only);first|exact S0|exact S1|exact SA|exact S8|exact S9
       clear hK K;try simp only[Act.put,aA,aB,aC]
       refine wpAnyH_done (by kernel_rfl) ?_ _;go_wp2_with fail
       go_roundw
       all_goals first
        | exact⟨n+1,up1 P j q8,up1 C j c8,by omega,rfl,by rw[HRN.out,HEN.out.2];exact HX,HBX⟩
        | ((simp[intOf]) <;> omega)
      ·
       go_wp2_with (go_at_call 96;(with_reducible refine(HPO.out _ (by first|exact S1|exact S0)).mono ?_);rintro e w6 ⟨rfl,rfl⟩)
       refine hK.out _ _ ?_ (λ hHeld=>?_)
       ·(try dsimp only);first|exact S0|exact S1|exact SA|exact S8|exact S9
       clear hK K;try simp only[Act.put,aA,aB,aC]
       refine bY 3 7 (by kernel_rfl) rfl rfl (λ K hK=>?_) (λ K hK=>?_)
       ·
        go_simp
        refine hK.out _ _ ?_ (λ hHeld=>?_)
        ·(try dsimp only);first|exact S0|exact S1|exact SA|exact S8|exact S9
        clear hK K;try simp only[Act.put,aA,aB,aC]
        refine aK 7 (by kernel_rfl) rfl (λ K hK=>?_);go_simp
        refine hK.out _ _ ?_ (λ hHeld=>?_)
        ·(try dsimp only);first|exact S0|exact S1|exact SA|exact S8|exact S9
        clear hK K;try simp only[Act.put,aA,aB,aC]
        refine aK 8 (by kernel_rfl) rfl (λ K hK=>?_)
        (refine bI rfl (.tmp 43) (.tmp 47) rfl rfl g1 _ [(k:Int)+(a:Int)] L (.slice (P j) zl (C j)) 1 1 rfl (by simp[Act.eval]) (by simp[Act.eval];rfl) (HSM.out.ownE (j:=j) HEN.out.1 HEN.out.2 rfl rfl HLN.out.1.symm) (HN9.out _ _ _ (by first|rfl|simp)) HGW.out HLN.out.2.2 ?_;intro v8 w8 ho8 hg8 hb8;rw[HLN.out.2.1]at ho8;obtain⟨q8,c8,rfl⟩:=aW ho8;obtain⟨e8,fz8,bl8⟩:=HSM.out.mid (j:=j) HEN.out.1 hg8;rw[HEN.out.2,HLN.out.1]at e8;have HX:=aQ (HSM.out.app (j:=j) HEN.out.1 (by rw[HLN.out.2.1];exact ho8) HLN.out.2.1.symm hg8 hb8);have hb8':=HBA.out.grown hg8 HGW.out (λ k e=>(HSM.out.blk (j:=j) HEN.out.1 (by rw[<- e,aH])).1);have HBX:=aQ (hb8'.setCell (p:=⟨g1,j,none⟩) (Nat.le_refl _) (.slice q8 (zl+1) c8));have S8:=(HLI.out _ hb8').2.1;have S9:=(HLI.out _ HBX.out).2.1;clear ho8 hg8 hb8 hb8')
        refine hK.out _ _ ?_ (λ hHeld=>?_)
        ·(try dsimp only);first|exact S0|exact S1|exact SA|exact S8|exact S9
        clear hK K;try simp only[Act.put,aA,aB,aC]
        refine aT 9 rfl (h:=?_);try simp only[Act.put,aA,aB,aC]
        refine aK 10 (by kernel_rfl) rfl (λ K hK=>?_);go_simp
        refine hK.out _ _ ?_ (λ hHeld=>?_)
        ·(try dsimp only);first|exact S0|exact S1|exact SA|exact S8|exact S9
        clear hK K;try simp only[Act.put,aA,aB,aC]
        refine wpAnyH_done (by kernel_rfl) ?_ _;go_wp2_with fail
        go_roundw
        all_goals first
         | exact⟨n+1,up1 P j q8,up1 C j c8,by omega,rfl,by rw[HRN.out,HEN.out.2];exact HX,HBX⟩
         | ((simp[intOf]) <;> omega)
       ·
        go_simp
        refine hK.out _ _ ?_ (λ hHeld=>?_)
        ·(try dsimp only);first|exact S0|exact S1|exact SA|exact S8|exact S9
        clear hK K;try simp only[Act.put,aA,aB,aC]
        refine aK 3 (by kernel_rfl) rfl (λ K hK=>?_);go_simp
        refine hK.out _ _ ?_ (λ hHeld=>?_)
        ·(try dsimp only);first|exact S0|exact S1|exact SA|exact S8|exact S9
        clear hK K;try simp only[Act.put,aA,aB,aC]
        refine aK 8 (by kernel_rfl) rfl (λ K hK=>?_)
        (refine bI rfl (.tmp 43) (.tmp 47) rfl rfl g1 _ [(k:Int)+(a:Int)] L (.slice (P j) zl (C j)) 1 1 rfl (by simp[Act.eval]) (by simp[Act.eval];rfl) (HSM.out.ownE (j:=j) HEN.out.1 HEN.out.2 rfl rfl HLN.out.1.symm) (HN9.out _ _ _ (by first|rfl|simp)) HGW.out HLN.out.2.2 ?_;intro v8 w8 ho8 hg8 hb8;rw[HLN.out.2.1]at ho8;obtain⟨q8,c8,rfl⟩:=aW ho8;obtain⟨e8,fz8,bl8⟩:=HSM.out.mid (j:=j) HEN.out.1 hg8;rw[HEN.out.2,HLN.out.1]at e8;have HX:=aQ (HSM.out.app (j:=j) HEN.out.1 (by rw[HLN.out.2.1];exact ho8) HLN.out.2.1.symm hg8 hb8);have hb8':=HBA.out.grown hg8 HGW.out (λ k e=>(HSM.out.blk (j:=j) HEN.out.1 (by rw[<- e,aH])).1);have HBX:=aQ (hb8'.setCell (p:=⟨g1,j,none⟩) (Nat.le_refl _) (.slice q8 (zl+1) c8));have S8:=(HLI.out _ hb8').2.1;have S9:=(HLI.out _ HBX.out).2.1;clear ho8 hg8 hb8 hb8')
        refine hK.out _ _ ?_ (λ hHeld=>?_)
        ·(try dsimp only);first|exact S0|exact S1|exact SA|exact S8|exact S9
        clear hK K;try simp only[Act.put,aA,aB,aC]
        refine aT 9 rfl (h:=?_);try simp only[Act.put,aA,aB,aC]
        refine aK 10 (by kernel_rfl) rfl (λ K hK=>?_);go_simp
        refine hK.out _ _ ?_ (λ hHeld=>?_)
        ·(try dsimp only);first|exact S0|exact S1|exact SA|exact S8|exact S9
        clear hK K;try simp only[Act.put,aA,aB,aC]
        refine wpAnyH_done (by kernel_rfl) ?_ _;go_wp2_with fail
        go_roundw
        all_goals first
         | exact⟨n+1,up1 P j q8,up1 C j c8,by omega,rfl,by rw[HRN.out,HEN.out.2];exact HX,HBX⟩
         | ((simp[intOf]) <;> omega)
    ·obtain rfl:m=n:=by omega
     go_wp2_with fail
     go_roundw
     case rel=>exact⟨k+1,P,C,by omega,rfl,by rw[HAK.out];exact HSR,HBW⟩
     case measure=>simp[intOf];omega
  ·obtain rfl:k=NB:=by omega
   have HFN:Hid (∀ j,j<11->wr.cell? ⟨g1,j,none⟩=some (.slice (P j) (A k j).length (C j))):=aQ (λ j hj=>HSR.out.cl j (List.mem_range.2 hj));obtain⟨f1,f2,f3⟩:=HE1.out _ HBW.out;have e0:=HFN.out 0 (by omega);have e1:=HFN.out 1 (by omega);have e2:=HFN.out 2 (by omega);have e3:=HFN.out 3 (by omega);have e4:=HFN.out 4 (by omega);have e5:=HFN.out 5 (by omega);have e6:=HFN.out 6 (by omega);have e7:=HFN.out 7 (by omega);have e8:=HFN.out 8 (by omega);have e9:=HFN.out 9 (by omega);have e10:=HFN.out 10 (by omega);have j0:=f1 0 (by omega);have j1:=f1 1 (by omega);have j2:=f1 2 (by omega);have j3:=f1 3 (by omega);have j4:=f1 4 (by omega);have j5:=f1 5 (by omega);have j6:=f1 6 (by omega);have j7:=f1 7 (by omega);have j8:=f1 8 (by omega);have j9:=f1 9 (by omega);have j10:=f1 10 (by omega);have z0:=f2 0;have z1:=f2 1;have z2:=f2 2;have z3:=f2 3;have z4:=f2 4;have z5:=f2 5;have z6:=f2 6;have z7:=f2 7;have z8:=f2 8;have z9:=f2 9;have z10:=f2 10;have lb:=HSR.out.bl;clear f1 f2 d0 d2 dB dI;go_wp2_with fail
   refine bodyPost_ret ?_ rfl (HD2.out wr _ _ _ _ _ _ _ _ _ _ _ _ P C rfl HSR.out HBW.out);simp[results,Tryz.results54,go_sem,loadVar,j0,j1,j2,j3,j4,j5,j6,j7,j8,j9,j10]
end Go.Proofs.YtkfahppdklecdaaGreatDoor.J
namespace Go.Proofs.YtkfahppdklecdaaGreatDoor
open Go.RowKit M
theorem spotOut:laidOutB Tryz.prog=true:=by kernel_rfl
theorem spotRow:(140:TypeId)<Tryz.prog.types.size:=of_decide_eq_true (by kernel_rfl)
theorem spotWide:(match Tryz.prog.underlying 140 with|some (.array _ _)|some (.struct _)=>true|_=>false)=true:=by rw[Tryz.underlying140]
theorem spotLaw:Maps.Keyed Tryz.prog 140:=Maps.Keyed.of_law (deep_law_laid spotOut (m:=2) (by omega) spotRow (by kernel_rfl) spotWide)
theorem spotKt:Tryz.prog.keyType 140=true:=by kernel_rfl
theorem spotCells:Tryz.prog.cellsOf 140=2:=by kernel_rfl
theorem intCells:Tryz.prog.cellsOf 3=1:=by kernel_rfl
def litS(p r:Int):Lit:=.string (keyBytes [lit p,lit r])
theorem succ_of{s k:Nat}(h:k<s):∃ m,s=m+1:=⟨s - 1,by omega⟩
theorem spotKey{p r:Int}(hp:(lit p).wf=true)(hr:(lit r).wf=true):keyOf Tryz.prog 140 (.agg #[.int .i64 p,.int .i64 r])=some (litS p r):=by
 obtain⟨m,hm⟩:=succ_of spotRow;unfold keyOf;simp only[Tryz.underlying140];rw[if_pos (by simp[spotKt,Value.formed,Tryz.underlying140,spotCells]),hm];unfold Program.keyLits;simp only[Tryz.underlying140,Value.cells];rw[if_pos (by rw[spotCells];exact⟨rfl,by simp⟩)];unfold lit at hp hr;simp[Program.keyLits,Tryz.underlying3,intCells,hp,hr,litS,lit]
theorem litS_key(p r:Int):WideAt.IsKeyLit (litS p r):=by simp[WideAt.IsKeyLit,litS]
theorem litS_inj{p r p' r':Int}(hp:(lit p).wf=true)(hr:(lit r).wf=true)(hp':(lit p').wf=true)(hr':(lit r').wf=true)(h:litS p r=litS p' r'):p=p'/\r=r':=by
 have e:=spotLaw.inj (spotKey hp hr) (by rw[h];exact spotKey hp' hr');injection e with e
 have:=congrArg Array.toList e;simp at this;exact this
def Ms(W:World)(b n:Nat)(f:Int->Int->Option Int):Prop :=
 ∃ D:DataW Unit,W.ownsMap Tryz.prog 140 (plainElem Tryz.prog 3) b n D/\∀ p r,(lit p).wf=true->(lit r).wf=true->Maps.has D (litS p r)=(f p r).isSome/\∀ x z,f p r=some x->D.atKey (litS p r) z=.lit (lit x)
def sput(f:Int->Int->Option Int)(p r x:Int):Int->Int->Option Int:=λ i j=>if i=p/\j=r then some x else f i j
theorem Ms.made(W:World):Ms (W.alloc (.map #[] 0)) W.heap.size 0 (λ _ _=>none) :=
 ⟨.map [],World.ownsMap_made _ _ _ _,λ _ _ _ _=>⟨rfl,λ _ _ h=>by cases h⟩⟩
theorem Ms.kept{W W':World}{b n:Nat}{f:Int->Int->Option Int}{row:Option Nat}(h:Ms W b n f)(hg:W.grownBy W' row)(hb:some b≠row):Ms W' b n f:=by
 obtain⟨D,h,r⟩:=h;exact⟨D,h.kept hg hb,r⟩
theorem Ms.next{W W':World}{b n:Nat}{f:Int->Int->Option Int}(h:Ms W b n f)(hb:Below W.heap.size W W'):Ms W' b n f:=by
 obtain⟨D,h,r⟩:=h;have hl:=h.lt;obtain⟨es,clock,he,F,hs,hD⟩:=h;exact⟨D,⟨es,clock,(hb.block b hl).trans he,F,hs,hD⟩,r⟩
theorem Ms.block{W W':World}{b n:Nat}{f:Int->Int->Option Int}(h:Ms W b n f)(hb:W'.heap[b]?=W.heap[b]?):Ms W' b n f:=by
 obtain⟨D,h,r⟩:=h;obtain⟨es,clock,he,F,hs,hD⟩:=h;exact⟨D,⟨es,clock,hb.trans he,F,hs,hD⟩,r⟩
theorem Ms.update{W:World}{b n:Nat}{f:Int->Int->Option Int}(h:Ms W b n f)(hn:n<1048576){p r x:Int}(hp:(lit p).wf=true)(hr:(lit r).wf=true)(hx:(lit x).wf=true) :
  ∃ W',(Instr.mapUpdate 73 (.map (some b)) (.agg #[.int .i64 p,.int .i64 r]) (.int .i64 x)).run Tryz.prog W=.ok () W'/\Ms W' b (n+1) (sput f p r x)/\W.grownBy W' (some b):=by
 obtain⟨D,h,h1⟩:=h;obtain⟨W',e,o,g⟩:=h.update spotLaw Tryz.underlying73 (by unfold maxLen;omega) (spotKey hp hr) (plainElem_int Tryz.underlying3 hx);refine⟨W',e,⟨_,o,λ i j hi hj=>?_⟩,g⟩;unfold sput;by_cases e:i=p/\j=r
 ·obtain⟨rfl,rfl⟩:=e
  rw[if_pos ⟨rfl,rfl⟩];refine⟨Maps.has_put_same h.isMap (litS_key i j) _,λ y z hy=>?_⟩;cases hy;exact Maps.atKey_put_same h.isMap (litS_key i j) _ _
 ·rw[if_neg e]
  have hne:litS i j≠litS p r:=λ e2=>e (litS_inj hi hj hp hr e2)
  exact⟨(Maps.has_put_other hne _).trans (h1 i j hi hj).1,λ y z hy=>(Maps.atKey_put_other hne _ _).trans ((h1 i j hi hj).2 y z hy)⟩
theorem wpList_ms_put{w:World}{ops:Array Oper}{rest:List Oper}{o:Oper}{a:Act}{Q:Exit->Act->World->Prop}(hg:o.guard=none)(m x v:Operand)(hop:o.op=Op.mapUpdate 73 m x v)
  (b n:Nat) (f:Int->Int->Option Int) (p r y:Int) (hm:a.eval m=.map (some b)) (hx:a.eval x=.agg #[.int .i64 p,.int .i64 r]) (hv:a.eval v=.int .i64 y) (h:Ms w b n f) (hn:n<1048576) (hp:(lit p).wf=true) (hr:(lit r).wf=true) (hy:(lit y).wf=true)
  (hK:∀ w',Ms w' b (n+1) (sput f p r y)->w.grownBy w' (some b)->wpList Tryz.prog ops Q rest (a.put o.dst undef) w'):wpList Tryz.prog ops Q (o :: rest) a w:=by
 refine wpList_plain hg λ K' hK'=>?_
 obtain⟨w',hrun,r1,r2⟩:=h.update hn hp hr hy;unfold Oper.wp;simp[execOp,hop,hm,hx,hv,hrun,Result.andThen];exact hK' _ _ (hK w' r1 r2)
theorem wpList_ms_look{w:World}{ops:Array Oper}{rest:List Oper}{o:Oper}{a:Act}{Q:Exit->Act->World->Prop}(hg:o.guard=none)(m x:Operand)(hop:o.op=Op.lookup 73 m x false)
  (b n:Nat) (f:Int->Int->Option Int) (p r y:Int) (hm:a.eval m=.map (some b)) (hx:a.eval x=.agg #[.int .i64 p,.int .i64 r]) (h:Ms w b n f) (hp:(lit p).wf=true) (hr:(lit r).wf=true) (hy:f p r=some y)
  (hK:wpList Tryz.prog ops Q rest (a.put o.dst (.int .i64 y)) w):wpList Tryz.prog ops Q (o :: rest) a w:=by
 obtain⟨D,h,h1⟩:=h;refine wpList_lookup_own_int w hg m x 73 hop 140 3 .i64 spotLaw Tryz.underlying73 Tryz.underlying3 (zeroI w) b n D hm h (.agg #[.int .i64 p,.int .i64 r]) (litS p r) hx (spotKey hp hr) (λ c hat _=>?_);have e:=((h1 p r hp hr).2 y _ hy).symm.trans hat;have e2:y=c:=by injection e with e;injection e
 rw[<- e2];exact hK
def bare(e:Te):Pt:=⟨[],[],[],e⟩
def layE(l:List In)(a:Nat)(B:List Bk):List Te:=(if a=1 then [⟨1,0,false,0,0,1,0⟩]else []) ++ B.map (endB l a)
def layP(l:List In)(a:Nat)(B:List Bk):List Pt:=(layE l a B).map bare
def dX(e:Te):List Value:=ptV (bare e) none 0 none 0 none 0
def fR(E:List Te):List Value:=E.flatMap dX
theorem baresV_app(E:List Te)(e:Te):fR (E ++ [e])=fR E ++ dX e:=by simp[fR]
theorem flat_get{α β:Type}(f:α->List β)(n:Nat)(h:∀ x,(f x).length=n):∀ (L:List α) (i j:Nat) (x:α),L[i]?=some x->j<n->(L.flatMap f)[i*n+j]?=(f x)[j]?
 | [],_,_,_,hx,_=>by simp at hx
 | y :: L,0,j,x,hx,hj=>by
  simp at hx;subst hx;rw[List.flatMap_cons,Nat.zero_mul,Nat.zero_add,List.getElem?_append_left (by rw[h];exact hj)]
 | y :: L,i+1,j,x,hx,hj=>by
  rw[List.flatMap_cons,List.getElem?_append_right (by rw[h,Nat.add_mul,Nat.one_mul];omega),h];rw[show(i+1)*n+j - n=i*n+j by rw[Nat.add_mul,Nat.one_mul];omega];exact flat_get f n h L i j x (by simpa using hx) hj
theorem bareV_len(e:Te):(dX e).length=10:=rfl
theorem bareV_one(e:Te):∀ u∈dX e,u.oneCell'=true:=by
 intro u hu;simp only[dX,ptV,bare,List.mem_cons,List.not_mem_nil,or_false]at hu;rcases hu with rfl|rfl|rfl|rfl|rfl|rfl|rfl|rfl|rfl|rfl <;> rfl
theorem new_cellsK(w:World)(cs:List Value)(ar:Array Value)(t:TypeId)(k:Nat)(hk:k=w.heap.size)(ha:ar=cs.toArray):∀ j u,cs[j]?=some u->(w.alloc (.cells ar t)).cell? ((⟨k,0,none⟩:Addr).add j)=some u:=by
 subst hk ha;exact dQ w cs t
theorem nums_none(W:World):NumsAt .i64 W none []:=⟨by simp,λ i hi=>absurd hi (Nat.not_lt_zero _)⟩
theorem phis_none(W:World):PhisAt W none []:=⟨by simp,λ i hi=>absurd hi (Nat.not_lt_zero _)⟩
theorem nodes_none(W:World):NodesAt W none []:=⟨by simp,λ i hi=>absurd hi (Nat.not_lt_zero _)⟩
theorem parts_own{W:World}{base n c:Nat}{q:Option Addr}{E:List Te}(ho:W.ownsRow base 41 10 (.slice q n c) n (fR E))(hn:E.length=n)(hs:n<=4294967296):PartsAt W q (E.map bare):=by
 refine⟨by rw[List.length_map,hn];exact hs,λ i hi=>?_⟩;rw[List.length_map,hn]at hi
 obtain⟨g,rfl⟩:∃ g,q=some ⟨g,0,none⟩:=by
  rcases ho.2 with ⟨_,h0⟩|⟨g,cap,cur,e,_⟩
  ·omega
  ·injection e with e1;exact⟨g,e1⟩
 have hl:=(ho.lt g (by rw[aH];rfl)).2;have hx:E[i]?=some (E[i]'(by omega)):=List.getElem?_eq_getElem (by omega)
 have hp:pt (E.map bare) i=bare (E[i]'(by omega)):=by
  unfold pt;rw[List.getD_eq_getElem?_getD,List.getElem?_map,hx];rfl
 rw[hp];refine⟨g,none,0,none,0,none,0,rfl,hl,λ j v hv=>?_,nums_none W,phis_none W,nodes_none W⟩
 have hj:j<10:=by
  rcases Nat.lt_or_ge j 10 with h|h
  ·exact h
  ·rw[List.getElem?_eq_none (by simpa[ptV]using h)]at hv;cases hv
 rw[ho.cellAt (i*10+j) (by omega)];exact(flat_get dX 10 bareV_len E i j _ hx hj).trans hv
theorem infoPt:(Tryz.prog.info? 41).map (λ i=>(i.zero,i.size,i.bytes))=some (some (.agg #[.slice none 0 0,.slice none 0 0,.slice none 0 0,.int .i64 0,.int .i64 0,.bool false,.int .i64 0,.int .i64 0,.int .i64 0,.int .i64 0]),10,128):=by kernel_rfl
theorem wpList_app_pt{w:World}{ops:Array Oper}{rest:List Oper}{o:Oper}{a:Act}{Q:Exit->Act->World->Prop}(hg:o.guard=none)(s x:Operand)(hop:o.op=Op.call { callee:=Callee.builtin Builtin.append,args:=#[s,x],argTypes:=#[25,25] })(hty:o.type=25)
  (base:Nat) (ad:Addr) (news xs:List Value) (v:Value) (n c:Nat) (hs:a.eval s=v) (hx:a.eval x=.slice (some ad) 1 c) (h1:w.ownsRow base 41 10 v n xs) (hl:news.length=1*10) (hN:∀ j u,news[j]?=some u->w.cell? (ad.add j)=some u) (h1c:∀ u∈news,u.oneCell'=true) (hb:base<=w.heap.size) (hm:n<=4096)
  (hK:∀ v' w',w'.ownsRow base 41 10 v' (n+1) (xs ++ news)->w.grownBy w' v.ownBlock->wpList Tryz.prog ops Q rest (a.put o.dst v') w') :
  wpList Tryz.prog ops Q (o :: rest) a w:=by
 refine wpList_plain hg λ K hK'=>?_
 obtain⟨i5,h5,g5,s5,b5⟩:=info_parts infoPt;obtain⟨v',w',hrun,r1,r2,_,_⟩:=run_append_own_at (P:=Tryz.prog) w base 25 25 41 i5 _ 10 128 Tryz.underlying25 h5 g5 s5 b5 rfl (by decide) v n xs h1 ad 1 c news hl hN h1c (by simp only[maxLen];omega) (by omega) hb;unfold Oper.wp;simp[execOp,hop,resolve,invoke,builtin,hs,hx,hty,hrun,Result.andThen];exact hK' _ _ (hK v' w' r1 r2)
theorem step_app_pt{w:World}{ops:Array Oper}{o:Oper}{a:Act}{K:Act->World->Prop}{Q:Exit->Act->World->Prop}{E:Prop}(hg:o.guard=none)(s x:Operand)(hop:o.op=Op.call { callee:=Callee.builtin Builtin.append,args:=#[s,x],argTypes:=#[25,25] })(hty:o.type=25)
  (base:Nat) (ad:Addr) (news xs:List Value) (v:Value) (n c:Nat) (hs:a.eval s=v) (hx:a.eval x=.slice (some ad) 1 c) (h1:w.ownsRow base 41 10 v n xs) (hl:news.length=1*10) (hN:∀ j u,news[j]?=some u->w.cell? (ad.add j)=some u) (h1c:∀ u∈news,u.oneCell'=true) (hb:base<=w.heap.size) (hm:n<=4096)
  (hK:∀ v' w',w'.ownsRow base 41 10 v' (n+1) (xs ++ news)->w.grownBy w' v.ownBlock->K (a.put o.dst v') w') :
  if Region.wanted o (yielded ops a.tmps)=true then Oper.wp Tryz.prog o a w K Q else E:=by
 have hw:Region.wanted o (yielded ops a.tmps)=true:=by simp[Region.wanted,hg]
 rw[if_pos hw];obtain⟨i5,h5,g5,s5,b5⟩:=info_parts infoPt;obtain⟨v',w',hrun,r1,r2,_,_⟩:=run_append_own_at (P:=Tryz.prog) w base 25 25 41 i5 _ 10 128 Tryz.underlying25 h5 g5 s5 b5 rfl (by decide) v n xs h1 ad 1 c news hl hN h1c (by simp only[maxLen];omega) (by omega) hb;unfold Oper.wp;simp[execOp,hop,resolve,invoke,builtin,hs,hx,hty,hrun,Result.andThen];exact hK v' w' r1 r2
structure Lyq(w W:World)(bb mb:Nat)(q:Option Addr)(qn qc:Nat)(qB:Option Addr)(nB cB a:Nat)(E:List Te)(p:Option Addr)(c:Nat):Prop where
 low:Below w.heap.size w W
 mbw:w.heap.size<=mb
 mbb:mb<bb
 bbl:bb<W.heap.size
 fz:∀ j,W.frozen? ⟨bb,j,none⟩=false
 c0:W.cell? ⟨bb,0,none⟩=some (.slice q qn qc)
 c1:W.cell? ⟨bb,1,none⟩=some (.slice qB nB cB)
 c2:W.cell? ⟨bb,2,none⟩=some (.int .i64 (a:Int))
 c3:W.cell? ⟨bb,3,none⟩=some (.slice p E.length c)
 c4:W.cell? ⟨bb,4,none⟩=some (.int .i64 0)
 c5:W.cell? ⟨bb,5,none⟩=some (.slice none 0 0)
 c6:W.cell? ⟨bb,6,none⟩=some (.slice none 0 0)
 c7:W.cell? ⟨bb,7,none⟩=some (.map (some mb))
 ms:Ms W mb 0 (λ _ _=>none)
 own:W.ownsRow (bb+1) 41 10 (.slice p E.length c) E.length (fR E)
theorem Lyq.start(w:World)(q:Option Addr)(qn qc:Nat)(qB:Option Addr)(nB cB a:Nat):Lyq w ((w.alloc (.map #[] 0)).alloc (.cells #[.slice q qn qc,.slice qB nB cB,.int .i64 (a:Int),.slice none 0 0,.int .i64 0,.slice none 0 0,.slice none 0 0,.map (some w.heap.size)] 75)) (w.heap.size+1) w.heap.size q qn qc qB nB cB a [] none 0:=by
 have hs:(w.alloc (.map #[] 0)).heap.size=w.heap.size+1:=by simp
 have hc:∀ i u,(#[.slice q qn qc,.slice qB nB cB,.int .i64 (a:Int),.slice none 0 0,.int .i64 0,.slice none 0 0,.slice none 0 0,.map (some w.heap.size)]:Array Value)[i]?=some u->((w.alloc (.map #[] 0)).alloc (.cells #[.slice q qn qc,.slice qB nB cB,.int .i64 (a:Int),.slice none 0 0,.int .i64 0,.slice none 0 0,.slice none 0 0,.map (some w.heap.size)] 75)).cell? ⟨w.heap.size+1,i,none⟩=some u:=λ i u hu=>by rw[<- hs];exact aJ _ hu
 refine⟨b2,Nat.le_refl _,Nat.lt_succ_self _,by simp,λ j=>?_,hc 0 _ rfl,hc 1 _ rfl,hc 2 _ rfl,hc 3 _ rfl,hc 4 _ rfl,hc 5 _ rfl,hc 6 _ rfl,hc 7 _ rfl,(Ms.made w).next b1,World.ownsRow_nil _ _ _ _⟩;rw[<- hs];exact World.frozen?_alloc_new _ _ _ j
section
variable {w W W':World} {bb mb:Nat} {q:Option Addr} {qn qc:Nat} {qB:Option Addr} {nB cB a:Nat} {E:List Te} {p:Option Addr} {c:Nat}
theorem Lyq.next(h:Lyq w W bb mb q qn qc qB nB cB a E p c)(hb:Below W.heap.size W W'):Lyq w W' bb mb q qn qc qB nB cB a E p c:=by
 have hc:∀ {o v},W.cell? ⟨bb,o,none⟩=some v->W'.cell? ⟨bb,o,none⟩=some v:=λ {o v} e=>(hb.cell (p:=⟨bb,o,none⟩) h.bbl).trans e
 exact⟨h.low.trans (hb.mono h.low.size),h.mbw,h.mbb,Nat.lt_of_lt_of_le h.bbl hb.size,λ j=>(hb.frozen (p:=⟨bb,j,none⟩) h.bbl).trans (h.fz j),hc h.c0,hc h.c1,hc h.c2,hc h.c3,hc h.c4,hc h.c5,hc h.c6,hc h.c7,h.ms.next hb,own_below h.own hb⟩
theorem Lyq.app(h:Lyq w W bb mb q qn qc qB nB cB a E p c){e:Te}{p':Option Addr}{n' c':Nat}(ho:W'.ownsRow (bb+1) 41 10 (.slice p' n' c') n' (fR E ++ dX e))(hn:n'=E.length+1)(hg:W.grownBy W' (Value.slice p E.length c).ownBlock) :
  (W'.cell? ⟨bb,3,none⟩=some (.slice p E.length c)/\W'.frozen? ⟨bb,3,none⟩=false/\bb<W'.heap.size)/\Lyq w (W'.setCell ⟨bb,3,none⟩ (.slice p' n' c')) bb mb q qn qc qB nB cB a (E ++ [e]) p' c':=by
 have hne:some bb≠(Value.slice p E.length c).ownBlock:=λ e=>by have:=(h.own.lt _ e.symm).1;omega
 have hnm:some mb≠(Value.slice p E.length c).ownBlock:=λ e=>by have:=(h.own.lt _ e.symm).1;have:=h.mbb;omega
 have hbl:=hg.block bb h.bbl (λ e=>hne e);have hc:∀ {o v},W.cell? ⟨bb,o,none⟩=some v->W'.cell? ⟨bb,o,none⟩=some v:=λ {o v} e=>(World.cell?_of_block (a:=⟨bb,o,none⟩) hbl).trans e
 have hf:∀ j,W'.frozen? ⟨bb,j,none⟩=false:=λ j=>(World.frozen?_of_block (a:=⟨bb,j,none⟩) hbl).trans (h.fz j)
 have hlt:bb<W'.heap.size:=Nat.lt_of_lt_of_le h.bbl hg.size;have hmw:=h.mbw;have hmb:=h.mbb;have hs:=h.low.size;subst hn;refine⟨⟨hc h.c3,hf 3,hlt⟩,?_⟩;have hn':(E ++ [e]).length=E.length+1:=by simp
 have hc3:∀ {o v},o≠3->W.cell? ⟨bb,o,none⟩=some v->(W'.setCell ⟨bb,3,none⟩ (.slice p' (E.length+1) c')).cell? ⟨bb,o,none⟩=some v:=λ {o v} h3 e=>aL (hc e) (aM (.inr h3))
 refine⟨(h.low.grown hg hs (λ k e=>by have:=(h.own.lt k e).1;omega)).setCell (p:=⟨bb,3,none⟩) (by show w.heap.size<=bb;omega) _,hmw,hmb,by simpa[World.setCell]using hlt,λ j=>(World.frozen?_setCell ..).trans (hf j),
  hc3 (by decide) h.c0,hc3 (by decide) h.c1,hc3 (by decide) h.c2,?_,hc3 (by decide) h.c4,hc3 (by decide) h.c5,hc3 (by decide) h.c6,hc3 (by decide) h.c7,(h.ms.kept hg hnm).block (heap_setCell_other W' ⟨bb,3,none⟩ mb _ (by show mb≠bb;omega)),?_⟩
 ·rw[hn']
  exact World.cell?_setCell_same _ _ _ (hc h.c3)
 ·rw[hn',baresV_app]
  refine aP (a:=⟨bb,3,none⟩) ho (λ e2=>?_);have:=(ho.lt _ e2).1;have:bb+1<=bb:=this;omega
end
end Go.Proofs.YtkfahppdklecdaaGreatDoor
namespace Go.Proofs.YtkfahppdklecdaaGreatDoor.J
open Go.RowKit
open M
structure Lk where
 bb:Nat
 gp:Nat
 gs:Nat
 mb:Nat
 cap:Nat
 zs:Nat
 zp:Nat
 q:Option Addr
 qc:Nat
 l:List In
 qB:Option Addr
 cB:Nat
 B:List Bk
 a:Nat
def Lk.E(k:Lk):List Te:=layE k.l k.a k.B
def Lk.n(k:Lk):Nat:=(layE k.l k.a k.B).length
def Lk.L(k:Lk):List Pt:=layP k.l k.a k.B
def tens(n:Nat):List Nat:=(List.range n).map (·*10)
theorem mem_tens{n j:Nat}:j∈tens n↔∃ i,i<n/\j=i*10:=by
 unfold tens;rw[List.mem_map];exact⟨λ ⟨i,h,e⟩=>⟨i,List.mem_range.1 h,e.symm⟩,λ ⟨i,h,e⟩=>⟨i,List.mem_range.2 h,e.symm⟩⟩
def prR(L:List Pt)(k i:Nat):Nat->List Int:=λ j=>if j % 10=0 then prA L ((j / 10:Nat):Int) k ++ prK L ((j / 10:Nat):Int) (k:Int) k i else []
theorem prR_0(L:List Pt):prR L 0 0=λ _=>[]:=by
 funext j;unfold prR;split <;> rfl
theorem prR_next(L:List Pt)(k:Nat):prR L k (aY (pt L k).en).length=prR L (k+1) 0:=by
 funext j;unfold prR
 split
 ·show _=(prA L _ k ++ prK L _ (k:Int) k _) ++ prK L _ _ _ 0
  rw[show prK L ((j / 10:Nat):Int) ((k+1:Nat):Int) (k+1) 0=[] from rfl,List.append_nil]
 ·rfl
theorem prR_step(L:List Pt)(k i t:Nat)(h:(aY (pt L k).en).getD i 0=(t:Int)):prR L k (i+1)=up1 (prR L k i) (t*10) (prR L k i (t*10) ++ [(k:Int)]):=by
 funext j
 by_cases e:j=t*10
 ·subst e
  rw[cC];unfold prR;rw[if_pos (by omega),if_pos (by omega)];have ht:t*10 / 10=t:=by omega
  rw[ht];show prA L t k ++ (prK L t k k i ++ _)=_;rw[if_pos h,List.append_assoc]
 ·rw[bW _ _ _ e]
  unfold prR;by_cases h10:j % 10=0
  ·rw[if_pos h10,if_pos h10]
   show prA L _ k ++ (prK L _ k k i ++ _)=_;rw[if_neg (λ c=>e (by rw[h]at c;have:=Int.ofNat.inj c;omega)),List.append_nil]
  ·rw[if_neg h10,if_neg h10]
theorem prR_len(L:List Pt)(k i j:Nat):(prR L k i j).length<=2*k+i:=by
 unfold prR;split
 ·rw[List.length_append]
  have:=prA_len L ((j / 10:Nat):Int) k;have:=prK_len L ((j / 10:Nat):Int) (k:Int) k i;omega
 ·simp
def GsF(lo hi:Nat)(W:World)(q:Option Addr)(g:List (List Int)):Prop:=∃ W0:World,W0.heap.size=hi/\GsB lo W0 q g/\hi<=W.heap.size/\∀ b,lo<=b->b<hi->W.heap[b]?=W0.heap[b]?
theorem GsF.next{lo hi:Nat}{W W':World}{q:Option Addr}{g:List (List Int)}(h:GsF lo hi W q g)(hs:W.heap.size<=W'.heap.size)(hb:∀ b,lo<=b->b<hi->W'.heap[b]?=W.heap[b]?):GsF lo hi W' q g:=by
 obtain⟨W0,h1,h2,h3,h4⟩:=h;exact⟨W0,h1,h2,Nat.le_trans h3 hs,λ b h5 h6=>(hb b h5 h6).trans (h4 b h5 h6)⟩
theorem GsF.gsB{lo hi:Nat}{W:World}{q:Option Addr}{g:List (List Int)}(h:GsF lo hi W q g):GsB lo W q g:=by
 obtain⟨W0,h1,h2,h3,h4⟩:=h;refine⟨λ i hi'=>?_⟩;obtain⟨b,p,c,e,hb,hl,hc,hn,hp⟩:=h2.cells i hi';refine⟨b,p,c,e,hb,by omega,(World.cell?_of_block (a:=⟨b,i,none⟩) (h4 b hb (by omega))).trans hc,⟨hn.small,λ j hj=>?_⟩,hp⟩;obtain⟨b2,o2,e2,hl2,hc2⟩:=hn.cells j hj;exact⟨b2,o2,e2,by omega,(World.cell?_of_block (a:=⟨b2,o2+j,none⟩) (h4 b2 (hp _ e2) (by omega))).trans hc2⟩
theorem GsB.gsF{lo:Nat}{W:World}{q:Option Addr}{g:List (List Int)}(h:GsB lo W q g):GsF lo W.heap.size W q g:=⟨W,rfl,h,Nat.le_refl _,λ _ _ _=>rfl⟩
theorem GsB.at{lo:Nat}{W:World}{q:Option Addr}{g:List (List Int)}(h:GsB lo W q g):GsAt W q g :=
 ⟨λ i hi=>by
  obtain⟨b,p,c,e,_,hl,hc,hn,_⟩:=h.cells i hi;exact⟨b,0,p,c,e,hl,by rw[Nat.zero_add];exact hc,hn⟩⟩
theorem GsF.at{lo hi:Nat}{W:World}{q:Option Addr}{g:List (List Int)}(h:GsF lo hi W q g):GsAt W q g:=h.gsB.at
structure Ly(w W:World)(k:Lk)(P:Nat->Option Addr)(C:Nat->Nat):Prop where
 low:Below w.heap.size w W
 mbw:w.heap.size<=k.mb
 mbb:k.mb<k.bb
 bgp:k.bb<k.gp
 gzs:k.gp<k.zs
 zgs:k.zs<=k.gs
 gzp:k.gs<k.zp
 zpW:k.zp<=W.heap.size
 fb:∀ j,W.frozen? ⟨k.bb,j,none⟩=false
 c0:W.cell? ⟨k.bb,0,none⟩=some (.slice k.q k.l.length k.qc)
 c1:W.cell? ⟨k.bb,1,none⟩=some (.slice k.qB k.B.length k.cB)
 c2:W.cell? ⟨k.bb,2,none⟩=some (.int .i64 (k.a:Int))
 c3:W.cell? ⟨k.bb,3,none⟩=some (.slice (some ⟨k.gp,0,none⟩) k.n k.cap)
 c4:W.cell? ⟨k.bb,4,none⟩=some (.int .i64 0)
 c5:W.cell? ⟨k.bb,5,none⟩=some (.slice (some ⟨k.gs,0,none⟩) k.n k.n)
 c6:W.cell? ⟨k.bb,6,none⟩=some (.slice none 0 0)
 c7:W.cell? ⟨k.bb,7,none⟩=some (.map (some k.mb))
 su:GsF k.zs k.zp W (some ⟨k.gs,0,none⟩) (bF k.L)
 ms:Ms W k.mb 0 (λ _ _=>none)
 sr:Sr k.zp W k.gp (tens k.n) (prR k.L k.n 0) P C
 cl:∀ i e,k.E[i]?=some e->∀ j,1<=j->j<10->∀ v,(dX e)[j]?=some v->W.cell? ⟨k.gp,i*10+j,none⟩=some v
def LayQ(w:World)(q:Option Addr)(qc:Nat)(l:List In)(qB:Option Addr)(cB:Nat)(B:List Bk)(a:Nat)(e:Ending)(w':World):Prop :=
 ∃ k P C,e=.returned (.pointer (some ⟨k.bb,0,none⟩))/\k.q=q/\k.qc=qc/\k.l=l/\k.qB=qB/\k.cB=cB/\k.B=B/\k.a=a/\Ly w w' k P C
structure Lr(w1 W:World)(gp n:Nat)(r:Nat->List Int)(P:Nat->Option Addr)(C:Nat->Nat):Prop where
 ch:Chg w1.heap.size (λ b=>b=gp) w1 W
 sr:Sr w1.heap.size W gp (tens n) r P C
 og:∀ o,o % 10≠0->W.cell? ⟨gp,o,none⟩=w1.cell? ⟨gp,o,none⟩
theorem Lr.next{w1 W W':World}{gp n:Nat}{r:Nat->List Int}{P:Nat->Option Addr}{C:Nat->Nat}(h:Lr w1 W gp n r P C)(hb:Below W.heap.size W W'):Lr w1 W' gp n r P C :=
 ⟨h.ch.grown (below_grown hb) h.ch.size (λ _ e=>by cases e),h.sr.next hb,λ o ho=>(hb.cell (p:=⟨gp,o,none⟩) h.sr.bl).trans (h.og o ho)⟩
theorem Lr.app{w1 W W':World}{gp n t m m' c':Nat}{r:Nat->List Int}{P:Nat->Option Addr}{C:Nat->Nat}{q':Option Addr}{l:List Int}(h:Lr w1 W gp n r P C)(ht:t<n)(ho:W'.ownsRow w1.heap.size 3 1 (.slice q' m c') l.length (aX l))(hm:m=l.length)
  (hg:W.grownBy W' (Value.slice (P (t*10)) m' (C (t*10))).ownBlock) (hb:(Value.slice q' m c').ownBlock=(Value.slice (P (t*10)) m' (C (t*10))).ownBlock∨(Value.slice q' m c').ownBlock=some W.heap.size) :
  Lr w1 (W'.setCell ⟨gp,t*10,none⟩ (.slice q' m c')) gp n (up1 r (t*10) l) (up1 P (t*10) q') (up1 C (t*10) c'):=by
 have hj:t*10∈tens n:=mem_tens.2 ⟨t,ht,rfl⟩;refine⟨app_chg h.sr hj hg h.ch h.ch.size (λ k hk=>.inl hk) (.inr rfl) _,h.sr.app hj ho hm hg hb,λ o ho=>?_⟩;rw[aH]at hg;exact(bO (aM (.inr (by omega)))).trans ((World.cell?_of_block (a:=⟨gp,o,none⟩) (hg.block gp h.sr.bl (λ e=>h.sr.ne _ hj e.symm))).trans (h.og o ho))
theorem Lr.start{w W:World}{bb mb:Nat}{q:Option Addr}{qn qc:Nat}{qB:Option Addr}{nB cB a:Nat}{E:List Te}{gp c:Nat}(h:Lyq w W bb mb q qn qc qB nB cB a E (some ⟨gp,0,none⟩) c)(w1:World)(hb:w1.heap[gp]?=W.heap[gp]?)(hs:W.heap.size<=w1.heap.size) :
  Lr w1 w1 gp E.length (λ _=>[]) (λ _=>none) (λ _=>0)/\(∀ i e,E[i]?=some e->∀ j,1<=j->j<10->∀ v,(dX e)[j]?=some v->w1.cell? ⟨gp,i*10+j,none⟩=some v)/\gp<w1.heap.size/\bb<gp:=by
 have ho:=h.own;have hl:=ho.lt gp (by rw[aH];rfl);have hc:∀ o,w1.cell? ⟨gp,o,none⟩=W.cell? ⟨gp,o,none⟩:=λ o=>World.cell?_of_block (a:=⟨gp,o,none⟩) hb
 have hx:∀ i e,E[i]?=some e->∀ j,j<10->∀ v,(dX e)[j]?=some v->w1.cell? ⟨gp,i*10+j,none⟩=some v:=λ i e he j hj v hv=>by
  have hi:i<E.length:=by
   rcases Nat.lt_or_ge i E.length with c|c
   ·exact c
   ·rw[List.getElem?_eq_none c]at he;cases he
  rw[hc,ho.cellAt (i*10+j) (by omega)];exact(flat_get dX 10 bareV_len E i j _ he hj).trans hv
 refine⟨⟨Chg.refl _ _ _,⟨by omega,λ j=>(World.frozen?_of_block (a:=⟨gp,j,none⟩) hb).trans (ho.frozenAt j),λ j hj=>?_,λ j _=>World.ownsRow_nil _ _ _ _,λ j _=>by simp,λ j _ k _ _=>.inl rfl⟩,λ _ _=>rfl⟩,λ i e he j _ hj v hv=>hx i e he j hj v hv,by omega,by omega⟩;obtain⟨i,hi,rfl⟩:=mem_tens.1 hj;exact hx i _ (List.getElem?_eq_getElem hi) 0 (by omega) _ rfl
theorem layE_rng{l:List In}{a:Nat}{B:List Bk}(ha:a<=1)(hB0:0<B.length)(hsu:∀ k,k<B.length->∀ s∈(bk B k).su,0<=s/\s<(B.length:Int)):∀ k,k<(layE l a B).length->∀ s∈aY (pt (layP l a B) k).en,0<=s/\s<((layE l a B).length:Int):=by
 intro k hk s hs
 have hn:(layE l a B).length=a+B.length:=by
  unfold layE;rw[List.length_append,List.length_map];split
  ·rename_i h;subst h;rfl
  ·have:a=0:=by omega
   subst this;rfl
 have hp:pt (layP l a B) k=bare ((layE l a B)[k]'hk):=by
  unfold pt layP;rw[List.getD_eq_getElem?_getD,List.getElem?_map,List.getElem?_eq_getElem hk];rfl
 rw[hp]at hs;have hmem:(layE l a B)[k]'hk∈layE l a B:=List.getElem_mem hk;rw[hn];generalize (layE l a B)[k]'hk=e at *;unfold layE at hmem;rw[List.mem_append,List.mem_map]at hmem;rcases hmem with h|⟨x,hx,rfl⟩
 ·split at h
  ·rename_i h1
   subst h1;simp at h;subst h;have:s=1:=by simpa[aY,bare]using hs
   omega
  ·cases h
 ·obtain⟨i,hi,rfl⟩:=List.getElem_of_mem hx
  have hb:bk B i=B[i]:=by unfold bk;rw[List.getD_eq_getElem?_getD,List.getElem?_eq_getElem hi];rfl
  have h2:=hsu i hi;rw[hb]at h2;unfold endB bare at hs;generalize (B[i]).su=su at *
  match su,h2,hs with
  | [],_,hs=>simp[aY]at hs
  | [x],h2,hs =>
   have:=h2 x (by simp);have:s=x+a:=by simpa[aY]using hs
   omega
  | x :: y :: _,h2,hs =>
   have h3:=h2 x (by simp);have h4:=h2 y (by simp);have:s=y+a∨s=x+a:=by simpa[aY]using hs
   omega
noncomputable def spB(E:List (List Int))(parts:List Int)(p:Nat):Bool:=@decide (J.Sp E parts (p:Int)) (Classical.propDecidable _)
theorem spB_iff{E:List (List Int)}{parts:List Int}{p:Nat}:spB E parts p=true↔J.Sp E parts (p:Int):=by
 unfold spB;exact @decide_eq_true_iff _ (Classical.propDecidable _)
noncomputable def eH(E:List (List Int))(A:Nat->List Int)(k p:Nat):List Int:=((List.range k).filter λ x=>spB E (A x) p).map Int.ofNat
theorem meetL_yes{E:List (List Int)}{A:Nat->List Int}{k p:Nat}(h:spB E (A k) p=true):eH E A (k+1) p=eH E A k p ++ [(k:Int)]:=by
 unfold eH;rw[List.range_succ,List.filter_append,List.filter_cons,if_pos h,List.map_append];rfl
theorem meetL_no{E:List (List Int)}{A:Nat->List Int}{k p:Nat}(h:¬ spB E (A k) p=true):eH E A (k+1) p=eH E A k p:=by
 unfold eH;rw[List.range_succ,List.filter_append,List.filter_cons,if_neg h,List.map_append];simp
theorem meetL_len(E:List (List Int))(A:Nat->List Int)(k p:Nat):(eH E A k p).length<=k:=by
 unfold eH;rw[List.length_map];exact Nat.le_trans (List.length_filter_le ..) (by simp)
theorem meetL_mem{E:List (List Int)}{A:Nat->List Int}{k p:Nat}{x:Int}:x∈eH E A k p↔∃ r:Nat,x=(r:Int)/\r<k/\J.Sp E (A r) (p:Int):=by
 unfold eH;rw[List.mem_map];constructor
 ·rintro⟨r,h,e⟩
  rw[List.mem_filter,List.mem_range,spB_iff]at h;exact⟨r,e.symm,h⟩
 ·rintro⟨r,e,h⟩
  exact⟨r,by rw[List.mem_filter,List.mem_range,spB_iff];exact h,e.symm⟩
noncomputable def dV(E:List (List Int))(A:Nat->List Int)(k i:Nat):Nat->List Int:=λ p=>if p<i then eH E A (k+1) p else eH E A k p
theorem meetR_0(E:List (List Int))(A:Nat->List Int)(k:Nat):dV E A k 0=eH E A k:=by
 funext p;unfold dV;rw[if_neg (Nat.not_lt_zero _)]
theorem meetR_yes{E:List (List Int)}{A:Nat->List Int}{k i:Nat}(h:spB E (A k) i=true):dV E A k (i+1)=up1 (dV E A k i) i (dV E A k i i ++ [(k:Int)]):=by
 funext p
 by_cases e:p=i
 ·subst e
  rw[cC];unfold dV;rw[if_pos (Nat.lt_succ_self _),if_neg (Nat.lt_irrefl _),meetL_yes h]
 ·rw[bW _ _ _ e]
  unfold dV;by_cases c:p<i
  ·rw[if_pos c,if_pos (by omega)]
  ·rw[if_neg c,if_neg (by omega)]
theorem meetR_no{E:List (List Int)}{A:Nat->List Int}{k i:Nat}(h:¬ spB E (A k) i=true):dV E A k (i+1)=dV E A k i:=by
 funext p
 unfold dV;by_cases e:p=i
 ·subst e
  rw[if_pos (Nat.lt_succ_self _),if_neg (Nat.lt_irrefl _),meetL_no h]
 ·by_cases c:p<i
  ·rw[if_pos c,if_pos (by omega)]
  ·rw[if_neg c,if_neg (by omega)]
theorem meetR_len(E:List (List Int))(A:Nat->List Int)(k i p:Nat):(dV E A k i p).length<=k+1:=by
 unfold dV;split
 ·exact meetL_len _ _ _ _
 ·exact Nat.le_succ_of_le (meetL_len _ _ _ _)
theorem Sr.congr{base b:Nat}{W:World}{js:List Nat}{r r':Nat->List Int}{q:Nat->Option Addr}{c:Nat->Nat}(h:Sr base W b js r q c)(hr:∀ j∈js,r' j=r j):Sr base W b js r' q c :=
 ⟨h.bl,h.fz,λ j hj=>by rw[hr j hj];exact h.cl j hj,λ j hj=>by rw[hr j hj];exact h.own j hj,h.ne,h.ap⟩
theorem Sr.low{base base' b:Nat}{W:World}{js:List Nat}{r:Nat->List Int}{q:Nat->Option Addr}{c:Nat->Nat}(h:Sr base W b js r q c)(hb:base'<=base):Sr base' W b js r q c :=
 ⟨h.bl,h.fz,h.cl,λ j hj=>own_low (h.own j hj) hb,h.ne,h.ap⟩
def cutW(w:World)(s:Nat):World:={ w with heap:=w.heap.extract 0 s }
theorem cutW_size{w:World}{s:Nat}(h:s<=w.heap.size):(cutW w s).heap.size=s:=by
 simp[cutW];omega
theorem cutW_get{w:World}{s b:Nat}(h:s<=w.heap.size)(hb:b<s):(cutW w s).heap[b]?=w.heap[b]?:=by
 simp[cutW,Array.getElem?_extract];omega
theorem cutW_below{w:World}{s:Nat}(h:s<=w.heap.size):Below (cutW w s).heap.size (cutW w s) w :=
 ⟨rfl,rfl,rfl,by rw[cutW_size h];exact h,λ k hk=>(cutW_get h (by rw[cutW_size h]at hk;exact hk)).symm⟩
theorem GsF.move{lo hi:Nat}{W W':World}{q:Option Addr}{g:List (List Int)}(h:GsF lo hi W q g)(hs:hi<=W'.heap.size)(hb:∀ b,lo<=b->b<hi->W'.heap[b]?=W.heap[b]?):GsF lo hi W' q g:=by
 obtain⟨W0,h1,h2,_,h4⟩:=h;exact⟨W0,h1,h2,hs,λ b h5 h6=>(hb b h5 h6).trans (h4 b h5 h6)⟩
theorem Chg.wide{B:Nat}{X X':Nat->Prop}{w W:World}(h:Chg B X w W)(hX:∀ k,X k->X' k):Chg B X' w W:=⟨h.os,h.tape,h.output,h.size,λ k hk hx=>h.block k hk (λ c=>hx (hX k c))⟩
structure Mw(w3 W:World)(lo s2 gh n k:Nat)(qE:Option Addr)(E:List (List Int))(PA:Nat->Option Addr)(CA:Nat->Nat)(A:Nat->List Int)(r:Nat->List Int)(P:Nat->Option Addr)(C:Nat->Nat):Prop where
 ch:Chg w3.heap.size (λ b=>b=gh∨∃ j,j<k/\j<11/\(PA j).map Addr.block=some b) w3 W
 sr:Sr w3.heap.size W gh (List.range n) r P C
 st:∀ j,k<=j->j<11->W.ownsRow s2 3 1 (.slice (PA j) (A j).length (CA j)) (A j).length (aX (A j))
 es:GsF lo s2 W qE E
structure Mc(w3:World)(lo s2 gh:Nat)(PA:Nat->Option Addr):Prop where
 ghl:gh<lo
 los:lo<=s2
 s23:s2<=w3.heap.size
 pa:∀ j,j<11->∀ b,(PA j).map Addr.block=some b->s2<=b/\b<w3.heap.size
 ap:∀ j,j<11->∀ k,k<11->j≠k->PA j=none∨(PA j).map Addr.block≠(PA k).map Addr.block
section
variable {w3 W W':World} {lo s2 gh n k:Nat} {qE:Option Addr} {E:List (List Int)} {PA:Nat->Option Addr} {CA:Nat->Nat} {A:Nat->List Int} {r:Nat->List Int} {P:Nat->Option Addr} {C:Nat->Nat}
theorem Mw.next(h:Mw w3 W lo s2 gh n k qE E PA CA A r P C)(hc:Mc w3 lo s2 gh PA)(hb:Below W.heap.size W W'):Mw w3 W' lo s2 gh n k qE E PA CA A r P C :=
 ⟨h.ch.grown (below_grown hb) h.ch.size (λ _ e=>by cases e),h.sr.next hb,λ j h1 h2=>own_below (h.st j h1 h2) hb,h.es.next hb.size (λ b _ h2=>hb.block b (by have:=hc.s23;have:=h.ch.size;omega))⟩
theorem Mw.spr(h:Mw w3 W lo s2 gh n k qE E PA CA A r P C)(hc:Mc w3 lo s2 gh PA)(hk:k<11)(hg:W.grownBy W' ((PA k).map Addr.block)):Mw w3 W' lo s2 gh n (k+1) qE E PA CA A r P C:=by
 have hgl:=hc.ghl;have hls:=hc.los;have h23:=hc.s23;have hcs:=h.ch.size;refine⟨(h.ch.wide (X':=λ b=>b=gh∨∃ j,j<k+1/\j<11/\(PA j).map Addr.block=some b) (λ b hb=>hb.imp id (λ ⟨j,h1,h2⟩=>⟨j,by omega,h2⟩))).grown hg hcs (λ b e=>.inr (.inr ⟨k,Nat.lt_succ_self _,hk,e⟩)),?_,λ j h1 h2=>?_,h.es.next hg.size (λ b h1 h2=>hg.block b (by omega) (λ e=>by have:=(hc.pa k hk b e.symm).1;omega))⟩
 ·refine h.sr.grown hg (λ e=>by have:=(hc.pa k hk gh e).1;omega) (λ j hj b e e2=>?_)
  have:=(hc.pa k hk b e).2;have:=(h.sr.blk hj e2).1;omega
 ·refine(h.st j (by omega) h2).kept hg ?_
  rw[aH];rcases hc.ap j h2 k hk (by omega)with e|e
  ·rw[e];exact .inl rfl
  ·exact .inr e
theorem Mw.app{i m m' c':Nat}{q':Option Addr}{l:List Int}(h:Mw w3 W lo s2 gh n k qE E PA CA A r P C)(hc:Mc w3 lo s2 gh PA)(hi:i<n)(ho:W'.ownsRow w3.heap.size 3 1 (.slice q' m c') l.length (aX l))(hm:m=l.length)
  (hg:W.grownBy W' (Value.slice (P i) m' (C i)).ownBlock) (hb:(Value.slice q' m c').ownBlock=(Value.slice (P i) m' (C i)).ownBlock∨(Value.slice q' m c').ownBlock=some W.heap.size) :
  Mw w3 (W'.setCell ⟨gh,i,none⟩ (.slice q' m c')) lo s2 gh n k qE E PA CA A (up1 r i l) (up1 P i q') (up1 C i c'):=by
 have hj:i∈List.range n:=List.mem_range.2 hi;have hgl:=hc.ghl;have hls:=hc.los;have h23:=hc.s23;have hcs:=h.ch.size;have hch:=app_chg h.sr hj hg h.ch hcs (λ b hb=>.inl hb) (.inr (.inl rfl)) (.slice q' m c');have hsr:=h.sr.app hj ho hm hg hb;rw[aH]at hg;refine⟨hch,hsr,λ j h1 h2=>aP (a:=⟨gh,i,none⟩) ((h.st j h1 h2).kept hg ?_) ?_,h.es.next (by have:=hg.size;simpa[World.setCell]using this) (λ b h1 h2=>(Below.heap_setCell W' ⟨gh,i,none⟩ _ b (by show b≠gh;omega)).trans (hg.block b (by omega) (λ e=>by have:=(h.sr.blk hj e.symm).1;omega)))⟩
 ·rw[aH]
  cases hq:(PA j).map Addr.block with
  | none=>exact .inl rfl
  | some b =>
   refine .inr (λ e=>?_);have h3:=(hc.pa j h2 b hq).2;have:=(h.sr.blk hj e.symm).1;omega
 ·rw[aH]
  exact λ e=>by have:=(hc.pa j h2 gh e).1;omega
end
end Go.Proofs.YtkfahppdklecdaaGreatDoor.J
