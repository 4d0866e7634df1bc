import Derived.Test.YtkfahppdklecdaaGreatDoorZ20
import Derived.Test.YtkfahppdklecdaaGreatDoorZ31
set_option maxRecDepth 100000
set_option maxHeartbeats 16000000
namespace Go.Proofs.YtkfahppdklecdaaGreatDoor.J
open Go.RowKit
open Dm
structure GsB(B:Nat)(w:World)(q:Option Addr)(g:List (List Int)):Prop where
 cells:∀ i,i<g.length->∃ b p c,q=some ⟨b,0,none⟩/\B<=b/\b<w.heap.size/\w.cell? ⟨b,i,none⟩=some (.slice p (g.getD i []).length c)/\NumsAt .i64 w p (g.getD i [])/\∀ ad,p=some ad->B<=ad.block
theorem Sr.gsB{base b N B:Nat}{W:World}{r:Nat->List Int}{q:Nat->Option Addr}{c:Nat->Nat}(h:Sr base W b (List.range N) r q c)(hs:∀ j,(r j).length<=1048576)(hb:B<=b)(hB:B<=base):GsB B W (some ⟨b,0,none⟩) (wt N r):=by
 refine⟨λ a ha=>?_⟩;have ha':a<N:=by simpa[wt]using ha
 rw[wt_get ha'];refine⟨b,q a,c a,rfl,hb,h.bl,h.cl a (List.mem_range.2 ha'),h.nums (List.mem_range.2 ha') (Nat.le_trans (hs a) (by omega)),λ ad e=>?_⟩;have:=(h.blk (List.mem_range.2 ha') (k:=ad.block) (by rw[e];rfl)).1;omega
def RowsB(l:List (List Int))(w:World)(e:Ending)(w':World):Prop :=
 ∃ p c,e=.returned (.slice p l.length c)/\GsB w.heap.size w' p l/\Below w.heap.size w w'
theorem frK_len(g:List (List Int))(k a:Nat):(frK g k a).length<=k:=by
 unfold frK;rw[List.length_map];exact Nat.le_trans (List.length_filter_le ..) (by simp)
theorem Fm.start{z w2:World}{gr gl N M:Nat}{W:World}{res:List Int}(hb2:Below z.heap.size z w2)(ho:w2.ownsRow z.heap.size 3 1 (.slice (some ⟨gr,0,none⟩) M M) M (aX res))(hb3:Below (w2.alloc (.cells (madeCells #[.slice none 0 0] N) 34)).heap.size (w2.alloc (.cells (madeCells #[.slice none 0 0] N) 34)) W)(hgl:(w2.alloc (.cells (madeCells #[.slice none 0 0] N) 34)).heap.size<=gl)(hr:W.heap[gl]?=some (.cells (rpc (-1) M M).toArray 3 (0,0)))(hM:M<=1048576) :
  Fm z W w2.heap.size gl gr N M (λ _=>[]) (λ _=>none) (λ _=>0) (List.replicate M (-1)) res:=by
 have s2:=hb2.size;have sz:(w2.alloc (.cells (madeCells #[.slice none 0 0] N) 34)).heap.size=w2.heap.size+1:=World.size_alloc ..;have l2:=ho.lt gr rfl;have hl:=gM (W:=W) (base:=z.heap.size) (N:=M) (l:=List.replicate M (-1)) (by omega) hr (by rw[rpc_ints]) (by simp) hM;rw[List.length_replicate]at hl;exact⟨(Sr.rows z.heap.size w2 N).next hb3,hl,own_below (ho.alloc _) hb3,s2,by omega,by omega,by omega,λ j _ k e=>by simp at e,(hb2.trans ((b1 (w:=w2)).mono s2)).trans (hb3.mono (by omega))⟩
theorem sfront_any(q:Option Addr)(qc:Nat)(g:List (List Int))(w:World)(h:GsAt w q g)(hN:g.length<=999)(hT:tot g<=4096)(hW:Wd g):Calls Tryz.prog 53 #[.slice q g.length qc] w (RowsB (frontL g) w):=by
 have H1:Hid (∀ W,Below w.heap.size w W->Calls Tryz.prog 99 #[.slice q g.length qc,.int .i64 (-1)] W (WkP W (wkS g (-1)))):=aQ (λ W hb=>swalk_any q qc g (-1) W (h.below hb) (by omega) (by omega));have hwf:=wkS_wf (g:=g) (cl:=-1) (by omega);have HNM:=aQ (wkS_nm (g:=g) (by omega));obtain⟨hi,hTr,hfr⟩:=wkS_tree (g:=g) (by omega)
 have HD:Hid (∀ z W gw gl gr M rw qw cw last res,Fr0 g (wkS g (-1)) g.length (wt g.length rw) last->Fm z W gw gl gr g.length M rw qw cw last res->Below w.heap.size w z->RowsB (frontL g) w (.returned (.slice (some ⟨gw,0,none⟩) g.length g.length)) W):=aQ (λ z W gw gl gr M rw qw cw last res h1 h2 h3=>by
  have hl:(wt g.length rw).length=g.length:=h1.rl
  have hb:∀ j,j<g.length->(rw j).length<=1048576:=λ j hj=>by
   have:=h1.is j hj;rw[wt_get hj]at this;rw[this];have:=frK_len g g.length j;omega
  have hs:Sr z.heap.size W gw (List.range g.length) (λ j=>if j<g.length then rw j else []) qw cw:=by
   refine⟨h2.sw.bl,h2.sw.fz,λ j hj=>?_,λ j hj=>?_,h2.sw.ne,h2.sw.ap⟩
   ·rw[if_pos (List.mem_range.1 hj)];exact h2.sw.cl j hj
   ·rw[if_pos (List.mem_range.1 hj)];exact h2.sw.own j hj
  have hg:=hs.gsB (B:=w.heap.size) (λ j=>by
   by_cases c:j<g.length
   ·rw[if_pos c];exact hb j c
   ·rw[if_neg c];exact Nat.zero_le _) (Nat.le_trans h3.size h2.bw) h3.size
  have e:wt g.length (λ j=>if j<g.length then rw j else [])=wt g.length rw:=by
   unfold wt;refine List.map_congr_left (λ j hj=>?_);rw[if_pos (List.mem_range.1 hj)]
  rw[e]at hg;have e2:=h1.done;rw[e2]at hg hl;rw[<- hl];exact⟨_,_,rfl,hg,h3.trans (h2.bl.mono h3.size)⟩)
 generalize RowsB (frontL g) w=Q at *;obtain⟨S,hS⟩:∃ S,wkS g (-1)=S:=⟨_,rfl⟩;rw[hS]at H1 HNM HD hwf hTr hfr;have HNM':=HNM;have HTR:=aQ hTr;have HPR:Hid (∀ W b,Below w.heap.size w W->Tt w.heap.size W b S->Calls Tryz.prog 100 #[.pointer (some ⟨b,0,none⟩),.slice q g.length qc] W (PrP W (λ i=>g.getD i []) S)):=aQ (λ W b hb ht=>spreds_any q qc g W (h.below hb) hN hT hW ht HNM.out.nd HNM.out.lt (by omega))
 have HAB:Hid (∀ W B' b gp r P C,Tt w.heap.size W b S->Sr B' W gp (List.range S.nodes.length) r P C->(∀ j,j<S.nodes.length->∀ x,x∈r j↔∃ p:Nat,x=(p:Int)/\(gN (λ i=>g.getD i []) S).e p j)->(∀ j,(r j).length<=134217728)->Calls Tryz.prog 101 #[.pointer (some ⟨b,0,none⟩),.slice (some ⟨gp,0,none⟩) S.nodes.length S.nodes.length] W (AbQ W (gN (λ i=>g.getD i []) S))):=aQ (λ W B' b gp r P C ht hp hr hl =>
  sabove_any (G:=gN (λ i=>g.getD i []) S) HTR.out W ht hwf.2.1 hfr hp hr hl (by show S.nodes.length<=_;omega))
 have HUP:Hid (∀ res,res.length=S.nodes.length->(∀ n,n<S.nodes.length->(gN (λ i=>g.getD i []) S).Up n (res.getD n 0))->Ups (gN (λ i=>g.getD i []) S) res):=aQ (λ res h1 h2=>ups_of HTR.out h1 h2);have HI0:=aQ (Fr0.start g S);obtain⟨M,hM⟩:∃ M,S.nodes.length=M:=⟨_,rfl⟩;have HMD:=aQ hM;have HML:Hid ((S.nodes.map Int.ofNat).length=M):=aQ ((List.length_map ..).trans hM);obtain⟨N,hNl⟩:∃ N,g.length=N:=⟨_,rfl⟩;have HNL:=aQ hNl;have hMN:=hwf.1
 have HLT:Hid (∀ k,k<M->S.nodes.getD k 0<N/\(S.nodes.map Int.ofNat).getD k 0=((S.nodes.getD k 0:Nat):Int)):=aQ (λ k hk=>⟨by rw[<- HNL.out];exact HNM.out.lt _ (bV (by rw[HMD.out];exact hk)),by
  rw[List.getD_eq_getElem?_getD,List.getD_eq_getElem?_getD,List.getElem?_map,List.getElem?_eq_getElem (by rw[HMD.out];exact hk)];rfl⟩)
 have HREP:Hid (∀ (k:Nat) (W:World),W.heap[k]?=some (.cells #[.int .i64 (-1)] 3 (0,0))->Calls Tryz.prog 102 #[.slice (some ⟨k,0,none⟩) 1 1,.int .i64 (M:Int)] W λ e w'=>∃ g,e=.returned (.slice (some ⟨g,0,none⟩) M M)/\W.heap.size<=g/\w'.heap[g]?=some (.cells (rpc (-1) M M).toArray 3 (0,0))/\Below W.heap.size W w'):=aQ (λ k W h=>rep_any _ 1 (-1) M W (by omega) ⟨by simp,λ i hi=>⟨k,0,rfl,(Array.getElem?_eq_some_iff.1 h).1,by
  have:i=0:=by simpa using hi
  subst this;simp[World.cell?,h]⟩⟩)
 have HN9:Hid (∀ W:World,(W.alloc (.cells #[.int .i64 (-1)] 3)).heap[W.heap.size]?=some (.cells #[.int .i64 (-1)] 3 (0,0))):=aQ (λ W=>dL _ _);have HWK:=aQ (H1.out w (Below.refl _ _));unfold WkP at HWK;unfold PrP at HPR;unfold AbQ at HAB;have hGN:(gN (λ i=>g.getD i []) S).N=S.nodes.length:=rfl;rw[hGN]at HAB;rw[hM]at HPR HAB HUP hMN HI0;rw[hNl]at HWK HPR HD HI0 hMN hN ⊢;clear h hwf hTr hfr hW hT hS hM hNl H1 hGN;have hmk:=λ W=>run_make_row' (P:=Tryz.prog) 72 34 (.slice none 0 0) 24 Tryz.underlying72 infoInts rfl .i64 .i64 N (by omega) (by omega) W
 have hn:∀ {W:World} {k:Nat} {o:Obj},W.heap.size=k->(W.alloc o).heap[k]?=some o:=λ {W k o} e=>by subst e;exact dL _ _
 go_enter Tryz.func53,Tryz.ntmps53
 go_wp2_with (first
  | (go_at_call 99;(with_reducible refine HWK.out.mono ?_);rintro e w1 ⟨b,ql,cq,rfl,_,htt,_,_,hb1⟩;have HTT:=aQ htt;have HB1:=aQ hb1;clear htt hb1)
  | (go_at_call 102;(with_reducible refine(HREP.out _ _ (by first|exact HN9.out _|exact hn (by simp))).mono ?_);rintro e w5 ⟨gl,rfl,hgl,hu,hb5⟩;have HGL:=aQ hgl;have HU:=aQ hu;have HB5:=aQ hb5;clear hgl hu hb5)
  | (go_at_call 100;(with_reducible refine(HPR.out _ _ HB1.out HTT.out).mono ?_);rintro e w3 ⟨gp,r,P,C,rfl,_,hp,hr,hln,hb3⟩;have HP:=aQ hp;have HR:=aQ hr;have HLN:=aQ hln;have HB3:=aQ hb3;have HT3:=aQ (HTT.out.next hb3);clear hp hr hln hb3)
  | (go_at_call 101;(with_reducible refine(HAB.out _ _ _ _ _ _ _ HT3.out HP.out HR.out HLN.out).mono ?_);rintro e w4 ⟨gr,res,rfl,hor,hrl,hup,hb4⟩;have HOR:=aQ hor;have HRL:=aQ hrl;have HU4:=aQ (HUP.out res hrl hup);have HB4:=aQ hb4;have htx:=HT3.out.next hb4;obtain⟨q1,c1,d1,n1,_⟩:=htx.r1;have lbt:=htx.bl;rw[HMD.out]at d1;clear hor hrl hup hb4 htx n1))
 have HFM0:Hid (Fm w3 w5 w4.heap.size gl gr N M (λ _=>[]) (λ _=>none) (λ _=>0) (List.replicate M (-1)) res):=aQ (Fm.start HB4.out HOR.out ((b1 (w:=w4.alloc (.cells (madeCells #[.slice none 0 0] N) 34))).trans (HB5.out.mono (by simp))) (by have:=HGL.out;simp at this ⊢;omega) HU.out (by omega));have HTTW:Hid (∀ W,Below w3.heap.size w3 W->Tt w.heap.size W b S):=aQ (λ W hb=>HT3.out.next hb);have HPW:Hid (∀ W,Below w3.heap.size w3 W->Sr w1.heap.size W gp (List.range M) r P C):=aQ (λ W hb=>HP.out.next hb);have HZ:Hid (Below w.heap.size w w3):=aQ (HB1.out.trans (HB3.out.mono HB1.out.size));have HF0:Hid (Fr0 g S 0 (wt N (λ _=>[])) (List.replicate M (-1))):=aQ (by have:=HI0.out;rw[wt_nil];exact this);have HNS:Hid (∀ i,i<M->S.nodes.getD i 0<N):=aQ (λ i hi=>(HLT.out i hi).1);obtain⟨gw,hgw⟩:∃ gw,w4.heap.size=gw:=⟨_,rfl⟩;rw[hgw]at HFM0 ⊢;clear HREP HN9 HPR HAB HWK HUP HT3 HU HOR HB3 HB4 HB5 HGL hn hmk HI0 HTT HB1 HP d1 lbt
 go_loopw [33] (λ u wr=>∃ (x:Nat) (rw:Nat->List Int) (qw:Nat->Option Addr) (cw:Nat->Nat) (last:List Int),x<=N/\u=.int .i64 (x:Int)/\Hid (Fr0 g S x (wt N rw) last)/\Hid (Fm w3 wr gw gl gr N M rw qw cw last res)) (λ u _=>N - (RowKit.intOf u).toNat)
 case atStart=>exact⟨0,_,_,_,_,Nat.zero_le _,rfl,HF0,HFM0⟩
 case round =>
  clear HF0 HFM0;obtain⟨x,rw',qw,cw,last,hx,rfl,HF,HFM⟩:=hrel;by_cases hxN:x<N
  ·have htt:=HTTW.out wr HFM.out.bl
   have lbt:=htt.bl;obtain⟨mm,nn,f,dm,hmp,hnf,_⟩:=htt.mp;have HMP:=aQ hmp;have hxw:(lit (x:Int)).wf=true:=dK (by omega) (by omega);by_cases hc:∃ i,i<M/\S.nodes.getD i 0=x
   ·obtain⟨i,hiM,hix⟩:=hc
    have hfx:f (x:Int)=some (i:Int):=by
     have:=hnf.is i (by rw[HMD.out];exact hiM)
     rwa [hix]at this
    have hp:=HPW.out wr HFM.out.bl;have dp:=hp.cl i (List.mem_range.2 hiM);have lp:=hp.bl;obtain⟨rl,hrl⟩:∃ l,(r i).length=l:=⟨_,rfl⟩;have HRLN:Hid ((r i).length=rl/\rl<=134217728):=aQ ⟨hrl,by rw[<- hrl];exact HLN.out i⟩;obtain⟨pv,hpv⟩:∃ a,P i=a:=⟨_,rfl⟩;have HNV:Hid (∀ W,Below w3.heap.size w3 W->NumsAt .i64 W pv (r i)):=aQ (λ W hb=>by rw[<- hpv];exact(HPW.out W hb).nums (j:=i) (List.mem_range.2 hiM) (by have:=HRLN.out;omega));rw[hrl,hpv]at dp;have hrlb:=HRLN.out.2;have HFR:Hid (Fr1 g S res x i ((r i).take 0) (res.getD i 0) (wt N rw') last):=aQ (by rw[List.take_zero];exact Fr1.start HNM.out HF.out);have HIX:=aQ hix;clear htt hmp hnf hp hrl hpv HF;go_wp2_with (at_lookup;refine dA rfl (.tmp 40) (.tmp 41) rfl mm nn f (x:Int) (i:Int) rfl rfl HMP.out hxw hfx ?_)
    clear HMP hfx hxw dp
    go_loopw [52] (λ u wr=>∃ (j:Nat) (c:Int) (rw:Nat->List Int) (qw:Nat->Option Addr) (cw:Nat->Nat) (last:List Int),j<=rl/\u=.int .i64 (j:Int)/\Hid (c=res.getD i 0∨∃ m:Nat,c=(m:Int)/\m<S.nodes.length/\last.getD m 0=(x:Int))/\Hid (Fr1 g S res x i ((r i).take j) c (wt N rw) last)/\Hid (Fm w3 wr gw gl gr N M rw qw cw last res)) (λ u _=>rl - (RowKit.intOf u).toNat)
    case atStart=>exact⟨0,_,_,_,_,_,Nat.zero_le _,rfl,aQ (.inl rfl),HFR,HFM⟩
    case round =>
     clear HFR HFM;obtain⟨j,c,rw',qw,cw,last,hj,rfl,HC,HFR,HFM⟩:=hrel;by_cases hjr:j<rl
     ·have hn:=HNV.out wr HFM.out.bl
      obtain⟨b5,o5,rfl,hl5,e5⟩:=hn.cells j (by rw[HRLN.out.1];exact hjr);have hmem:(r i).getD j 0∈r i:=getD_memI (by rw[HRLN.out.1];exact hjr);obtain⟨p,ep,hep⟩:=(HR.out i hiM _).1 hmem
      have HTK:Hid ((r i).take (j+1)=(r i).take j ++ [(p:Int)]):=aQ (by
       have hl:j<(r i).length:=by rw[HRLN.out.1];exact hjr
       rw[List.take_add_one,List.getElem?_eq_getElem hl,<- ep,List.getD_eq_getElem?_getD,List.getElem?_eq_getElem hl];rfl)
      rw[ep]at e5;have HCU:=aQ (Cur.start HNM.out HU4.out hep);have HFS:Hid (Fr1 g S res x i ((r i).take (j+1)) (p:Int) (wt N rw') last):=aQ (by rw[HTK.out];exact HFR.out.next HC.out p);clear hn hmem ep hep HFR HC HTK;have hresl:=HRL.out;go_wp2_with fail
      go_loopw [12] (λ u wr=>∃ (c:Int) (rw:Nat->List Int) (qw:Nat->Option Addr) (cw:Nat->Nat) (last:List Int),u=.int .i64 c/\Hid (Cur g S res i c)/\Hid (Fr1 g S res x i ((r i).take (j+1)) c (wt N rw) last)/\Hid (Fm w3 wr gw gl gr N M rw qw cw last res)) (λ u _=>(RowKit.intOf u+1).toNat)
      case atStart=>exact⟨_,_,_,_,_,rfl,HCU,HFS,HFM⟩
      case round =>
       clear HCU HFS HFM;obtain⟨c,rw',qw,cw,last,rfl,HCU,HFS,HFM⟩:=hrel;have ri:=HFM.out.or.cellAt i (by omega);rw[cD (by rw[hresl];exact hiM)]at ri;obtain⟨ui,hui⟩:∃ a,res.getD i 0=a:=⟨_,rfl⟩;rw[hui]at ri;by_cases h1:c=ui
       ·subst h1
        have HCN:Hid (c=res.getD i 0∨∃ m:Nat,c=(m:Int)/\m<S.nodes.length/\last.getD m 0=(x:Int)):=aQ (.inl hui.symm);clear hui HCU;go_wp2_with fail
        go_roundw
        all_goals first
         | exact⟨j+1,_,_,_,_,_,by omega,rfl,HCN,HFS,HFM⟩
         | ((simp[RowKit.intOf]) <;> omega)
       ·have hd1:(c != ui)=true:=by simpa using h1
        obtain⟨m,rfl,hmS,hmg,hstep⟩:=HFS.out.step HNM.out HU4.out HCU.out (by rw[hui];exact h1);have hmM:m<M:=by rw[<- HMD.out];exact hmS
        have rl':=HFM.out.ol.cellAt m (by omega);rw[cD (by rw[HFS.out.ll];exact hmS)]at rl';have zl:=HFM.out.ol.frozenAt m;obtain⟨lm,hlm⟩:∃ a,last.getD m 0=a:=⟨_,rfl⟩;rw[hlm]at rl';by_cases h2:lm=(x:Int)
        ·have HCN:Hid (((m:Nat):Int)=res.getD i 0∨∃ m':Nat,((m:Nat):Int)=(m':Int)/\m'<S.nodes.length/\last.getD m' 0=(x:Int)):=aQ (.inr ⟨m,rfl,hmS,by rw[hlm];exact h2⟩)
         subst h2;clear hui HCU hstep hlm;go_wp2_with fail
         go_roundw
         all_goals first
          | exact⟨j+1,_,_,_,_,_,by omega,rfl,HCN,HFS,HFM⟩
          | ((simp[RowKit.intOf]) <;> omega)
        ·have hd2:(lm != (x:Int))=true:=by simpa using h2
         obtain⟨hcu,hlt,hge,hfr1⟩:=hstep (by rw[hlm];exact h2)
         have HLL:Hid (((wt N rw').getD (S.nodes.getD m 0) []).length<=x):=aQ (by
          rw[HFS.out.is m hmS,if_neg (by rw[hlm];exact h2),List.append_nil];exact frK_len _ _ _)
         have hnN:=HNS.out m hmM;obtain⟨nm,hnm⟩:∃ y,S.nodes.getD m 0=y:=⟨_,rfl⟩;rw[hnm]at hfr1 HLL hnN;rw[wt_get hnN]at HLL hfr1;rw[wt_set]at hfr1;have htt:=HTTW.out w3 (Below.refl _ _);have lb3:=htt.bl;obtain⟨q1,c1,d1,n1,_⟩:=htt.r1;rw[HMD.out]at d1;obtain⟨b6,o6,rfl,hl6,e6⟩:=n1.cells m (by rw[HML.out];exact hmM);rw[(HLT.out m hmM).2,hnm]at e6;have HCEL:Hid (∀ W,Below w3.heap.size w3 W->W.cell? ⟨b,1,none⟩=some (.slice (some ⟨b6,o6,none⟩) M c1)/\W.cell? ⟨b6,o6+m,none⟩=some (.int .i64 (nm:Int))):=aQ (λ W hb=>⟨(hb.cell (p:=⟨b,1,none⟩) lb3).trans d1,(hb.cell (p:=⟨b6,o6+m,none⟩) hl6).trans e6⟩);obtain⟨um,hum⟩:∃ a,res.getD m 0=a:=⟨_,rfl⟩;rw[hum]at hcu hlt hge hfr1;have HNX:=aQ (And.intro hcu hfr1);obtain⟨W5,hW5⟩:∃ W5,wr.setCell ⟨gl,m,none⟩ (.int .i64 (x:Int))=W5:=⟨_,rfl⟩;have HF5:Hid (Fm w3 W5 gw gl gr N M rw' qw cw (last.set m (x:Int)) res):=aQ (by rw[<- hW5];exact HFM.out.setL m (x:Int));have hmm:nm∈List.range N:=List.mem_range.2 hnN;obtain⟨rm,hrm⟩:∃ l,rw' nm=l:=⟨_,rfl⟩;rw[hrm]at HLL HNX;obtain⟨wl,hwl⟩:∃ l,rm.length=l:=⟨_,rfl⟩;have dw:=HF5.out.sw.clE (j:=nm) hmm (l:=rm) hrm rfl rfl hwl;have fw:=HF5.out.sw.fz nm;have lgw:=HF5.out.sw.bl;have HXE:Hid (rm.length=wl/\(rm ++ [(x:Int)]).length=wl+1/\rm.length+[(x:Int)].length<=1099511627776):=aQ ⟨hwl,by simp[hwl],by have:=HLL.out;simp;omega⟩;have HS9:=aQ (λ (x:Int) (W:World) k (e:k=W.heap.size)=>(e ▸ bH (k:=.i64) W 3 [x] #[.int .i64 x] rfl (by simp):NumsAt .i64 (W.alloc (.cells #[.int .i64 x] 3)) (some ⟨k,0,none⟩) [x]).below ((Below.refl _ _).drew));have HMA:Hid (Fm w3 (W5.alloc (.cells #[.int .i64 (x:Int)] 3)).drew gw gl gr N M rw' qw cw (last.set m (x:Int)) res):=aQ (HF5.out.grown (cR W5 _));have S1:=HCEL.out _ HF5.out.bl;have SA:=HCEL.out _ HMA.out.bl
         have HAP:Hid (∀ (w8:World) (q8:Option Addr) (c8:Nat),w8.ownsRow w3.heap.size 3 1 (.slice q8 (wl+1) c8) (wl+1) (aX (rm ++ [(x:Int)]))->(W5.alloc (.cells #[.int .i64 (x:Int)] 3)).drew.grownBy w8 (Value.slice (qw nm) wl (cw nm)).ownBlock->((Value.slice q8 (wl+1) c8).ownBlock=(Value.slice (qw nm) wl (cw nm)).ownBlock∨(Value.slice q8 (wl+1) c8).ownBlock=some (W5.alloc (.cells #[.int .i64 (x:Int)] 3)).drew.heap.size) ->
           (w8.cell? ⟨b,1,none⟩=some (.slice (some ⟨b6,o6,none⟩) M c1)/\w8.cell? ⟨b6,o6+m,none⟩=some (.int .i64 (nm:Int)))/\((w8.setCell ⟨gw,nm,none⟩ (.slice q8 (wl+1) c8)).cell? ⟨b,1,none⟩=some (.slice (some ⟨b6,o6,none⟩) M c1)/\(w8.setCell ⟨gw,nm,none⟩ (.slice q8 (wl+1) c8)).cell? ⟨b6,o6+m,none⟩=some (.int .i64 (nm:Int))) /\
           w8.cell? ⟨gw,nm,none⟩=some (.slice (qw nm) wl (cw nm))/\w8.frozen? ⟨gw,nm,none⟩=false/\(w8.setCell ⟨gw,nm,none⟩ (.slice q8 (wl+1) c8)).cell? ⟨gr,m,none⟩=some (.int .i64 um)/\Hid (Fm w3 (w8.setCell ⟨gw,nm,none⟩ (.slice q8 (wl+1) c8)) gw gl gr N M (up1 rw' nm (rm ++ [(x:Int)])) (up1 qw nm q8) (up1 cw nm c8) (last.set m (x:Int)) res)):=aQ (λ w8 q8 c8 ho hg hb=>by
          have hmid:=HMA.out.sw.mid hmm hg;rw[hrm,HXE.out.1]at hmid;have hx:=HMA.out.app hmm (by rw[HXE.out.2.1];exact ho) HXE.out.2.1.symm hg hb;have h8:Below w3.heap.size w3 w8:=HMA.out.bl.grown hg HMA.out.bl.size (λ k e=>(HMA.out.sw.blk hmm (by rw[<- e,aH])).1);have hr:=hx.or.cellAt m (by omega);rw[cD (by rw[hresl];exact hmM),hum]at hr;exact⟨HCEL.out _ h8,HCEL.out _ hx.bl,hmid.1,hmid.2.1,hr,aQ hx⟩)
         have HOW:Hid ((W5.alloc (.cells #[.int .i64 (x:Int)] 3)).drew.ownsRow w3.heap.size 3 1 (.slice (qw nm) wl (cw nm)) rm.length (aX rm)):=aQ (HMA.out.sw.ownE (j:=nm) hmm hrm rfl rfl HXE.out.1.symm);have HBW:Hid (w3.heap.size<=(W5.alloc (.cells #[.int .i64 (x:Int)] 3)).drew.heap.size):=aQ HMA.out.bl.size;clear hui HCU hstep hlm hcu hfr1 hnm htt d1 n1 e6 hum hmm hrm hwl HF5 HFM HFS HMA;go_wp2_with fail
         refine wp_region_held_drew (S:=(λ W'=>W'.cell? ⟨b,1,none⟩=some (.slice (some ⟨b6,o6,none⟩) M c1)/\W'.cell? ⟨b6,o6+m,none⟩=some (.int .i64 (nm:Int)))) (by kernel_rfl) ?_ (λ hHeld=>?_)
         ·(try dsimp only);first|exact S1|exact SA|exact S8|exact S9
         refine aT 0 rfl (h:=aT 1 rfl (h:=aT 2 rfl (h:=aT 3 rfl (h:=aT 4 rfl (h:=?_)))));try simp only[Act.put,aA,aB,aC]
         refine aT 5 rfl (h:=aT 6 rfl (h:=aT 7 rfl (h:=aT 8 rfl (h:=aT 9 rfl (h:=?_)))));try simp only[Act.put,aA,aB,aC]
         refine aT 10 rfl (h:=aT 11 rfl (h:=aT 12 rfl (h:=aT 13 rfl (h:=aT 14 rfl (h:=?_)))));try simp only[Act.put,aA,aB,aC]
         refine aT 15 rfl (h:=aT 16 rfl (h:=aT 18 rfl (h:=?_)));try simp only[Act.put,aA,aB,aC]
         refine bY 17 19 (by kernel_rfl) rfl rfl (λ K hK=>?_) (λ K hK=>?_)
         ·
          go_simp
          refine hK.out _ _ ?_ (λ hHeld=>?_)
          ·(try dsimp only);first|exact S1|exact SA|exact S8|exact S9
          clear hK K;try simp only[Act.put,aA,aB,aC]
          refine aK 19 (by kernel_rfl) rfl (λ K hK=>?_);go_simp
          refine hK.out _ _ ?_ (λ hHeld=>?_)
          ·(try dsimp only);first|exact S1|exact SA|exact S8|exact S9
          clear hK K;try simp only[Act.put,aA,aB,aC]
          refine aK 20 (by kernel_rfl) rfl (λ K hK=>?_)
          (refine bI rfl (.tmp 95) (.tmp 97) rfl rfl w3.heap.size _ [(x:Int)] rm (.slice (qw nm) wl (cw nm)) 1 1 rfl (by simp[Act.eval]) (by simp[Act.eval];rfl) HOW.out (HS9.out _ _ _ (by simp)) HBW.out HXE.out.2.2 ?_;intro v8 w8 ho8 hg8 hb8;rw[HXE.out.2.1]at ho8;obtain⟨q8,c8,rfl⟩:=aW ho8;obtain⟨S8,S9,e8,fz8,u8,HMX⟩:=HAP.out w8 q8 c8 ho8 hg8 hb8;clear ho8 hg8 hb8)
          refine hK.out _ _ ?_ (λ hHeld=>?_)
          ·(try dsimp only);first|exact S1|exact SA|exact S8|exact S9
          clear hK K;try simp only[Act.put,aA,aB,aC]
          refine aT 21 rfl (h:=?_);try simp only[Act.put,aA,aB,aC]
          refine aK 22 (by kernel_rfl) rfl (λ K hK=>?_);go_simp
          refine hK.out _ _ ?_ (λ hHeld=>?_)
          ·(try dsimp only);first|exact S1|exact SA|exact S8|exact S9
          clear hK K;try simp only[Act.put,aA,aB,aC]
          refine wpAnyH_done (by kernel_rfl) ?_ _;all_goals go_wp2_with fail
          all_goals go_roundw
          all_goals first
           | exact⟨um,_,_,_,_,rfl,aQ HNX.out.1,aQ HNX.out.2,HMX⟩
           | ((simp[RowKit.intOf]) <;> omega)
         ·
          go_simp
          refine hK.out _ _ ?_ (λ hHeld=>?_)
          ·(try dsimp only);first|exact S1|exact SA|exact S8|exact S9
          clear hK K;try simp only[Act.put,aA,aB,aC]
          refine aK 17 (by kernel_rfl) rfl (λ K hK=>?_);go_simp
          refine hK.out _ _ ?_ (λ hHeld=>?_)
          ·(try dsimp only);first|exact S1|exact SA|exact S8|exact S9
          clear hK K;try simp only[Act.put,aA,aB,aC]
          refine aK 20 (by kernel_rfl) rfl (λ K hK=>?_)
          (refine bI rfl (.tmp 95) (.tmp 97) rfl rfl w3.heap.size _ [(x:Int)] rm (.slice (qw nm) wl (cw nm)) 1 1 rfl (by simp[Act.eval]) (by simp[Act.eval];rfl) HOW.out (HS9.out _ _ _ (by simp)) HBW.out HXE.out.2.2 ?_;intro v8 w8 ho8 hg8 hb8;rw[HXE.out.2.1]at ho8;obtain⟨q8,c8,rfl⟩:=aW ho8;obtain⟨S8,S9,e8,fz8,u8,HMX⟩:=HAP.out w8 q8 c8 ho8 hg8 hb8;clear ho8 hg8 hb8)
          refine hK.out _ _ ?_ (λ hHeld=>?_)
          ·(try dsimp only);first|exact S1|exact SA|exact S8|exact S9
          clear hK K;try simp only[Act.put,aA,aB,aC]
          refine aT 21 rfl (h:=?_);try simp only[Act.put,aA,aB,aC]
          refine aK 22 (by kernel_rfl) rfl (λ K hK=>?_);go_simp
          refine hK.out _ _ ?_ (λ hHeld=>?_)
          ·(try dsimp only);first|exact S1|exact SA|exact S8|exact S9
          clear hK K;try simp only[Act.put,aA,aB,aC]
          refine wpAnyH_done (by kernel_rfl) ?_ _;all_goals go_wp2_with fail
          all_goals go_roundw
          all_goals first
           | exact⟨um,_,_,_,_,rfl,aQ HNX.out.1,aQ HNX.out.2,HMX⟩
           | ((simp[RowKit.intOf]) <;> omega)
     ·obtain rfl:rl=j:=by omega
      have HFN:Hid (Fr0 g S (x+1) (wt N rw') last):=aQ (HFR.out.fin HNM.out HU4.out HC.out (by rw[HMD.out];exact hiM) HIX.out (λ p hp=>by
       rw[<- HRLN.out.1,List.take_length];exact(HR.out i hiM _).2 ⟨p,rfl,hp⟩))
      clear HFR HC;go_wp2_with fail
      go_roundw
      case rel=>exact⟨x+1,_,_,_,_,by omega,rfl,HFN,HFM⟩
      case measure=>(simp[RowKit.intOf]) <;> omega
   ·have hfx:f (x:Int)=none:=hnf.no _ (λ k hk e=>hc ⟨k,by rw[<- HMD.out];exact hk,by omega⟩)
    have hnr:¬ (gL g).R x:=λ c=>by
     obtain⟨k,hk,e⟩:=eF ((HNM.out.is x).2 c);exact hc ⟨k,by rw[<- HMD.out];exact hk,e⟩
    have HFN:=aQ (HF.out.skip hnr);clear htt hmp hnf hc;go_wp2_with (at_lookup;refine dC rfl (.tmp 40) (.tmp 41) rfl mm nn f (x:Int) rfl rfl HMP.out hxw hfx ?_;intro c0)
    go_roundw
    case rel=>exact⟨x+1,_,_,_,_,by omega,rfl,HFN,HFM⟩
    case measure=>(simp[RowKit.intOf]) <;> omega
  ·obtain rfl:N=x:=by omega
   have HFI:Hid (Q (.returned (.slice (some ⟨gw,0,none⟩) N N)) wr):=aQ (HD.out _ _ _ _ _ _ _ _ _ _ _ HF.out HFM.out HZ.out);clear HF HFM;go_wp2_with fail
   exact HFI.out
end Go.Proofs.YtkfahppdklecdaaGreatDoor.J
namespace Go.Proofs.YtkfahppdklecdaaGreatDoor
open Go.RowKit M
theorem nums_set{W:World}{p:Option Addr}{l:List Int}{a:Addr}{p0:Option Addr}{n0 c0:Nat}(h:NumsAt .i64 W p l)(hc:W.cell? a=some (.slice p0 n0 c0))(v:Value):NumsAt .i64 (W.setCell a v) p l :=
 ⟨h.small,λ i hi=>by
  obtain⟨b,o,e,hl,h1⟩:=h.cells i hi;refine⟨b,o,e,by simpa[World.setCell]using hl,aL h1 (λ e2=>?_)⟩;rw[<- e2,h1]at hc;injection hc with hc
  cases hc⟩
theorem numsJ{W:World}{p:Option Addr}{l:List Int}(h:NumsAt .i64 W p l):J.NumsAt .i64 W p l:=⟨h.small,h.cells⟩
structure Sk(w W:World)(gl N k:Nat)(P:Nat->Option Addr)(C:Nat->Nat)(L:Nat->List Int):Prop where
 low:Below w.heap.size w W
 new:w.heap.size<=gl
 lt:gl<W.heap.size
 fz:∀ j,W.frozen? ⟨gl,j,none⟩=false
 cell:∀ a,a<N->W.cell? ⟨gl,a,none⟩=some (if a<k then .slice (P a) (L a).length (C a)else .slice none 0 0)
 rows:∀ a,a<k->a<N->NumsAt .i64 W (P a) (L a)
 fresh:∀ a,a<k->a<N->∀ ad,P a=some ad->w.heap.size<=ad.block
theorem Sk.made{w w1:World}(hb:Below w.heap.size w w1)(N:Nat)(P:Nat->Option Addr)(C:Nat->Nat)(L:Nat->List Int):Sk w (w1.alloc (.cells (madeCells #[.slice none 0 0] N) 34)) w1.heap.size N 0 P C L :=
 ⟨hb.alloc hb.size _,hb.size,by simp,λ j=>World.frozen?_alloc_new _ _ _ j,λ a ha=>by
  refine aJ w1 ?_;simp[madeCells,ha,Nat.mod_one],λ a h=>absurd h (Nat.not_lt_zero _),λ a h=>absurd h (Nat.not_lt_zero _)⟩
theorem Sk.next{w W W':World}{gl N k:Nat}{P:Nat->Option Addr}{C:Nat->Nat}{L:Nat->List Int}(h:Sk w W gl N k P C L)(hb:Below W.heap.size W W'):Sk w W' gl N k P C L :=
 ⟨h.low.trans (hb.mono h.low.size),h.new,Nat.lt_of_lt_of_le h.lt hb.size,λ j=>(hb.frozen (p:=⟨gl,j,none⟩) h.lt).trans (h.fz j),λ a ha=>(hb.cell (p:=⟨gl,a,none⟩) h.lt).trans (h.cell a ha),λ a h1 h2=>(h.rows a h1 h2).below hb,h.fresh⟩
theorem Sk.put{w W:World}{gl N k:Nat}{P:Nat->Option Addr}{C:Nat->Nat}{L:Nat->List Int}(h:Sk w W gl N k P C L)(hk:k<N){p:Option Addr}{c:Nat}(hn:NumsAt .i64 W p (L k))(hp:∀ ad,p=some ad->w.heap.size<=ad.block):Sk w (W.setCell ⟨gl,k,none⟩ (.slice p (L k).length c)) gl N (k+1) (λ a=>if a=k then p else P a) (λ a=>if a=k then c else C a) L:=by
 have hck:=h.cell k hk;rw[if_neg (Nat.lt_irrefl _)]at hck;refine⟨h.low.setCell (p:=⟨gl,k,none⟩) h.new _,h.new,by simpa[World.setCell]using h.lt,λ j=>(World.frozen?_setCell ..).trans (h.fz j),λ a ha=>?_,λ a h1 h2=>?_,λ a h1 h2 ad e=>?_⟩
 ·by_cases e:a=k
  ·subst e
   rw[if_pos (Nat.lt_succ_self _),if_pos rfl,if_pos rfl];exact World.cell?_setCell_same _ _ _ (h.cell a ha)
  ·refine(aL (h.cell a ha) (aM (.inr e))).trans ?_
   by_cases e2:a<k
   ·rw[if_pos e2,if_pos (by omega),if_neg e,if_neg e]
   ·rw[if_neg e2,if_neg (by omega)]
 ·by_cases e:a=k
  ·subst e
   rw[if_pos rfl];exact nums_set hn hck _
  ·rw[if_neg e]
   exact nums_set (h.rows a (by omega) h2) hck _
 ·by_cases e2:a=k
  ·rw[if_pos e2]at e;exact hp ad e
  ·rw[if_neg e2]at e;exact h.fresh a (by omega) h2 ad e
theorem Sk.all{w W:World}{gl N:Nat}{P:Nat->Option Addr}{C:Nat->Nat}{L:Nat->List Int}(h:Sk w W gl N N P C L){g:List (List Int)}(hg:g.length=N)(hL:∀ a,a<N->g.getD a []=L a):J.GsB w.heap.size W (some ⟨gl,0,none⟩) g :=
 ⟨λ i hi=>by
  rw[hg]at hi;refine⟨gl,P i,C i,rfl,h.new,h.lt,?_,by rw[hL i hi];exact numsJ (h.rows i hi hi),h.fresh i hi hi⟩;rw[hL i hi,h.cell i hi,if_pos hi]⟩
theorem J.GsB.mono{B B':Nat}{w:World}{q:Option Addr}{g:List (List Int)}(h:J.GsB B w q g)(hb:B'<=B):J.GsB B' w q g :=
 ⟨λ i hi=>by
  obtain⟨b,p,c,h1,h2,h3,h4,h5,h6⟩:=h.cells i hi;exact⟨b,p,c,h1,Nat.le_trans hb h2,h3,h4,h5,λ ad e=>Nat.le_trans hb (h6 ad e)⟩⟩
def RowsG(l:List (List Int))(w:World)(e:Ending)(w':World):Prop :=
 ∃ gl,e=.returned (.slice (some ⟨gl,0,none⟩) l.length l.length)/\w.heap.size<=gl/\J.GsB w.heap.size w' (some ⟨gl,0,none⟩) l/\Below w.heap.size w w'
theorem ssucc_any(q:Option Addr)(qc:Nat)(l:List Pt)(V:Int)(w:World)(h:PartsAt w q l)(hN:l.length<=4096):Calls Tryz.prog 52 #[.agg #[.slice q l.length qc,.int .i64 V]] w (RowsG (bF l) w):=by
 have HI:=aQ h
 have HQ:Hid (∀ w2 W gl P C,Below w.heap.size w w2->Sk w2 W gl l.length l.length P C (λ a=>aY (pt l a).en)->RowsG (bF l) w (.returned (.slice (some ⟨gl,0,none⟩) l.length l.length)) W):=aQ (λ w2 W gl P C hb h=>by
  have hl:(bF l).length=l.length:=bP l;refine⟨gl,by rw[hl],Nat.le_trans hb.size h.new,(h.all hl (λ a ha=>?_)).mono hb.size,hb.trans (h.low.mono hb.size)⟩;simp[bF,pt,List.getD_eq_getElem?_getD,List.getElem?_eq_getElem ha])
 have HLD:=aQ (λ i W=>sleads_any (pt l i).en W);generalize RowsG (bF l) w=Q at *;obtain⟨N,hNl⟩:∃ N,l.length=N:=⟨_,rfl⟩;have HNL:=aQ hNl;rw[hNl]at hN HQ ⊢;have hmk:=λ W=>run_make_row' (P:=Tryz.prog) 72 34 (.slice none 0 0) 24 Tryz.underlying72 J.infoInts rfl .i64 .i64 N (by omega) (by omega) W
 clear h hNl;go_enter Tryz.func52,Tryz.ntmps52
 go_wp2_with fail
 have HW0:Hid (Below w.heap.size w (w.alloc (.cells #[.slice q N qc,.int .i64 V] 27))):=aQ b1;have HS0:=aQ (Sk.made (Below.refl (w.alloc (.cells #[.slice q N qc,.int .i64 V] 27)).heap.size (w.alloc (.cells #[.slice q N qc,.int .i64 V] 27))) N (λ _=>none) (λ _=>0) (λ a=>aY (pt l a).en));have f0:(w.alloc (.cells #[.slice q N qc,.int .i64 V] 27)).cell? ⟨w.heap.size,0,none⟩=some (.slice q N qc):=aJ w rfl;have fl:w.heap.size<(w.alloc (.cells #[.slice q N qc,.int .i64 V] 27)).heap.size:=by simp
 have hgl:(w.alloc (.cells #[.slice q N qc,.int .i64 V] 27)).heap.size=w.heap.size+1:=by simp
 rw[hgl]at HS0;obtain⟨w2,hw2⟩:∃ W,(w.alloc (.cells #[.slice q N qc,.int .i64 V] 27))=W:=⟨_,rfl⟩;obtain⟨gl,hge⟩:∃ g,w.heap.size+1=g:=⟨_,rfl⟩;rw[hw2]at HW0 HS0 f0 fl ⊢;rw[hge]at HS0 ⊢;have F0:=aQ f0;have FL:=aQ fl;clear f0 fl hw2 hmk hge hgl
 go_loopw [12] (λ v W=>∃ (k:Nat) (P:Nat->Option Addr) (C:Nat->Nat),k<=N/\v=.int .i64 (k:Int)/\Hid (Sk w2 W gl N k P C (λ a=>aY (pt l a).en))) (λ v _=>N - (RowKit.intOf v).toNat)
 case atStart=>exact⟨0,_,_,Nat.zero_le _,rfl,HS0⟩
 case round =>
  clear HS0;obtain⟨k,P,C,hk,rfl,HS⟩:=hrel;have g0:=(HS.out.low.cell (p:=⟨w.heap.size,0,none⟩) FL.out).trans F0.out;have gl0:w.heap.size<wr.heap.size:=Nat.lt_of_lt_of_le FL.out HS.out.low.size;by_cases hlt:k<N
  ·obtain⟨g,qp,cp,qf,cf,qn,cn,rfl,hgl,_,_,_,c3,c4,c5,c6,c7,c8,c9,_⟩:=(HI.out.below (HW0.out.trans (HS.out.low.mono HW0.out.size))).at (i:=k) (by rw[HNL.out];exact hlt)
   have hltI:(k:Int)<(N:Int):=by omega
   have HL:=aQ (HLD.out k wr)
   have HCK:Hid (∀ W p n,Below wr.heap.size wr W->n=(aY (pt l k).en).length->NumsAt .i64 W p (aY (pt l k).en)->(∀ ad,p=some ad->wr.heap.size<=ad.block)->gl<W.heap.size/\W.frozen? ⟨gl,k,none⟩=false/\W.cell? ⟨gl,k,none⟩=some (.slice none 0 0)/\∀ c,Hid (Sk w2 (W.setCell ⟨gl,k,none⟩ (.slice p n c)) gl N (k+1) (λ a=>if a=k then p else P a) (λ a=>if a=k then c else C a) (λ a=>aY (pt l a).en))):=aQ (λ W p n hb hn h hp=>by
    subst hn;have h2:=HS.out.next hb;have:=h2.cell k hlt;rw[if_neg (Nat.lt_irrefl _)]at this;exact⟨h2.lt,h2.fz k,this,λ c=>aQ (h2.put hlt (c:=c) h (λ ad e=>Nat.le_trans HS.out.low.size (hp ad e)))⟩)
   unfold NumsF at HL;generalize aY (pt l k).en=LK at *;generalize (pt l k).en.op=eo at *;generalize (pt l k).en.cond=ec at *;generalize (pt l k).en.wide=ew at *;generalize (pt l k).en.a=ea at *;generalize (pt l k).en.b=eb at *;generalize (pt l k).en.to'=et at *;generalize (pt l k).en.els=ee at *;go_wp2_with (go_at_call 98;(with_reducible refine HL.out.mono ?_);rintro e w5 ⟨p5,n5,rfl,h5,h6,hb5⟩;obtain⟨x1,x2,x3,HX⟩:=HCK.out _ _ _ hb5 rfl h5 h6;clear h5 h6)
   go_roundw
   case rel=>exact⟨k+1,_,_,by omega,rfl,HX _⟩
   case measure=>simp[RowKit.intOf];omega
  ·obtain rfl:k=N:=by omega
   go_wp2_with fail
   exact HQ.out _ _ _ _ _ HW0.out HS.out
end Go.Proofs.YtkfahppdklecdaaGreatDoor
namespace Go.Proofs.YtkfahppdklecdaaGreatDoor.J
open Go.RowKit
open Dm M
inductive Sp(E:List (List Int))(parts:List Int):Int->Prop
 | one {p x:Int}:p∈parts->x∈E.getD p.toNat []->Sp E parts x
 | more {p x:Int}:Sp E parts p->x∈E.getD p.toNat []->Sp E parts x
def WdE(E:List (List Int)):Prop:=∀ i,∀ x∈E.getD i [],0<=x/\x<(E.length:Int)
theorem Sp.bd{E:List (List Int)}{parts:List Int}(hW:WdE E){x:Int}(h:Sp E parts x):0<=x/\x<(E.length:Int):=by
 cases h with
 | one _ h=>exact hW _ _ h
 | more _ h=>exact hW _ _ h
def spS(s:List Bool×List Int)(y:Int):List Bool×List Int:=if s.1.getD y.toNat false=true then s else (s.1.set y.toNat true,s.2 ++ [y])
structure Sd(E:List (List Int))(parts:List Int)(X:Int->Prop)(s:List Bool×List Int):Prop where
 len:s.1.length=E.length
 in1:∀ j:Int,0<=j->s.1.getD j.toNat false=true->Sp E parts j
 in2:∀ x∈s.2,(x∈parts∨Sp E parts x)/\0<=x/\x<(E.length:Int)
 on:∀ p:Int,(p∈parts∨(0<=p/\s.1.getD p.toNat false=true))->p∈s.2∨X p∨∀ y∈E.getD p.toNat [],s.1.getD y.toNat false=true
theorem Sd.start{E:List (List Int)}{parts:List Int}(hp:∀ x∈parts,0<=x/\x<(E.length:Int)):Sd E parts (λ _=>False) (List.replicate E.length false,parts):=by
 refine⟨by simp,λ j _ h=>?_,λ x hx=>⟨.inl hx,hp x hx⟩,λ p h=>?_⟩
 ·rw[rep_get]at h;cases h
 ·rcases h with h|⟨_,h⟩
  ·exact .inl h
  ·rw[rep_get]at h;cases h
theorem Sd.done{E:List (List Int)}{parts:List Int}(hW:WdE E){s:List Bool}(h:Sd E parts (λ _=>False) (s,[]))(j:Int)(hj:0<=j):s.getD j.toNat false=true↔Sp E parts j:=by
 refine⟨h.in1 j hj,λ hs=>?_⟩
 have key:∀ p:Int,(p∈parts∨(0<=p/\s.getD p.toNat false=true))->∀ y∈E.getD p.toNat [],s.getD y.toNat false=true:=λ p hp=>by
  rcases h.on p hp with c|c|c
  ·cases c
  ·exact c.elim
  ·exact c
 clear hj
 induction hs with
 | one hp hx=>exact key _ (.inl hp) _ hx
 | more hp hx ih=>exact key _ (.inr ⟨(hp.bd hW).1,ih⟩) _ hx
theorem Sd.pop{E:List (List Int)}{parts:List Int}{s:List Bool}{T:List Int}{x:Int}(h:Sd E parts (λ _=>False) (s,T ++ [x])):Sd E parts (λ p=>p=x) (s,T):=by
 refine⟨h.len,h.in1,λ y hy=>h.in2 y (List.mem_append_left _ hy),λ p hp=>?_⟩;rcases h.on p hp with c|c|c
 ·rcases List.mem_append.1 c with c|c
  ·exact .inl c
  ·exact .inr (.inl (List.mem_singleton.1 c))
 ·exact c.elim
 ·exact .inr (.inr c)
theorem Sd.close{E:List (List Int)}{parts:List Int}{s:List Bool×List Int}{x:Int}(h:Sd E parts (λ p=>p=x) s)(hx:∀ y∈E.getD x.toNat [],s.1.getD y.toNat false=true):Sd E parts (λ _=>False) s:=by
 refine⟨h.len,h.in1,h.in2,λ p hp=>?_⟩;rcases h.on p hp with c|c|c
 ·exact .inl c
 ·subst c;exact .inr (.inr hx)
 ·exact .inr (.inr c)
theorem sp_mono(s:List Bool×List Int)(y:Int){j:Nat}(h:s.1.getD j false=true):(spS s y).1.getD j false=true:=by
 unfold spS;split
 ·exact h
 ·show(s.1.set y.toNat true).getD j false=true
  rw[getD_set_t,h,Bool.or_true]
theorem sp_hit(s:List Bool×List Int)(y:Int)(hy:y.toNat<s.1.length):(spS s y).1.getD y.toNat false=true:=by
 unfold spS;split
 ·assumption
 ·show(s.1.set y.toNat true).getD y.toNat false=true
  rw[getD_set_t];simp[hy]
theorem Sd.step{E:List (List Int)}{parts:List Int}{X:Int->Prop}{s:List Bool×List Int}{y:Int}(h:Sd E parts X s)(hs:Sp E parts y)(h0:0<=y)(h1:y<(E.length:Int)):Sd E parts X (spS s y):=by
 by_cases c:s.1.getD y.toNat false=true
 ·have e:spS s y=s:=by unfold spS;rw[if_pos c]
  rw[e];exact h
 ·have e:spS s y=(s.1.set y.toNat true,s.2 ++ [y]):=by unfold spS;rw[if_neg c]
  have hm:∀ j,s.1.getD j false=true->(s.1.set y.toNat true).getD j false=true:=λ j hj=>by rw[getD_set_t,hj,Bool.or_true]
  rw[e];refine⟨by simpa using h.len,λ j hj hv=>?_,λ x hx=>?_,λ p hp=>?_⟩
  ·rw[getD_set_t,Bool.or_eq_true,decide_eq_true_eq]at hv
   rcases hv with ⟨hv,_⟩|hv
   ·obtain rfl:j=y:=by omega
    exact hs
   ·exact h.in1 j hj hv
  ·rcases List.mem_append.1 hx with c|c
   ·exact h.in2 x c
   ·rw[List.mem_singleton.1 c];exact⟨.inr hs,h0,h1⟩
  ·have hold:(p∈parts∨(0<=p/\s.1.getD p.toNat false=true))∨p=y:=by
    rcases hp with hp|⟨hp0,hv⟩
    ·exact .inl (.inl hp)
    ·rw[getD_set_t,Bool.or_eq_true,decide_eq_true_eq]at hv
     rcases hv with ⟨hv,_⟩|hv
     ·exact .inr (by omega)
     ·exact .inl (.inr ⟨hp0,hv⟩)
   rcases hold with ho|rfl
   ·rcases h.on p ho with c|c|c
    ·exact .inl (List.mem_append_left _ c)
    ·exact .inr (.inl c)
    ·exact .inr (.inr λ y hy=>hm _ (c y hy))
   ·exact .inl (List.mem_append_right _ (List.mem_singleton.2 rfl))
theorem Sd.fold{E:List (List Int)}{parts:List Int}{X:Int->Prop}:∀ (R:List Int) {s:List Bool×List Int},Sd E parts X s->(∀ y∈R,Sp E parts y/\0<=y/\y<(E.length:Int))->Sd E parts X (R.foldl spS s)/\(∀ j,s.1.getD j false=true->(R.foldl spS s).1.getD j false=true)/\∀ y∈R,(R.foldl spS s).1.getD y.toNat false=true
 | [],s,h,_=>⟨h,λ _ h=>h,λ y hy=>by cases hy⟩
 | y :: R,s,h,hR=>by
  obtain⟨a1,a2,a3⟩:=hR y (List.mem_cons_self ..);obtain⟨b1,b2,b3⟩:=Sd.fold R (h.step a1 a2 a3) (λ x hx=>hR x (List.mem_cons_of_mem _ hx));refine⟨b1,λ j hj=>b2 j (sp_mono s y hj),λ x hx=>?_⟩;rcases List.mem_cons.1 hx with rfl|hx
  ·exact b2 _ (sp_hit s x (by rw[h.len];omega))
  ·exact b3 x hx
def spW(s:List Bool×List Int):Nat:=2*s.1.count false+s.2.length
theorem sp_less(s:List Bool×List Int)(y:Int)(hy:y.toNat<s.1.length):spW (spS s y)<=spW s:=by
 unfold spS;split
 ·exact Nat.le_refl _
 ·rename_i c
  unfold spW
  have e:s.1[y.toNat]=false:=by
   rw[List.getD_eq_getElem?_getD,List.getElem?_eq_getElem hy]at c;simpa using c
  have hc:=List.count_set (a:=true) (b:=false) (l:=s.1) hy;rw[e]at hc;have hp:0<s.1.count false:=List.count_pos_iff.2 (by rw[<- e];exact List.getElem_mem hy);simp at hc ⊢;omega
theorem sp_lessR:∀ (R:List Int) (s:List Bool×List Int),(∀ y∈R,y.toNat<s.1.length)->spW (R.foldl spS s)<=spW s
 | [],_,_=>Nat.le_refl _
 | y :: R,s,h=>Nat.le_trans (sp_lessR R (spS s y) (λ x hx=>by
   have:(spS s y).1.length=s.1.length:=by unfold spS;split <;> simp
   rw[this];exact h x (List.mem_cons_of_mem _ hx))) (sp_less s y (h y (List.mem_cons_self ..)))
structure Kg(w wr:World)(q0 q:Option Addr):Prop where
 g:w.grownBy wr (q0.map Addr.block)
 q:∀ k,q.map Addr.block=some k->w.heap.size<=k∨q0.map Addr.block=some k
theorem Kg.next{w W W':World}{q0 q:Option Addr}(h:Kg w W q0 q)(hb:Below W.heap.size W W'):Kg w W' q0 q :=
 ⟨h.g.andThen (row':=none) ⟨hb.os,hb.tape,hb.output,hb.size,λ k hk _=>hb.block k hk⟩ (λ j e=>by cases e),h.q⟩
theorem Kg.set{w W:World}{q0 q:Option Addr}(h:Kg w W q0 q){b:Nat}(hb:w.heap.size<=b)(j:Nat)(v:Value):Kg w (W.setCell ⟨b,j,none⟩ v) q0 q :=
 ⟨h.g.andThen (row':=some b) ⟨rfl,rfl,rfl,by simp[World.setCell],λ k _ hk=>heap_setCell_other W ⟨b,j,none⟩ k v (λ e=>hk (by rw[e]))⟩ (λ j e=>by injection e with e;subst e;exact .inl hb),h.q⟩
theorem Kg.app{w W W':World}{q0 q q':Option Addr}{n c m c':Nat}(h:Kg w W q0 q)(hg:W.grownBy W' (Value.slice q n c).ownBlock)(hb:(Value.slice q' m c').ownBlock=(Value.slice q n c).ownBlock∨(Value.slice q' m c').ownBlock=some W.heap.size):Kg w W' q0 q':=by
 rw[aH]at hg;rw[aH,aH]at hb;have hs:=h.g.size;refine⟨h.g.andThen hg (λ j e=>h.q j e),λ k e=>?_⟩;rcases hb with e2|e2
 ·exact h.q k (by rw[<- e2];exact e)
 ·rw[e]at e2
  injection e2 with e2
  exact .inl (by omega)
def SprQ(z:World)(E:List (List Int))(p0:Option Addr)(parts:List Int)(w:World)(e:Ending)(w':World):Prop :=
 ∃ gb L,e=.returned (.slice (some ⟨gb,0,none⟩) E.length E.length)/\w.heap.size<=gb/\Rb w' gb L/\L.length=E.length/\(∀ j:Int,0<=j->(L.getD j.toNat false=true↔Sp E parts j))/\Below z.heap.size z w'/\w.grownBy w' (p0.map Addr.block)
theorem sspread_any(z:World)(q:Option Addr)(qc:Nat)(E:List (List Int))(p0:Option Addr)(c0:Nat)(parts:List Int)(w:World)(h:GsAt z q E)(hb:Below z.heap.size z w)(ho:w.ownsRow z.heap.size 3 1 (.slice p0 parts.length c0) parts.length (aX parts))(hN:E.length<=4096)(hP:parts.length<=65536)(hW:WdE E)(hp:∀ x∈parts,0<=x/\x<(E.length:Int)) :
  Calls Tryz.prog 55 #[.slice q E.length qc,.slice p0 parts.length c0] w (SprQ z E p0 parts w):=by
 have HT0:=aQ (Sd.start hp);have HQ:Hid (∀ (w1:World) L,Rb w1 w.heap.size L->Below z.heap.size z w1->w.grownBy w1 (p0.map Addr.block)->Sd E parts (λ _=>False) (L,[])->SprQ z E p0 parts w (.returned (.slice (some ⟨w.heap.size,0,none⟩) E.length E.length)) w1):=aQ (λ w1 L h1 h2 h3 h4=>⟨_,L,rfl,Nat.le_refl _,h1,h4.len,h4.done hW,h2,h3⟩);have HGC:=aQ h.cells;have HRB:Hid (∀ i,∀ y∈E.getD i [],0<=y/\y<(E.length:Int)):=aQ hW;have hW0:spW (List.replicate E.length false,parts)=2*E.length+parts.length:=by unfold spW;simp
 have HFO:Hid (∀ (s:List Bool) (T:List Int) (i:Nat),Sd E parts (λ _=>False) (s,T ++ [(i:Int)])->Sd E parts (λ _=>False) ((E.getD i []).foldl spS (s,T))):=aQ (λ s T i h=>by
  have hx:=(h.in2 (i:Int) (List.mem_append_right _ (List.mem_singleton.2 rfl))).1
  have hsp:∀ y∈E.getD i [],Sp E parts y/\0<=y/\y<(E.length:Int):=λ y hy=>by
   refine⟨?_,hW i y hy⟩;rcases hx with hx|hx
   ·exact .one hx (by rw[Int.toNat_natCast];exact hy)
   ·exact .more hx (by rw[Int.toNat_natCast];exact hy)
  obtain⟨f1,_,f3⟩:=Sd.fold (E.getD i []) h.pop hsp;exact f1.close (by rw[Int.toNat_natCast];exact f3))
 have HLN:Hid (∀ s,Sd E parts (λ _=>False) s->s.1.length=E.length):=aQ (λ s h=>h.len);have HIX:Hid (∀ s T i,Sd E parts (λ _=>False) (s,T ++ [i])->0<=i/\i<(E.length:Int)):=aQ (λ s T i h=>(h.in2 i (List.mem_append_right _ (List.mem_singleton.2 rfl))).2);generalize SprQ z E p0 parts w=Q at *;have hsl1:=λ (q:Option Addr) (len cap C:Nat) (h:C<=cap) W=>(cH q len cap C h W).1
 have hsl2:=λ (q:Option Addr) (len cap C:Nat) (h:C<=cap) W=>(cH q len cap C h W).2
 obtain⟨N,hNl⟩:∃ N,E.length=N:=⟨_,rfl⟩;rw[hNl]at hN HT0 HQ HGC HRB HLN HIX hW0 ⊢;have hmk:=λ W=>run_make_row' (P:=Tryz.prog) 91 4 (.bool false) 1 Tryz.underlying91 eX rfl .i64 .i64 N (by omega) (by omega) W
 have HS0:Hid (Rs z (w.alloc (.cells (madeCells #[.bool false] N) 4)) w.heap.size (List.replicate N false) parts p0 c0):=aQ ⟨hb.alloc hb.size _,rb_new w N,hb.size,own_below ho b1,λ e=>by
  have:=(ho.lt w.heap.size (by rw[aH];exact e)).2;omega⟩
 have HK0:Hid (Kg w (w.alloc (.cells (madeCells #[.bool false] N) 4)) p0 p0):=aQ (Kg.next ⟨World.grownBy.refl _ _,λ k e=>.inr e⟩ b1);have HZW:Hid (z.heap.size<=w.heap.size):=aQ hb.size;clear h hb ho hW hp hNl;go_enter Tryz.func55,Tryz.ntmps55
 go_wp2_with fail
 clear hmk
 go_loopg [1] (spW (List.replicate N false,parts)) (λ k t wr=>∃ (seen:List Bool) (T:List Int) (p:Option Addr) (c:Nat),t=.slice p T.length c/\Hid (Sd E parts (λ _=>False) (seen,T))/\Hid (spW (seen,T)<=k/\k<=2*N+parts.length)/\Rs z wr w.heap.size seen T p c/\Hid (Kg w wr p0 p))
 case atStart=>exact⟨List.replicate N false,parts,p0,c0,rfl,HT0,aQ ⟨Nat.le_refl _,Nat.le_of_eq hW0⟩,HS0.out,HK0⟩
 case round =>
  clear HS0 HT0 HK0;obtain⟨seen,T,p,c,rfl,HTo,HK,hs,HKg⟩:=hrel;have HS:=aQ hs;by_cases hT0:T.length=0
  ·obtain rfl:T=[]:=List.eq_nil_of_length_eq_zero hT0
   have HD:=aQ (HQ.out _ _ HS.out.sn HS.out.low HKg.out.g HTo.out);clear hs hT0;rw[show([]:List Int).length=0 from rfl];go_wp2_with fail
   exact HD.out
  ·obtain⟨T',x,hTx⟩:∃ T' x,T=T' ++ [x]:=by
    rcases List.eq_nil_or_concat T with e|⟨T',x,e⟩
    ·rw[e]at hT0;exact absurd rfl hT0
    ·exact⟨T',x,by simpa using e⟩
   subst hTx;clear hT0;obtain⟨hx0,hxN⟩:=HIX.out _ _ _ HTo.out;obtain⟨i,rfl⟩:∃ i:Nat,x=(i:Int):=⟨x.toNat,by omega⟩;have hiN:i<N:=by omega
   obtain⟨g6,cap,hv,hg1,hg2⟩:=dZ hs.td (by simp);injection hv with hv1 hv2 hv3
   subst hv1 hv3;obtain⟨o1,o2,o3⟩:=own_pop hs.td;have HO:=aQ o1;have hTl:(T' ++ [(i:Int)]).length=T'.length+1:=by simp
   have hKl:T'.length+1<=2*N+parts.length:=by
    have:=HK.out;unfold spW at this;simp at this;omega
   have hTN:T'.length<=1048577:=by omega
   rw[hTl];clear hTl hv2 hKl;obtain⟨n6,hn6'⟩:∃ n,T'.length=n:=⟨_,rfl⟩;rw[hn6']at HO o2 o3 hTN ⊢;have HN6:=aQ hn6';have HSP:=aQ (HS.out.pop hn6' HO.out);clear hn6' o1;obtain⟨b4,o4,p4,c4,rfl,hl4,e4,hn4⟩:=HGC.out i hiN;have hl4':=Nat.lt_of_lt_of_le hl4 hs.low.size;replace e4:=(hs.low.cell (p:=⟨b4,_,none⟩) hl4).trans e4;have HNW:=aQ (λ W (hW:Below z.heap.size z W)=>hn4.below hW);have HFO2:=aQ (HFO.out seen T' i HTo.out);have HRB2:=aQ (HRB.out i);obtain⟨R,hR⟩:∃ R,E.getD i []=R:=⟨_,rfl⟩;rw[hR]at e4 hn4 HNW HFO2 HRB2;obtain⟨M,hM⟩:∃ M,R.length=M:=⟨_,rfl⟩;have HM:=aQ hM;rw[hM]at e4;have hMs:=hn4.small;rw[hM]at hMs;have HN8:Hid (∀ (x:Int) (W:World) (n:Nat),W.heap.size=n->NumsAt .i64 (W.alloc (.cells #[.int .i64 x] 3)) (some ⟨n,0,none⟩) [x]):=aQ (λ x W n h=>by subst h;exact bH (k:=.i64) W 3 [x] #[.int .i64 x] rfl (by simp));obtain⟨F,hF⟩:∃ F:Nat->List Bool×List Int,∀ m,F m=(R.take m).foldl spS (seen,T'):=⟨_,λ m=>rfl⟩;have HF0:Hid (F 0=(seen,T')):=aQ (by rw[hF];rfl);have HFM:Hid (F M=R.foldl spS (seen,T')):=aQ (by rw[hF,<- hM,List.take_length])
   have HFS:Hid (∀ m,m<M->F (m+1)=spS (F m) (R.getD m 0)):=aQ (λ m hm=>by
    have hm':m<R.length:=by omega
    rw[hF,hF,List.take_add_one,List.getElem?_eq_getElem hm',List.foldl_append,List.getD_eq_getElem?_getD,List.getElem?_eq_getElem hm'];rfl)
   have HRM:Hid (∀ m,m<M->0<=R.getD m 0/\R.getD m 0<(N:Int)):=aQ (λ m hm=>HRB2.out _ (by
    have hm':m<R.length:=by omega
    rw[List.getD_eq_getElem?_getD,List.getElem?_eq_getElem hm'];exact List.getElem_mem hm'))
   have hls:seen.length=N:=HLN.out _ HTo.out
   have HFL:Hid (∀ m,(F m).1.length=N):=aQ (λ m=>by
    rw[hF];generalize R.take m=R'
    have:∀ (l:List Int) (s:List Bool×List Int),(l.foldl spS s).1.length=s.1.length:=λ l=>by
     induction l with
     | nil=>intro s;rfl
     | cons y l ih=>intro s;rw[List.foldl_cons,ih];unfold spS;split <;> simp
    rw[this];exact hls)
   have HFW:Hid (∀ m,m<=M->spW (F m)+1<=spW (seen,T' ++ [(i:Int)])):=aQ (λ m _=>by
    rw[hF];have h1:=sp_lessR (R.take m) (seen,T') (λ y hy=>by have:=HRB2.out y (List.mem_of_mem_take hy);show y.toNat<seen.length;omega);have h2:spW (seen,T' ++ [(i:Int)])=spW (seen,T')+1:=by unfold spW;simp;omega
    omega)
   have HKB:=aQ (λ m (hm:m<=M)=>(by
    have h1:=HFW.out m hm;have h2:=HK.out;have h3:(F m).2.length<=spW (F m):=by unfold spW;omega
    omega:(F m).2.length<=73728))
   clear hs hR hM hF HRB HFO HGC HIX hn4 hls;go_wp2_with fail
   go_loopw [1,31] (λ t v wr2=>∃ (m:Nat) (p:Option Addr) (c:Nat),m<=M/\v=.int .i64 (m:Int)/\t=.slice p (F m).2.length c/\Hid (Rs z wr2 w.heap.size (F m).1 (F m).2 p c)/\Hid (Kg w wr2 p0 p)) (λ _ v _=>M - (intOf v).toNat)
   case atStart=>exact⟨0,some ⟨g6,0,none⟩,c,Nat.zero_le _,rfl,by rw[HF0.out,HN6.out],by rw[HF0.out];exact HSP,HKg⟩
   case round =>
    clear HSP HS HO o2 o3 HKg e4 hl4 hl4' hg1 hg2;obtain⟨m,p,c,hm1,rfl,rfl,HS,HKg⟩:=hrel;have hn4:=HNW.out _ HS.out.low;by_cases hm:m<M
    ·obtain⟨b5,o5,rfl,hl5,e5⟩:=hn4.cells m (by rw[HM.out];exact hm)
     have hmI:(m:Int)<(M:Int):=by omega
     obtain⟨y0,yN⟩:=HRM.out m hm;have HST:=aQ (HFS.out m hm);have hfl:=HFL.out m;have hkb:=HKB.out m hm1;obtain⟨j,hj⟩:∃ j:Nat,R.getD m 0=(j:Int):=⟨(R.getD m 0).toNat,by omega⟩;rw[hj]at e5 y0 yN HST;have hjN:j<(F m).1.length:=by omega
     have hsc:=HS.out.sn.cell j hjN;have hfr:=HS.out.sn.fr;have hlt:=HS.out.sn.lt;cases hv:(F m).1.getD j false with
     | true =>
      rw[hv]at hsc;have HE:Hid (F (m+1)=F m):=aQ (by rw[HST.out];unfold spS;rw[Int.toNat_natCast,if_pos hv]);clear hn4 hj hfl hv;go_wp2_with fail
      go_roundw
      case rel=>exact⟨m+1,p,c,by omega,rfl,by rw[HE.out],by rw[HE.out];exact HS,HKg⟩
      case measure=>simp[intOf];omega
     | false =>
      rw[hv]at hsc;have HE:Hid (F (m+1)=((F m).1.set j true,(F m).2 ++ [(j:Int)])):=aQ (by rw[HST.out];unfold spS;rw[Int.toNat_natCast,if_neg (by rw[hv];simp)]);have HS5:=aQ (HS.out.see hjN);have HK5:=aQ (HKg.out.set (Nat.le_refl _) j (.bool true));have hs5:(wr.setCell ⟨w.heap.size,j,none⟩ (.bool true)).heap.size=wr.heap.size:=by simp[World.setCell]
      clear hn4 hj hfl hv;go_wp2_with (at_builtin;refine aZ rfl (.tmp 43) (.tmp 45) rfl rfl z.heap.size (some ⟨wr.heap.size,0,none⟩) [(j:Int)] (F m).2 (.slice p (F m).2.length c) 1 1 rfl rfl rfl (own_below HS5.out.td b1) (HN8.out _ _ _ hs5) (by have:=HS5.out.low.size;rw[hs5]at this;simp;omega) (by simp;omega) ?_;intro v8 w8 ho8 hg8 hb8;obtain⟨q8,c8,rfl⟩:=aW ho8;have HR8:=aQ (Rs.app (HS5.out.next b1) rfl ho8 rfl hg8 hb8);have HK8:=aQ (Kg.app (HK5.out.next b1) hg8 hb8);clear ho8 hg8 hb8)
      go_roundw
      case rel=>exact⟨m+1,q8,c8,by omega,rfl,by rw[HE.out];simp,by rw[HE.out];exact HR8,HK8⟩
      case measure=>simp[intOf];omega
    ·obtain rfl:M=m:=by omega
     have hmI:¬ (M:Int)<(M:Int):=by omega
     clear hn4;go_wp2_with fail
     go_roundg (spW (F M))
     case measure=>have:=HK.out.1;have:=HFW.out M (Nat.le_refl _);omega
     case rel=>exact⟨(F M).1,(F M).2,p,c,rfl,by rw[HFM.out];exact HFO2,aQ ⟨Nat.le_refl _,by have:=HK.out;have:=HFW.out M (Nat.le_refl _);show spW (F M)<=_;omega⟩,HS.out,HKg⟩
end Go.Proofs.YtkfahppdklecdaaGreatDoor.J
