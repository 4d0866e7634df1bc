import Derived.Test.YtkfahppdklecdaaGreatDoorZ36
set_option maxRecDepth 100000
set_option maxHeartbeats 16000000
namespace Go.Proofs.YtkfahppdklecdaaGreatDoor
open Go.RowKit M
theorem infoI1:(Tryz.prog.info? 3).map (λ i=>(i.zero,i.size,i.bytes))=some (some (.int .i64 0),1,8):=by kernel_rfl
structure Fr1(X:World)(g m t:Nat)(vals:List Int):Prop where
 lt:g<X.heap.size
 fz:∀ o,X.frozen? ⟨g,o,none⟩=false
 c:∀ a,a<m->X.cell? ⟨g,a,none⟩=some (.int .i64 (if a<t then vals.getD a 0 else 0))
theorem Fr1.set{X:World}{g m t:Nat}{vals:List Int}(h:Fr1 X g m t vals)(ht:t<m):Fr1 (X.setCell ⟨g,t,none⟩ (.int .i64 (vals.getD t 0))) g m (t+1) vals :=
 ⟨by simpa[World.setCell]using h.lt,λ o=>(World.frozen?_setCell ..).trans (h.fz o),λ a ha=>by
  by_cases e:a=t
  ·subst e
   rw[if_pos (Nat.lt_succ_self _)];exact World.cell?_setCell_same _ _ _ (h.c a ha)
  ·refine(bO (aM (.inr e))).trans ((h.c a ha).trans ?_)
   by_cases c:a<t
   ·rw[if_pos c,if_pos (by omega)]
   ·rw[if_neg c,if_neg (by omega)]⟩
theorem Fr1.nums{X:World}{g m:Nat}{vals:List Int}(h:Fr1 X g m m vals)(hm:vals.length=m)(hs:m<=4096):NumsAt .i64 X (some ⟨g,0,none⟩) vals :=
 ⟨by omega,λ i hi=>⟨g,0,rfl,h.lt,by rw[Nat.zero_add,h.c i (by omega),if_pos (by omega)]⟩⟩
theorem bchoose_any{z W:World}{k:J.Lk}{gh:Nat}{regs:Nat->List Int}{F:Nat->Option Wq}{f:Int->Int->Option Int}{c:Nat}{Q:Nat->Option Addr}{CF:Nat->Nat}{PP:Nat->Option Addr}{PC:Nat->Nat}{RP:Nat->Option Addr}{RC:Nat->Nat}(hc:Cs z W k gh regs F f c Q CF PP PC RP RC) :
  Calls Tryz.prog 19 #[.pointer (some ⟨k.bb,0,none⟩)] W λ e X=>e=.returned (.tuple #[])/\∃ B PF,Cx W X k regs F Q k.n 0 B PF:=by
 have HC:=aQ hc;have HAT:=aQ (λ X i0 j0 B PF (h:Cx W X k regs F Q i0 j0 B PF)=>h.at hc);have HX0:Hid (Cx W W k regs F Q 0 0 W.heap.size (λ _ _=>none)):=aQ (Cx.start hc _);obtain⟨d3,d6,d7,bl,gl,hl,dms,dat⟩:=HAT.out _ _ _ _ _ HX0.out;obtain⟨n,hn⟩:∃ n,k.n=n:=⟨_,rfl⟩;obtain⟨bb,hbb⟩:∃ n,k.bb=n:=⟨_,rfl⟩;obtain⟨gp,hgp⟩:∃ n,k.gp=n:=⟨_,rfl⟩;obtain⟨mb,hmb⟩:∃ n,k.mb=n:=⟨_,rfl⟩;obtain⟨cap,hcap⟩:∃ n,k.cap=n:=⟨_,rfl⟩;have HKE:=aQ (And.intro hn (And.intro hbb (And.intro hgp (And.intro hmb hcap))));rw[hn,hbb,hgp,hmb,hcap]at HAT;rw[hbb,hgp,hcap,hn]at d3;rw[hbb]at bl ⊢;rw[hn];have hnN:=hc.nN;rw[hn]at hnN;have hmk:=λ (m:Nat) (h1:m<=4096) W=>run_make_row' (P:=Tryz.prog) 34 3 (.int .i64 0) 8 Tryz.underlying34 infoI1 rfl .i64 .i64 m (by omega) (by omega) W
 have HMK:=aQ hmk;clear hc hmk d6 d7 gl hl dms dat hn hbb hgp hmb hcap;go_enter Tryz.func19,Tryz.ntmps19
 go_wp2_with fail
 go_loopw [15] (λ v X=>∃ (i B:Nat) (PF:Nat->Nat->Option Addr),i<=n/\v=.int .i64 (i:Int)/\Hid (Cx W X k regs F Q i 0 B PF)) (λ v _=>n - (intOf v).toNat)
 case atStart=>exact⟨0,_,_,Nat.zero_le _,rfl,HX0⟩
 case round =>
  clear HX0 d3 bl;obtain⟨i,B,PF,hi,rfl,HX⟩:=hrel;by_cases hin:i<n
  ·have hik:i<k.n:=by rw[HKE.out.1];exact hin
   obtain⟨d3,d6,d7,bl,gl,hl,-,dat⟩:=HAT.out _ _ _ _ _ HX.out;obtain⟨p1,p2,p3,-,-⟩:=dat i hin;have HDA:=aQ (λ X i0 j0 B PF h=>(HAT.out X i0 j0 B PF h).2.2.2.2.2.2.2 i hin);obtain⟨hpl,hpr⟩:=HC.out.pl i hik;have HPR:=aQ hpr;have HRG:=aQ (HC.out.rg i hik);have HQS:=aQ (HC.out.qs i hik);obtain⟨pr,hpre⟩:∃ l,bK k i=l:=⟨_,rfl⟩;obtain⟨m,hm⟩:∃ m,pr.length=m:=⟨_,rfl⟩;obtain⟨rl,hrl⟩:∃ m,(regs i).length=m:=⟨_,rfl⟩;obtain⟨pp,hpp⟩:∃ q,PP i=q:=⟨_,rfl⟩;obtain⟨rp,hrp⟩:∃ q,RP i=q:=⟨_,rfl⟩;obtain⟨qq,hqq⟩:∃ q,Q i=q:=⟨_,rfl⟩;obtain⟨rg,hrg⟩:∃ l,regs i=l:=⟨_,rfl⟩;have HEQ:=aQ (And.intro hpre (And.intro hqq hrg));rw[hpre]at HPR hpl;rw[hrl]at HQS HRG;rw[hqq]at HQS;rw[hpre,hm,hpp]at HDA p1;simp only[hrl,hrp,hqq]at HDA;rw[hrl,hqq]at p2;rw[hrl,hrp]at p3;rw[hm]at hpl;rw[hrg]at HDA HRG;have HML:Hid (pr.length=m/\rg.length=rl):=aQ ⟨hm,by rw[<- hrg];exact hrl⟩;have hmk:=HMK.out m hpl;have hiI:(i:Int)<(n:Int):=by omega
   clear dat hpr hpre hm hrl hpp hrp hqq hrg;go_wp2_with fail
   go_loopw [33] (λ v X=>∃ (j B:Nat) (PF:Nat->Nat->Option Addr),j<=rl/\v=.int .i64 (j:Int)/\Hid (Cx W X k regs F Q i j B PF)) (λ v _=>rl - (intOf v).toNat)
   case atStart=>exact⟨0,B,PF,Nat.zero_le _,rfl,HX⟩
   case round =>
    clear HX d3 d6 d7 bl gl hl p1 p2 p3;obtain⟨j,B,PF,hj,rfl,HX⟩:=hrel;have hr11:=HRG.out.2;by_cases hjl:j<rl
    ·obtain⟨d3,d6,d7,bl,gl,hl,-,-⟩:=HAT.out _ _ _ _ _ HX.out
     obtain⟨p1,p2,p3,-,nr⟩:=HDA.out _ _ _ _ _ HX.out;obtain⟨b6,o6,rfl,hl6,e6⟩:=nr.cells j (by rw[HML.out.2];exact hjl)
     have hrm:rg.getD j 0∈rg:=by
      have:j<rg.length:=by rw[HML.out.2];exact hjl
      rw[List.getD_eq_getElem?_getD,List.getElem?_eq_getElem this];exact List.getElem_mem this
     obtain⟨r0,r1⟩:=HRG.out.1 _ hrm;obtain⟨r,hr⟩:∃ r:Nat,rg.getD j 0=(r:Int):=⟨(rg.getD j 0).toNat,by omega⟩;rw[hr]at e6 r1;obtain⟨vals,hvals⟩:∃ l,eB F pr (r:Int)=l:=⟨_,rfl⟩;have HVL:Hid (vals.length=m/\eB F pr (rg.getD j 0)=vals):=aQ ⟨by rw[<- hvals];unfold eB;rw[List.length_map];exact HML.out.1,by rw[hr];exact hvals⟩
     have HVT:Hid (∀ t,t<m->∃ a:Nat,pr.getD t 0=(a:Int)/\f (a:Int) (r:Int)=some (vals.getD t 0)/\a<n):=aQ (λ t ht=>by
      have htp:t<pr.length:=by rw[HML.out.1];exact ht
      have hme:pr.getD t 0∈pr:=by rw[List.getD_eq_getElem?_getD,List.getElem?_eq_getElem htp];exact List.getElem_mem htp
      obtain⟨a0,a1⟩:=HPR.out _ hme;obtain⟨a,ha⟩:∃ a:Nat,pr.getD t 0=(a:Int):=⟨(pr.getD t 0).toNat,by omega⟩;have hak:a<k.n:=by omega
      refine⟨a,ha,?_,by have:=HKE.out.1;omega⟩;rw[HC.out.fm a _ (eA (HC.out.all a hak)) r (by omega),<- hvals];unfold eB;rw[List.getD_eq_getElem?_getD,List.getElem?_map,List.getElem?_eq_getElem htp];rw[List.getD_eq_getElem?_getD,List.getElem?_eq_getElem htp]at ha;have ha':pr[t]=(a:Int):=ha;simp[ha'])
     have HX1:Hid (Cx W (wr.alloc (.cells (madeCells #[.int .i64 0] m) 3)) k regs F Q i j B PF/\Fr1 (wr.alloc (.cells (madeCells #[.int .i64 0] m) 3)) wr.heap.size m 0 vals):=aQ ⟨HX.out.next HC.out b1,by simp,λ o=>World.frozen?_alloc_new _ _ _ o,λ a ha=>by
      rw[if_neg (Nat.not_lt_zero _)];refine aJ wr ?_;simp[madeCells,ha,Nat.mod_one]⟩
     obtain⟨gF,hgF⟩:∃ g,wr.heap.size=g:=⟨_,rfl⟩;have HGF:Hid (B<=gF/\W.heap.size<=gF):=aQ ⟨by have:=HX.out.bX;omega,by have:=HX.out.size;omega⟩;have hjI:(j:Int)<(rl:Int):=by omega
     have HRL:Hid ((lit (r:Int)).wf=true):=aQ (dK (by omega) (by omega));have p1':=(HDA.out _ _ _ _ _ HX1.out.1).1;have gl':=(HAT.out _ _ _ _ _ HX1.out.1).2.2.2.2.1;clear nr hrm hr hvals d3 d6 d7 bl hl p2 p3;rw[hgF]at HX1;go_wp2_with fail
     go_loopw [49] (λ v X=>∃ t:Nat,t<=m/\v=.int .i64 (t:Int)/\Hid (Cx W X k regs F Q i j B PF/\Fr1 X gF m t vals)) (λ v _=>m - (intOf v).toNat)
     case atStart=>exact⟨0,Nat.zero_le _,rfl,HX1⟩
     case round =>
      clear HX1 HX p1 gl e6 hl6 p1' gl';obtain⟨t,ht,rfl,HX⟩:=hrel;by_cases htm:t<m
      ·obtain⟨d3,d6,d7,bl,gl,hl,dms,-⟩:=HAT.out _ _ _ _ _ HX.out.1
       obtain⟨-,-,-,np,-⟩:=HDA.out _ _ _ _ _ HX.out.1;obtain⟨b7,o7,rfl,hl7,e7⟩:=np.cells t (by rw[HML.out.1];exact htm);obtain⟨a,ha,hfa,han⟩:=HVT.out t htm;rw[ha]at e7;have HMS:=aQ dms;have HFA:=aQ hfa;have HAL:Hid ((lit (a:Int)).wf=true):=aQ (dK (by omega) (by omega));have f1:=HX.out.2.c t htm;have f2:=HX.out.2.fz t;have f3:=HX.out.2.lt;have htI:(t:Int)<(m:Int):=by omega
       have ht0:(0:Int)<=(t:Int):=by omega
       have HXN:Hid (Cx W (wr.setCell ⟨gF,t,none⟩ (.int .i64 (vals.getD t 0))) k regs F Q i j B PF/\Fr1 (wr.setCell ⟨gF,t,none⟩ (.int .i64 (vals.getD t 0))) gF m (t+1) vals):=aQ ⟨HX.out.1.tset HC.out HGF.out.1 HGF.out.2 t _,HX.out.2.set htm⟩;obtain⟨y,hy⟩:∃ y,vals.getD t 0=y:=⟨_,rfl⟩;rw[hy]at HFA HXN;rw[if_neg (Nat.lt_irrefl _)]at f1;clear dms np ha hfa hy d3 d6;go_wp2_with (at_lookup;refine wpList_ms_look rfl (.tmp 59) (.tmp 62) rfl mb c f (a:Int) (r:Int) y rfl rfl HMS.out HAL.out HRL.out HFA.out ?_)
       go_roundw
       case rel=>exact⟨t+1,by omega,rfl,HXN⟩
       case measure=>simp[intOf];omega
      ·obtain rfl:t=m:=by omega
       obtain⟨-,-,-,bl,gl,-,-,-⟩:=HAT.out _ _ _ _ _ HX.out.1;obtain⟨-,p2,-,-,-⟩:=HDA.out _ _ _ _ _ HX.out.1;obtain⟨g,rfl⟩:=HQS.out (by omega);have hgQ:=HEQ.out.2.1;have hnum:=HX.out.2.nums HVL.out.1 hpl;have hjr:j<(regs i).length:=by rw[HEQ.out.2.2,HML.out.2];exact hjl
       have HPUT:=aQ (HX.out.1.put HC.out hik hjr hgQ (q:=some ⟨gF,0,none⟩) (by rw[HEQ.out.1,HEQ.out.2.2,HVL.out.2];exact hnum) (λ ad e=>by cases e;exact⟨HGF.out.2,HX.out.2.lt⟩));rw[HEQ.out.1,HML.out.1]at HPUT;have q1:wr.cell? ⟨g,j*2+1,none⟩=some (.slice none 0 0):=(HX.out.1.qc i hik g hgQ _ (λ j' hd _ e=>by rcases hd with hd|⟨_,hd⟩ <;> omega)).trans (HC.out.qv i hik g hgQ j hjr);have q2:=HX.out.1.qz i hik g hgQ (j*2+1);have q3:g<wr.heap.size:=by have h1:=(HC.out.qb i hik g (by rw[hgQ];rfl)).2;have h2:=HX.out.1.size;omega
       have hj0:(0:Int)<=(j:Int):=by omega
       clear hgQ hnum;go_wp2_with fail
       go_roundw
       case rel=>exact⟨j+1,_,_,by omega,rfl,HPUT⟩
       case measure=>simp[intOf];omega
    ·obtain rfl:j=rl:=by omega
     have HP:Hid (Cx W wr k regs F Q (i+1) 0 B PF):=aQ (Cx.part (by rw[HEQ.out.2.2,HML.out.2];exact HX.out));go_wp2_with fail
     go_roundw
     case rel=>exact⟨i+1,B,PF,by omega,rfl,HP⟩
     case measure=>simp[intOf];omega
  ·obtain rfl:i=n:=by omega
   go_wp2_with fail
   go_end0
   exact⟨rfl,B,PF,HX.out⟩
section
variable {z W X:World} {k:J.Lk} {gh base:Nat} {regs:Nat->List Int} {P:Nat->Option Addr} {C:Nat->Nat} {U:Nat->Nat} {F:Nat->Option Wq} {v:Int} {c:Nat} {f:Int->Int->Option Int} {lo hi:Nat->Nat} {V0:Nat->Int} {Q:Nat->Option Addr} {CF:Nat->Nat} {PP:Nat->Option Addr} {PC:Nat->Nat}
theorem Rv.wps(h:Rv z W k F v c f lo hi)(hall:∀ x,x<k.n->F x≠none):∃ (Q:Nat->Option Addr) (CF:Nat->Nat),∀ i,i<k.n->∃ L qn cn,Wp (lo i) (hi i) W k.gp i (sF F i) L qn cn (Q i) (CF i):=by
 have key:∀ i,∃ p:Option Addr×Nat,i<k.n->∃ L qn cn,Wp (lo i) (hi i) W k.gp i (sF F i) L qn cn p.1 p.2:=λ i=>by
  by_cases hi':i<k.n
  ·obtain⟨_,_,_,L,qn,cn,qf,cf,hw⟩:=h.pa i hi' _ (eA (hall i hi'))
   exact⟨(qf,cf),λ _=>⟨L,qn,cn,hw⟩⟩
  ·exact⟨(none,0),λ c=>absurd c hi'⟩
 exact⟨λ i=>(Classical.choose (key i)).1,λ i=>(Classical.choose (key i)).2,λ i hi'=>Classical.choose_spec (key i) hi'⟩
theorem Rn.phis(h:Rn k regs U F V0 v){i:Nat}{s:Wq}(hs:F i=some s):s.phis.length=(regs i).length:=by
 obtain⟨_,_,_,_,_,h6⟩:=h.is i s hs;rcases h6 with ⟨e,e2⟩|⟨_,t,_,_,e2⟩
 ·subst e;rw[e2];exact partS_phis ..
 ·rw[e2];exact partS_phis ..
theorem Rn.nodes(h:Rn k regs U F V0 v)(hg:Gd k regs){i:Nat}{s:Wq}(hs:F i=some s):s.nodes.length<=4294967296:=by
 obtain⟨hi',_,_,_,_,h6⟩:=h.is i s hs;obtain⟨b1,b2,b3,_⟩:=hg.bks _ (hg.blk hi');have hl:=hg.lN;have key:∀ now v',(cN k regs i now v').nodes.length<=4294967296:=λ now v'=>Nat.le_trans (partS_nodes k regs i now v') (by omega)
 rcases h6 with ⟨e,e2⟩|⟨_,t,_,_,e2⟩
 ·subst e;rw[e2];exact key ..
 ·rw[e2];exact key ..
theorem Cs.made(hs:Sv z k gh base regs P C)(hg:Gd k regs)(h:Rv z W k F v c f lo hi)(hrn:Rn k regs U F V0 v)(hfm:Fm F f)(hall:∀ x,x<k.n->F x≠none)(hw:∀ i,i<k.n->∃ L qn cn,Wp (lo i) (hi i) W k.gp i (sF F i) L qn cn (Q i) (CF i))
  (hp:∀ i,i<k.n->z.cell? ⟨k.gp,i*10,none⟩=some (.slice (PP i) (bK k i).length (PC i))/\NumsAt .i64 z (PP i) (bK k i)/\∀ ad,PP i=some ad->k.gp<ad.block/\ad.block<z.heap.size) (hpl:∀ i,i<k.n->(bK k i).length<=4096/\∀ p∈bK k i,0<=p/\p<(k.n:Int)) :
  Cs z W k gh regs F f c Q CF PP PC P C:=by
 have hbg:=hs.bg;have hmb:=hs.mb;have hgl:=hs.gpl;have hgb:=hs.gb;have hgh:=hs.ghb;have hghz:=hs.sr.bl;have hsz:=h.size;have hph:∀ i,i<k.n->(sF F i).phis.length=(regs i).length:=λ i hi'=>hrn.phis (eA (hall i hi'))
 have hpa:∀ i,i<k.n->z.heap.size<=lo i/\lo i<=hi i/\hi i<=W.heap.size:=λ i hi'=>by
  obtain⟨a,b,c,_⟩:=h.pa i hi' _ (eA (hall i hi'));exact⟨a,b,c⟩
 have hq:∀ i,i<k.n->∀ b,(Q i).map Addr.block=some b->lo i<=b/\b<hi i:=λ i hi' b e=>by
  obtain⟨L,qn,cn,hw⟩:=hw i hi';exact⟨(hw.of.lt b (by rw[aH];exact e)).1,hw.bf b e⟩
 have hmem:∀ i,i<k.n->i∈List.range k.n:=λ i hi'=>List.mem_range.2 hi'
 have hold:∀ b o,b<z.heap.size->k.gp<b->W.cell? ⟨b,o,none⟩=z.cell? ⟨b,o,none⟩:=λ b o h1 h2=>World.cell?_of_block (a:=⟨b,o,none⟩) (h.old b h1 (by omega) (by omega) (by omega))
 refine⟨hsz,by omega,hgl,by omega,hghz,(h.ob 3 (by decide)).trans hs.c3,(h.ob 6 (by decide)).trans hs.c6,(h.ob 7 (by decide)).trans hs.c7,λ i hi'=>?_,λ i hi'=>?_,λ i hi' ad e=>(hp i hi').2.2 ad e,λ i hi'=>?_,λ i hi' h0=>?_,λ i hi' b e=>?_,λ i j hi' hj hne b e e2=>?_,λ i hi' g e o=>?_,λ i hi' g e j hj=>?_,λ i hi'=>?_,λ i hi'=>?_,λ i hi' ad e=>?_,h.ms,hfm,hall,hg.nN,hpl,hg.rg⟩
 ·exact(h.og _ (λ i2 _ _=>by omega)).trans (hp i hi').1
 ·obtain⟨_,h2,h3⟩:=hp i hi'
  exact cT h2 hsz (λ ad e=>h.old _ (h3 ad e).2 (by have:=(h3 ad e).1;omega) (by have:=(h3 ad e).1;omega) (by have:=(h3 ad e).1;omega))
 ·obtain⟨L,qn,cn,hw⟩:=hw i hi'
  have:=hw.ef;rw[hph i hi']at this;exact this
 ·obtain⟨L,qn,cn,hw⟩:=hw i hi'
  rcases hw.of.2 with ⟨_,h0'⟩|⟨g,cap,cur,e,_⟩
  ·rw[hph i hi']at h0';omega
  ·injection e with e1;exact⟨g,e1⟩
 ·have:=hq i hi' b e
  have:=hpa i hi';omega
 ·have h1:=hq i hi' b e
  have h2:=hq j hj b e2;have:=h.sep i j hi' hj hne (hall i hi') (hall j hj);omega
 ·obtain⟨L,qn,cn,hw⟩:=hw i hi'
  have:=hw.of;rw[e]at this;exact this.frozenAt o
 ·obtain⟨L,qn,cn,hw⟩:=hw i hi'
  have:=hw.of;rw[e]at this;exact(phs_own this rfl (by rw[hph i hi'];exact hj)).2
 ·exact(hold gh i hghz (by omega)).trans (hs.sr.cl i (hmem i hi'))
 ·have hnu:=hs.sr.nums (hmem i hi') (by have:=(hg.rg i hi').2;omega)
  refine cT (w:=z) ⟨hnu.small,hnu.cells⟩ hsz (λ ad ea=>?_);obtain⟨h1,h2⟩:=hs.sr.blk (hmem i hi') (k:=ad.block) (by rw[ea];rfl);exact h.old _ h2 (by omega) (by omega) (by omega)
 ·exact(hs.sr.blk (hmem i hi') (k:=ad.block) (by rw[e];rfl)).2
theorem fin_parts{RP:Nat->Option Addr}{RC:Nat->Nat}{B:Nat}{PF:Nat->Nat->Option Addr}(hs:Sv z k gh base regs P C)(hg:Gd k regs)(h:Rv z W k F v c f lo hi)(hrn:Rn k regs U F V0 v)(hc:Cs z W k gh regs F f c Q CF PP PC RP RC)(hw:∀ i,i<k.n->∃ L qn cn,Wp (lo i) (hi i) W k.gp i (sF F i) L qn cn (Q i) (CF i))(hx:Cx W X k regs F Q k.n 0 B PF){X':World}(hs':X'.heap.size=X.heap.size)(mv:∀ b,k.gp<=b->X'.heap[b]?=X.heap[b]?):PartsAt X' (some ⟨k.gp,0,none⟩) (finL k regs F):=by
 have hgl:=hs.gpl;have hsz:=h.size;have hxs:=hx.size;obtain⟨_,_,_,_,hgX,_,_,hat⟩:=hx.at hc;have hnN:=hg.nN;refine⟨by rw[bL];omega,λ i hi'=>?_⟩;rw[bL]at hi';rw[dE k regs F hi'];obtain⟨p1,p2,_,p4,_⟩:=hat i hi';have mc:∀ b o,k.gp<=b->X'.cell? ⟨b,o,none⟩=X.cell? ⟨b,o,none⟩:=λ b o hb=>World.cell?_of_block (a:=⟨b,o,none⟩) (mv b hb)
 obtain⟨L,qn,cn,hw⟩:=hw i hi';have hF:=eA (hc.all i hi');have hph:(sF F i).phis.length=(regs i).length:=hrn.phis hF;have hnd:=hrn.nodes hg hF;obtain⟨l1,l2,l3,_⟩:=h.pa i hi' _ hF;have hcl:∀ o,X'.cell? ⟨k.gp,o,none⟩=W.cell? ⟨k.gp,o,none⟩:=λ o=>(mc k.gp o (Nat.le_refl _)).trans <| World.cell?_of_block (a:=⟨k.gp,o,none⟩) (hx.old k.gp (by omega) (λ j hj e=>by have:=(hc.qb j hj k.gp e).1;omega))
 have hQlo:∀ j,j<k.n->∀ b,(Q j).map Addr.block=some b->j≠i->¬ (lo i<=b/\b<hi i):=λ j hj b e hne hh=>by
  obtain⟨L',qn',cn',hw'⟩:=‹∀ i,i<k.n->∃ L qn cn,Wp (lo i) (hi i) W k.gp i (sF F i) L qn cn (Q i) (CF i)› j hj;have h1:=(hw'.of.lt b (by rw[aH];exact e)).1;have h2:=hw'.bf b e;have:=h.sep i j hi' hj (λ e=>hne e.symm) (hc.all i hi') (hc.all j hj);omega
 have hblk:∀ b,lo i<=b->b<hi i->(Q i).map Addr.block≠some b->X'.heap[b]?=W.heap[b]?:=λ b h1 h2 h3=>(mv b (by omega)).trans <| hx.old b (by omega) (λ j hj e=>by
  by_cases ej:j=i
  ·subst ej;exact h3 e
  ·exact hQlo j hj b e ej ⟨h1,h2⟩)
 have hiE:i<k.E.length:=hi';have he:k.E[i]?=some (k.E.getD i Te.z):=by rw[List.getD_eq_getElem?_getD,List.getElem?_eq_getElem hiE];rfl
 have hog:∀ j,j=3∨j=4∨j=5∨j=8∨j=9->∀ x,(dX (k.E.getD i Te.z))[j]?=some x->X'.cell? ⟨k.gp,i*10+j,none⟩=some x:=λ j hj x hx=>(hcl _).trans ((h.og _ (λ i2 _ _=>by omega)).trans (hs.cl i _ he j (by omega) (by omega) x hx))
 have hfl:(gT k regs F i).phis.length=(regs i).length:=by simp[gT,finPh]
 refine⟨k.gp,PP i,PC i,Q i,CF i,qn,cn,rfl,by omega,λ j u hu=>?_,cT p4 (by omega) (λ ad e=>mv _ (by have:=(hc.pb i hi' ad e).1;omega)),⟨?_,λ j hj=>?_⟩,?_⟩
 ·have hj:j<10:=by
   rcases Nat.lt_or_ge j 10 with c|c
   ·exact c
   ·rw[List.getElem?_eq_none (by simpa[ptV]using c)]at hu;cases hu
  match j,hj,hu with
  | 0,_,hu=>injection hu with hu;rw[<- hu];exact(mc _ _ (Nat.le_refl _)).trans p1
  | 1,_,hu=>injection hu with hu;rw[<- hu,hfl];exact(mc _ _ (Nat.le_refl _)).trans p2
  | 2,_,hu=>injection hu with hu;rw[<- hu];exact(hcl _).trans hw.en
  | 3,_,hu=>exact hog 3 (by omega) u hu
  | 4,_,hu=>exact hog 4 (by omega) u hu
  | 5,_,hu=>exact hog 5 (by omega) u hu
  | 6,_,hu=>injection hu with hu;rw[<- hu];exact(hcl _).trans hw.ta
  | 7,_,hu=>injection hu with hu;rw[<- hu];exact(hcl _).trans hw.tb
  | 8,_,hu=>exact hog 8 (by omega) u hu
  | 9,_,hu=>exact hog 9 (by omega) u hu
 ·rw[hfl];have:=(hg.rg i hi').2;omega
 ·rw[hfl]at hj
  obtain⟨g,hQ⟩:=hc.qs i hi' (by omega);obtain⟨hgz,hgW⟩:=hc.qb i hi' g (by rw[hQ];rfl);have hof:=hw.of;rw[hQ]at hof
  have hpe:ph (gT k regs F i).phis j=⟨(sF F i).phis.getD j 0,eB F (bK k i) ((regs i).getD j 0)⟩:=by
   unfold ph;show(finPh k regs F i).getD j Ph.z=_;unfold finPh;rw[List.getD_eq_getElem?_getD,List.getElem?_map,List.getElem?_range hj];rfl
  rw[hpe];obtain⟨d1,d2,d3⟩:=hx.dn i hi' j hj (.inl hi') g hQ;have hfr:(eB F (bK k i) ((regs i).getD j 0)).length=(bK k i).length:=by simp[eB]
  refine⟨g,PF i j,(bK k i).length,hQ,by omega,?_,by rw[hfr];exact(mc _ _ (by omega)).trans d1,by rw[hfr];exact Nat.le_refl _,cT d2 (by omega) (λ ad e=>mv _ (by have:=(d3 ad e).1;omega))⟩;exact(mc _ _ (by omega)).trans <| (hx.qc i hi' g hQ _ (λ j' _ _=>by omega)).trans (phs_own hof rfl (by rw[hph];exact hj)).1
 ·have hnn:∀ b,qn.map Addr.block=some b->(Q i).map Addr.block≠some b:=λ b e e2=>by
   rcases hw.nnf with d|d
   ·rw[d]at e;cases e
   ·exact d (by rw[e,e2])
  have ho:X'.ownsRow (lo i) 111 12 (.slice qn (sF F i).nodes.length cn) (sF F i).nodes.length (ndsV L):=own_move hw.on (λ b e=>by
   have e':=(aH qn (sF F i).nodes.length cn).symm.trans e;exact hblk b (hw.on.lt b e).1 (hw.bn b e') (hnn b e'))
  have:=nodes_own ho (by rw[<- hw.nodes,List.length_map]) hnd (λ x hxL=>(hw.ar x hxL).imp id (λ ⟨h1,h2⟩=>cT h1 (by omega) (λ ad e=>hblk _ (h2 ad e).1 (h2 ad e).2.1 (h2 ad e).2.2.2)));rw[hw.nodes]at this;exact this
end
end Go.Proofs.YtkfahppdklecdaaGreatDoor
