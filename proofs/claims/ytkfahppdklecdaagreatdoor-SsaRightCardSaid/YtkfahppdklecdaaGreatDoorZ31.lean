import Derived.Test.YtkfahppdklecdaaGreatDoorZ30
set_option maxRecDepth 100000
set_option maxHeartbeats 16000000
namespace Go.Proofs.YtkfahppdklecdaaGreatDoor
open Go.RowKit M
abbrev aG(w:World)(now:Nat->Int):World:=(w.alloc (.cells #[.int .i64 (now 0),.int .i64 (now 1),.int .i64 (now 2),.int .i64 (now 3),.int .i64 (now 4),.int .i64 (now 5),.int .i64 (now 6),.int .i64 (now 7),.int .i64 (now 8),.int .i64 (now 9),.int .i64 (now 10)] 137)).alloc (.cells #[.int .i64 0,.int .i64 0,.int .i64 0,.int .i64 0,.int .i64 0,.int .i64 0,.int .i64 0,.int .i64 0,.int .i64 0,.int .i64 0,.int .i64 0] 137)
abbrev aI(w:World)(now:Nat->Int)(bb gp part:Nat):World:=(aG w now).alloc (.cells #[.pointer (some ⟨bb,0,none⟩),.pointer (some ⟨gp,part*10,none⟩),.int .i64 (now 0),.int .i64 (now 1),.int .i64 (now 2),.int .i64 (now 3),.int .i64 (now 4),.int .i64 (now 5),.int .i64 (now 6),.int .i64 (now 7),.int .i64 (now 8),.int .i64 (now 9),.int .i64 (now 10),.int .i64 0] 188)
open J (held_take aK bY)
def regsV(now:Nat->Int):Value:=.agg #[.int .i64 (now 0),.int .i64 (now 1),.int .i64 (now 2),.int .i64 (now 3),.int .i64 (now 4),.int .i64 (now 5),.int .i64 (now 6),.int .i64 (now 7),.int .i64 (now 8),.int .i64 (now 9),.int .i64 (now 10)]
structure Wb(Z:World)(bb gp part a:Nat)(qB:Option Addr)(cB:Nat)(Bl:List Bk)(f t la:Nat)(regs:List Int):Prop where
 c1:Z.cell? ⟨bb,1,none⟩=some (.slice qB Bl.length cB)
 c2:Z.cell? ⟨bb,2,none⟩=some (.int .i64 (a:Int))
 bks:BksAt Z qB Bl
 bn:∀ ad,qB=some ad->ad.block≠bb/\ad.block≠gp
 c6:∃ gh nh ch qr cr,Z.cell? ⟨bb,6,none⟩=some (.slice (some ⟨gh,0,none⟩) nh ch)/\part<nh/\nh<=4096/\gh<Z.heap.size/\gh≠bb/\gh≠gp/\Z.cell? ⟨gh,part,none⟩=some (.slice qr regs.length cr)/\NumsAt .i64 Z qr regs/\∀ ad,qr=some ad->ad.block≠bb/\ad.block≠gp
 rg:∀ r∈regs,0<=r/\r<=10
 rl:regs.length<=11
 pa:a<=part->part - a<Bl.length/\(bk Bl (part - a)).fr=(f:Int)/\(bk Bl (part - a)).to=(t:Int)/\(bk Bl (part - a)).la=(la:Int)
def cJ(l:List In)(part a:Nat)(now:Nat->Int)(v:Int)(regs:List Int)(f t la:Nat)(op:Int)(wide:Bool):Wq:=if a<=part then cY l (bZ part now v regs) f t la op wide else bZ part now v regs
theorem swrite_any{bb gp part np cap a:Nat}{v:Int}{q:Option Addr}{qc:Nat}{l:List In}{qB:Option Addr}{cB:Nat}{Bl:List Bk}{f t la:Nat}{regs:List Int}(now:Nat->Int)(op:Int)(wide:Bool)(w:World)(hz:Wz w bb gp part np cap v)(hp:Zp w ⟨bb,gp,part*10,0⟩ q qc l)(hb:Wb w bb gp part a qB cB Bl f t la regs)(_hnp:np<=4096)(hlN:l.length<=4096)
  (hft:f<=t) (htl:t<=l.length) (hla:la<l.length) (hv0:0<=v) (hv1:v<=1000000)
  (hd:∀ i,f<=i->i<t->Dk (l.getD i z)) (hs:∀ i,f<=i->i<t->dU (l.getD i z)=true->0<=cQ (l.getD i z)/\cQ (l.getD i z)<=10) (hr:Ri (l.getD la z))
  (c3:w.cell? ⟨gp,part*10+3,none⟩=some (.int .i64 op)) (c5:w.cell? ⟨gp,part*10+5,none⟩=some (.bool wide)) :
  Calls Tryz.prog 58 #[.pointer (some ⟨bb,0,none⟩),.int .i64 (part:Int),regsV now] w λ e w'=>e=.returned (regsV (cJ l part a now v regs f t la op wide).now)/\∃ wb,w.heap.size<=wb/\Wa w w' ⟨bb,gp,part*10,wb⟩ (cJ l part a now v regs f t la op wide) (λ _=>False):=by
 have k3:=hz.c3;have k4:=hz.c4;have hbl:=hz.bbl;have hgl:=hz.gpl;have hpl:=hz.pl;have hpI:(part:Int)<(np:Int):=by omega
 have HZ:=aQ hz;have HP:=aQ hp;have HB:=aQ hb;have HZK:Hid (Zk w ⟨bb,gp,part*10,w.heap.size+1+1⟩):=aQ ⟨hz.ld,hz.b0,hz.g0⟩;have HZP:Hid (Zp w ⟨bb,gp,part*10,w.heap.size+1+1⟩ q qc l):=aQ ⟨hp.c0,hp.ins,hp.ne⟩
 have HBG:Hid (Wa w (aI w now bb gp part).drew ⟨bb,gp,part*10,w.heap.size+1+1⟩ (cG now v) (λ b=>w.heap.size<=b/\b<(aI w now bb gp part).drew.heap.size/\b≠w.heap.size+1+1)):=aQ (by
  have z2:(aG w now).heap.size=w.heap.size+1+1:=by rw[World.size_alloc,World.size_alloc]
  have cn:∀ i u,(#[.pointer (some ⟨bb,0,none⟩),.pointer (some ⟨gp,part*10,none⟩),.int .i64 (now 0),.int .i64 (now 1),.int .i64 (now 2),.int .i64 (now 3),.int .i64 (now 4),.int .i64 (now 5),.int .i64 (now 6),.int .i64 (now 7),.int .i64 (now 8),.int .i64 (now 9),.int .i64 (now 10),.int .i64 0]:Array Value)[i]?=some u->(aI w now bb gp part).cell? ⟨w.heap.size+1+1,i,none⟩=some u:=λ i u hu=>by rw[<- z2];exact aJ _ hu
  refine hz.start (aD ((b2).alloc (by simp;omega) _)) (by omega) (by simp) (λ j=>?_) (cn 0 _ rfl) (cn 1 _ rfl) (λ r hr=>?_) (cn 13 _ rfl)
  ·show(aI w now bb gp part).frozen? ⟨w.heap.size+1+1,j,none⟩=false
   rw[<- z2];exact World.frozen?_alloc_new _ _ _ j
  ·match r,hr with
   | 0,_=>exact cn 2 _ rfl
   | 1,_=>exact cn 3 _ rfl
   | 2,_=>exact cn 4 _ rfl
   | 3,_=>exact cn 5 _ rfl
   | 4,_=>exact cn 6 _ rfl
   | 5,_=>exact cn 7 _ rfl
   | 6,_=>exact cn 8 _ rfl
   | 7,_=>exact cn 9 _ rfl
   | 8,_=>exact cn 10 _ rfl
   | 9,_=>exact cn 11 _ rfl
   | 10,_=>exact cn 12 _ rfl)
 have HBR:Hid ((∀ i,i<11->(aI w now bb gp part).drew.cell? ⟨w.heap.size+1,i,none⟩=some (.int .i64 0))/\(∀ i,(aI w now bb gp part).drew.frozen? ⟨w.heap.size+1,i,none⟩=false)/\w.heap.size+1<(aI w now bb gp part).drew.heap.size):=aQ (by
  refine⟨λ i hi=>(b1.cell (p:=⟨w.heap.size+1,i,none⟩) (by simp)).trans ?_,λ i=>(b1.frozen (p:=⟨w.heap.size+1,i,none⟩) (by simp)).trans ?_,by simp⟩
  ·match i,hi with
   | 0,_=>exact cZ w _ trivial rfl
   | 1,_=>exact cZ w _ trivial rfl
   | 2,_=>exact cZ w _ trivial rfl
   | 3,_=>exact cZ w _ trivial rfl
   | 4,_=>exact cZ w _ trivial rfl
   | 5,_=>exact cZ w _ trivial rfl
   | 6,_=>exact cZ w _ trivial rfl
   | 7,_=>exact cZ w _ trivial rfl
   | 8,_=>exact cZ w _ trivial rfl
   | 9,_=>exact cZ w _ trivial rfl
   | 10,_=>exact cZ w _ trivial rfl
  ·have:=World.frozen?_alloc_new (w.alloc (.cells #[.int .i64 (now 0),.int .i64 (now 1),.int .i64 (now 2),.int .i64 (now 3),.int .i64 (now 4),.int .i64 (now 5),.int .i64 (now 6),.int .i64 (now 7),.int .i64 (now 8),.int .i64 (now 9),.int .i64 (now 10)] 137)) #[.int .i64 0,.int .i64 0,.int .i64 0,.int .i64 0,.int .i64 0,.int .i64 0,.int .i64 0,.int .i64 0,.int .i64 0,.int .i64 0,.int .i64 0] 137 i
   rw[World.size_alloc]at this;exact this)
 unfold regsV;clear hz hp hb;go_enter Tryz.func58,Tryz.ntmps58
 go_wp2_with fail
 go_cut [7] (λ s7 wx=>∃ W,wx=W/\s7=.pointer (some ⟨w.heap.size+1+1,0,none⟩)/\Hid (Wa w W ⟨bb,gp,part*10,w.heap.size+1+1⟩ (cG now v) (λ b=>b=w.heap.size+1))/\Hid ((∀ i,i<11->W.cell? ⟨w.heap.size+1,i,none⟩=some (.int .i64 0))/\(∀ i,W.frozen? ⟨w.heap.size+1,i,none⟩=false)/\w.heap.size+1<W.heap.size))
 case first =>
  go_region
  all_goals (go_wp2_with fail;go_meet)
  all_goals exact⟨_,rfl,rfl,aQ (HBG.out.mono (λ x hx=>by subst hx;exact⟨by omega,by simp,by omega⟩)),HBR⟩
 case rest =>
  obtain⟨w3,hw3,rfl,HA,HR⟩:=hcut;rw[hw3];clear hw3 HBG HBR;obtain⟨T,hT⟩:∃ T:Nat->Prop,(λ b=>b=w.heap.size+1)=T:=⟨_,rfl⟩;have HTR:Hid (T (w.heap.size+1)):=aQ (by rw[<- hT]);rw[hT]at HA;clear hT;have HRR:Hid (∀ W,Kt T w3 W->(∀ i,i<11->W.cell? ⟨w.heap.size+1,i,none⟩=some (.int .i64 0))/\(∀ i,W.frozen? ⟨w.heap.size+1,i,none⟩=false)/\w.heap.size+1<W.heap.size):=aQ (λ W h=>⟨λ i hi=>h.cell HTR.out (HR.out.1 i hi),λ i=>(h.fz HTR.out).trans (HR.out.2.1 i),Nat.lt_of_lt_of_le HR.out.2.2 h.size⟩);have HST:=aQ (λ W h=>sstart_any (s:=cG now v) (T:=T) W (h:Wa w W ⟨bb,gp,part*10,w.heap.size+1+1⟩ (cG now v) T) ⟨hv0,by show v+3<=_;omega,by show 0+3<=_;omega⟩);obtain⟨gh,nh,ch,qr,cr,d6,hpn,hnh,hghl,hgb,hgg,dg,hnr,hqr⟩:=HB.out.c6
  have HCL:Hid (∀ W s' T',Wa w W ⟨bb,gp,part*10,w.heap.size+1+1⟩ s' T'->W.cell? ⟨bb,6,none⟩=some (.slice (some ⟨gh,0,none⟩) nh ch)/\W.cell? ⟨gh,part,none⟩=some (.slice qr regs.length cr)/\NumsAt .i64 W qr regs/\gh<W.heap.size/\W.cell? ⟨bb,1,none⟩=some (.slice qB Bl.length cB)/\W.cell? ⟨bb,2,none⟩=some (.int .i64 (a:Int))/\bb<W.heap.size):=aQ (λ W s' T' h=>by
   obtain⟨L,qn,cn,qf,cf,h,_⟩:=h;have ho:∀ b o,b<w.heap.size->b≠bb->b≠gp->W.cell? ⟨b,o,none⟩=w.cell? ⟨b,o,none⟩:=λ b o h1 h2 h3=>World.cell?_of_block (a:=⟨b,o,none⟩) (h.old b h1 h2 h3)
   refine⟨(h.ob 6 (by decide)).trans d6,(ho _ _ hghl hgb hgg).trans dg,⟨hnr.small,λ i hi=>?_⟩,Nat.lt_of_lt_of_le hghl h.size,(h.ob 1 (by decide)).trans HB.out.c1,(h.ob 2 (by decide)).trans HB.out.c2,h.bw.2.2.1⟩;obtain⟨b,o,e,hl,hc⟩:=hnr.cells i hi;obtain⟨n1,n2⟩:=hqr _ e;exact⟨b,o,e,Nat.lt_of_lt_of_le hl h.size,(ho _ _ hl n1 n2).trans hc⟩)
  have HRG:Hid ((∀ m,m<regs.length->0<=regs.getD m 0/\regs.getD m 0<=10)/\regs.length<=11):=aQ ⟨λ m hm=>HB.out.rg _ (by rw[List.getD_eq_getElem?_getD,List.getElem?_eq_getElem hm];exact List.getElem_mem hm),HB.out.rl⟩;obtain⟨R,hR⟩:∃ R,regs.length=R:=⟨_,rfl⟩;have HRL:=aQ hR;have hR11:R<=11:=by rw[<- hR];exact HRG.out.2
  rw[hR]at HCL;have hpnI:(part:Int)<(nh:Int):=by omega
  clear d6 dg hnr hqr k3 k4 hR hpl hpI;obtain⟨S1,hS1⟩:∃ S,(if part=0 then gC (cG now v)else cG now v)=S:=⟨_,rfl⟩;obtain⟨PH,hPH⟩:∃ P:Nat->Wq,(λ m=>fL S1 (regs.take m))=P:=⟨_,rfl⟩;have HP0:Hid (PH 0=S1):=aQ (by rw[<- hPH];rfl)
  have HPN:Hid (∀ m,m<R->PH (m+1)=phiS (PH m) (regs.getD m 0)):=aQ (λ m hm=>by
   have hm':m<regs.length:=by rw[HRL.out];exact hm
   rw[<- hPH];show fL S1 (regs.take (m+1))=phiS (fL S1 (regs.take m)) (regs.getD m 0);rw[List.take_add_one,List.getElem?_eq_getElem hm',List.getD_eq_getElem?_getD,List.getElem?_eq_getElem hm'];unfold fL;rw[List.foldl_append];rfl)
  have HPR:Hid (PH R=bZ part now v regs):=aQ (by
   rw[<- hPH,<- HRL.out];show fL S1 (regs.take regs.length)=_;rw[List.take_length,<- hS1];rfl)
  have HQ1:Hid (Bq S1 1000000):=aQ (by
   rw[<- hS1];split
   ·exact⟨by show 0<=v+1+1+1;omega,by show v+1+1+1+_<=_;omega,by show 3+1000000<=_;omega⟩
   ·exact⟨hv0,by show v+_<=_;omega,by show 0+1000000<=_;omega⟩)
  have HQP:Hid (∀ m,m<=R->0<=(PH m).v/\(PH m).v<=1099511000000/\(PH m).phis.length<=11/\Bq (PH m) 900000):=aQ (λ m=>by
   have key:m<=R->(PH m).v=S1.v+m/\(PH m).phis.length=S1.phis.length+m/\(PH m).nodes=S1.nodes:=by
    induction m with
    | zero=>intro _;rw[HP0.out];simp
    | succ m ih =>
     intro hm;obtain⟨k1,k2,k3⟩:=ih (by omega);rw[HPN.out m (by omega)];refine⟨?_,?_,?_⟩
     ·show(PH m).v+1=_;rw[k1];omega
     ·show((PH m).phis ++ [_]).length=_;rw[List.length_append,k2];simp;omega
     ·exact k3
   intro hm;obtain⟨k1,k2,k3⟩:=key hm;have hl:S1.phis.length=0:=by rw[<- hS1];split <;> rfl
   have q1:=HQ1.out.v0;have q2:=HQ1.out.v1;have q3:=HQ1.out.n;have q4:(1000000:Nat)=1000000:=rfl;refine⟨by omega,by omega,by omega,by omega,by omega,by rw[k3];omega⟩)
  have HST2:Hid (part=0->gC (cG now v)=S1):=aQ (λ h=>by rw[<- hS1,if_pos h]);have HST3:Hid (¬ part=0->cG now v=S1):=aQ (λ h=>by rw[<- hS1,if_neg h]);clear hS1 hPH;by_cases hp0:part=0
  ·have HE:=aQ (HST2.out hp0)
   have bp0:((part:Int) == 0)=true:=by simp[hp0]
   rw[HE.out]at HST;clear hp0;go_wp2_with (go_at_call 104;(with_reducible refine(HST.out _ HA.out).mono ?_);rintro e w4 ⟨rfl,h4⟩;have H4:=aQ h4;obtain⟨u6,ug,un,ul,u1,u2,ub⟩:=HCL.out _ _ _ h4.1;have UN:=aQ un;clear un h4)
   go_loopw [34] (λ u W=>∃ m:Nat,m<=R/\u=.int .i64 (m:Int)/\Hid (Wa w W ⟨bb,gp,part*10,w.heap.size+1+1⟩ (PH m) T/\Kt T w3 W)) (λ u _=>R - (RowKit.intOf u).toNat)
   case atStart=>exact⟨0,Nat.zero_le _,rfl,aQ (by rw[HP0.out];exact H4.out)⟩
   case round =>
    clear H4;obtain⟨m,hm,rfl,HW⟩:=hrel;obtain⟨d6,dg,dn,dl,d1,d2,db⟩:=HCL.out _ _ _ HW.out.1;obtain⟨lw,hn,w0,w1,w13⟩:=HW.out.1.now;obtain⟨cv,fbb,_⟩:=HW.out.1.val;have fb4:=fbb 4;by_cases hmR:m<R
    ·obtain⟨b5,o5,rfl,hb5,e5⟩:=dn.cells m (by rw[HRL.out];exact hmR)
     obtain⟨r0,r10⟩:=HRG.out.1 m (by rw[HRL.out];exact hmR);have HPM:=aQ (HPN.out m hmR);obtain⟨r,hr'⟩:∃ r:Nat,regs.getD m 0=(r:Int):=⟨(regs.getD m 0).toNat,by omega⟩;rw[hr']at e5 HPM;have hr11:r<11:=by omega
     have hrI:(r:Int)<11:=by omega
     have hrI0:(0:Int)<=(r:Int):=by omega
     have hn':=hn r hr11;obtain⟨q1,q2,q3,_⟩:=HQP.out m (by omega);obtain⟨vv,hvv⟩:∃ x,(PH m).v=x:=⟨_,rfl⟩;rw[hvv]at cv q1 q2;have HFR:=aQ (sfresh_any bb vv wr db fb4 cv q1 (by omega));have fzn:=HW.out.1.gl.2.2.1 (2+r)
     have H5:Hid (Wa w ((wr.setCell ⟨bb,4,none⟩ (.int .i64 (vv+1))).setCell ⟨w.heap.size+1+1,2+r,none⟩ (.int .i64 vv)) ⟨bb,gp,part*10,w.heap.size+1+1⟩ { PH m with v:=vv+1,now:=updI (PH m).now r vv } T/\Kt T w3 ((wr.setCell ⟨bb,4,none⟩ (.int .i64 (vv+1))).setCell ⟨w.heap.size+1+1,2+r,none⟩ (.int .i64 vv))):=aQ (by
      have hA:=HW.out.1.setV (vv+1);have hB:=hA.setNow hr11 vv;exact⟨hB,(HW.out.2.setW HW.out.1 (.inl rfl) 4 (.int .i64 (vv+1))).setW hA (.inr (.inr rfl)) (2+r) (.int .i64 vv)⟩)
     clear dn hr' hn fbb;go_wp2_with (go_at_call 105;(with_reducible refine HFR.out.mono ?_);rintro e w5 ⟨rfl,rfl⟩)
     obtain⟨W5,hW5⟩:∃ W,((wr.setCell ⟨bb,4,none⟩ (.int .i64 (vv+1))).setCell ⟨w.heap.size+1+1,2+r,none⟩ (.int .i64 vv))=W:=⟨_,rfl⟩;rw[hW5]at H5 ⊢;obtain⟨L,qn,cn,qf,cf,hWt,hTk⟩:=H5.out.1;have HWT:=aQ hWt;have HTK:=aQ hTk;have HSB:Hid (∀ W,Below W5.heap.size W5 W->W.cell? ⟨w.heap.size+1+1,1,none⟩=some (.pointer (some ⟨gp,part*10,none⟩))):=aQ (λ W hb=>(hb.cell (p:=⟨w.heap.size+1+1,1,none⟩) hWt.wl).trans hWt.w1);have e0:W5.cell? ⟨gp,part*10+1,none⟩=some (.slice qf (PH m).phis.length cf):=hWt.ef;have w1':W5.cell? ⟨w.heap.size+1+1,1,none⟩=some (.pointer (some ⟨gp,part*10,none⟩)):=hWt.w1;have lw':w.heap.size+1+1<W5.heap.size:=hWt.wl;have lg':gp<W5.heap.size:=hWt.bw.2.2.2;have fg':W5.frozen? ⟨gp,part*10+1,none⟩=false:=hWt.fg _;have HMA:Hid (Wt w (W5.alloc (.cells #[.int .i64 vv,.slice none 0 0] 142)).drew ⟨bb,gp,part*10,w.heap.size+1+1⟩ { PH m with v:=vv+1,now:=updI (PH m).now r vv } L qn cn qf cf):=aQ (hWt.next (aD b1));have S1':=HSB.out W5.drew (aD (Below.refl _ _));have SA':=HSB.out (W5.alloc (.cells #[.int .i64 vv,.slice none 0 0] 142)).drew (aD b1)
     have HAP:Hid (∀ (w8:World) (q8:Option Addr) (c8:Nat),w8.ownsRow w.heap.size 142 2 (.slice q8 ((PH m).phis.length+1) c8) ((PH m).phis.length+1) (phsV (PH m).phis ++ [.int .i64 vv,.slice none 0 0])->(W5.alloc (.cells #[.int .i64 vv,.slice none 0 0] 142)).drew.grownBy w8 (Value.slice qf (PH m).phis.length cf).ownBlock->((Value.slice q8 ((PH m).phis.length+1) c8).ownBlock=(Value.slice qf (PH m).phis.length cf).ownBlock∨(Value.slice q8 ((PH m).phis.length+1) c8).ownBlock=some (W5.alloc (.cells #[.int .i64 vv,.slice none 0 0] 142)).drew.heap.size) ->
       (w8.cell? ⟨w.heap.size+1+1,1,none⟩=some (.pointer (some ⟨gp,part*10,none⟩)))/\((w8.setCell ⟨gp,part*10+1,none⟩ (.slice q8 ((PH m).phis.length+1) c8)).cell? ⟨w.heap.size+1+1,1,none⟩=some (.pointer (some ⟨gp,part*10,none⟩)))/\w8.cell? ⟨gp,part*10+1,none⟩=some (.slice qf (PH m).phis.length cf)/\w8.frozen? ⟨gp,part*10+1,none⟩=false/\Hid (Wa w (w8.setCell ⟨gp,part*10+1,none⟩ (.slice q8 ((PH m).phis.length+1) c8)) ⟨bb,gp,part*10,w.heap.size+1+1⟩ (PH (m+1)) T/\Kt T w3 (w8.setCell ⟨gp,part*10+1,none⟩ (.slice q8 ((PH m).phis.length+1) c8)))):=aQ (λ w8 q8 c8 ho hg hb=>by
      have hx:=phi_end HMA.out (HTK.out.next (by simp)) rfl ho hg hb;have hk5:Kt T W5 (W5.alloc (.cells #[.int .i64 vv,.slice none 0 0] 142)).drew:=⟨by simp,λ b hx=>(aD b1:Below W5.heap.size W5 (W5.alloc (.cells #[.int .i64 vv,.slice none 0 0] 142)).drew).block b (HTK.out b hx).2.1⟩;rw[aH]at hg;have hz:∀ b,qf.map Addr.block=some b->w.heap.size<=b:=λ b e=>(HMA.out.qfz e).1
      have n1:w.heap.size+1+1≠gp:=λ e=>HWT.out.bw.2.1 e.symm
      have t0:w8.cell? ⟨w.heap.size+1+1,1,none⟩=some (.pointer (some ⟨gp,part*10,none⟩)):=HMA.out.mid hg hz HMA.out.nf (.inr (.inr rfl)) SA';refine⟨t0,aL t0 (aM (.inl n1)),HMA.out.mid hg hz HMA.out.nf (.inr (.inl rfl)) HMA.out.ef,(HMA.out.midf hg hz HMA.out.nf (.inr (.inl rfl))).trans (HMA.out.fg _),aQ ⟨?_,H5.out.2.trans (hk5.trans hx.2)⟩⟩
      have e:PH (m+1) = { { PH m with v:=vv+1,now:=updI (PH m).now r vv } with phis:=(PH m).phis ++ [vv] }:=by
       rw[HPM.out];unfold phiS;rw[hvv,Int.toNat_natCast]
      rw[e];exact hx.1)
     have HOW:=aQ HMA.out.of;have HBW:=aQ HMA.out.size;have HNL:Hid (∀ j u,[Value.int .i64 vv,.slice none 0 0][j]?=some u->(W5.alloc (.cells #[.int .i64 vv,.slice none 0 0] 142)).drew.cell? ((⟨W5.heap.size,0,none⟩:Addr).add j)=some u):=aQ (J.new_cells1 W5 _ _ rfl);have HL1:=aQ (ph_one vv);have hq4:(PH m).phis.length<=4194304:=by omega
     clear hWt hTk hW5 HFR cv;go_wp2_with fail
     refine wp_region_held_drew (S:=(λ W'=>W'.cell? ⟨w.heap.size+1+1,1,none⟩=some (.pointer (some ⟨gp,part*10,none⟩)))) (by kernel_rfl) ?_ (λ hHeld=>?_)
     ·(try dsimp only);first|exact S1'|exact SA'|exact S8|exact S9
     refine aT 0 rfl (h:=aT 1 rfl (h:=aT 2 rfl (h:=aT 3 rfl (h:=aT 4 rfl (h:=?_)))));try simp only[Act.put,aA,aB,aC]
     refine aT 5 rfl (h:=aT 6 rfl (h:=aT 7 rfl (h:=aT 8 rfl (h:=aT 9 rfl (h:=?_)))));try simp only[Act.put,aA,aB,aC]
     refine aT 11 rfl (h:=aT 12 rfl (h:=?_));try simp only[Act.put,aA,aB,aC]
     refine bY 10 13 (by kernel_rfl) rfl rfl (λ K hK=>?_) (λ K hK=>?_)
     ·
      go_simp
      refine hK.out _ _ ?_ (λ hHeld=>?_)
      ·(try dsimp only);first|exact S1'|exact SA'|exact S8|exact S9
      clear hK K;try simp only[Act.put,aA,aB,aC]
      refine aK 13 (by kernel_rfl) rfl (λ K hK=>?_);go_simp
      refine hK.out _ _ ?_ (λ hHeld=>?_)
      ·(try dsimp only);first|exact S1'|exact SA'|exact S8|exact S9
      clear hK K;try simp only[Act.put,aA,aB,aC]
      refine aK 14 (by kernel_rfl) rfl (λ K hK=>?_)
      (refine fW rfl (.tmp 56) (.tmp 59) rfl rfl w.heap.size ⟨W5.heap.size,0,none⟩ [.int .i64 vv,.slice none 0 0] (phsV (PH m).phis) (.slice qf (PH m).phis.length cf) (PH m).phis.length 1 (by simp[Act.eval]) (by simp[Act.eval];try omega) HOW.out rfl HNL.out HL1.out HBW.out hq4 ?_;intro v8 w8 ho8 hg8 hb8;obtain⟨q8,c8,rfl⟩:=aW ho8;obtain⟨S8,S9,e8,fz8,HPX⟩:=HAP.out w8 q8 c8 ho8 hg8 hb8;clear ho8 hg8 hb8)
      refine hK.out _ _ ?_ (λ hHeld=>?_)
      ·(try dsimp only);first|exact S1'|exact SA'|exact S8|exact S9
      clear hK K;try simp only[Act.put,aA,aB,aC]
      refine aT 15 rfl (h:=aT 16 rfl (h:=?_));try simp only[Act.put,aA,aB,aC]
      refine aK 17 (by kernel_rfl) rfl (λ K hK=>?_);go_simp
      refine hK.out _ _ ?_ (λ hHeld=>?_)
      ·(try dsimp only);first|exact S1'|exact SA'|exact S8|exact S9
      clear hK K;try simp only[Act.put,aA,aB,aC]
      refine wpAnyH_done (by kernel_rfl) ?_ _;go_wp2_with fail
      go_roundw
      all_goals first
       | exact⟨m+1,by omega,rfl,HPX⟩
       | ((simp[RowKit.intOf]) <;> omega)
     ·
      go_simp
      refine hK.out _ _ ?_ (λ hHeld=>?_)
      ·(try dsimp only);first|exact S1'|exact SA'|exact S8|exact S9
      clear hK K;try simp only[Act.put,aA,aB,aC]
      refine aK 10 (by kernel_rfl) rfl (λ K hK=>?_);go_simp
      refine hK.out _ _ ?_ (λ hHeld=>?_)
      ·(try dsimp only);first|exact S1'|exact SA'|exact S8|exact S9
      clear hK K;try simp only[Act.put,aA,aB,aC]
      refine aK 14 (by kernel_rfl) rfl (λ K hK=>?_)
      (refine fW rfl (.tmp 56) (.tmp 59) rfl rfl w.heap.size ⟨W5.heap.size,0,none⟩ [.int .i64 vv,.slice none 0 0] (phsV (PH m).phis) (.slice qf (PH m).phis.length cf) (PH m).phis.length 1 (by simp[Act.eval]) (by simp[Act.eval];try omega) HOW.out rfl HNL.out HL1.out HBW.out hq4 ?_;intro v8 w8 ho8 hg8 hb8;obtain⟨q8,c8,rfl⟩:=aW ho8;obtain⟨S8,S9,e8,fz8,HPX⟩:=HAP.out w8 q8 c8 ho8 hg8 hb8;clear ho8 hg8 hb8)
      refine hK.out _ _ ?_ (λ hHeld=>?_)
      ·(try dsimp only);first|exact S1'|exact SA'|exact S8|exact S9
      clear hK K;try simp only[Act.put,aA,aB,aC]
      refine aT 15 rfl (h:=aT 16 rfl (h:=?_));try simp only[Act.put,aA,aB,aC]
      refine aK 17 (by kernel_rfl) rfl (λ K hK=>?_);go_simp
      refine hK.out _ _ ?_ (λ hHeld=>?_)
      ·(try dsimp only);first|exact S1'|exact SA'|exact S8|exact S9
      clear hK K;try simp only[Act.put,aA,aB,aC]
      refine wpAnyH_done (by kernel_rfl) ?_ _;go_wp2_with fail
      go_roundw
      all_goals first
       | exact⟨m+1,by omega,rfl,HPX⟩
       | ((simp[RowKit.intOf]) <;> omega)
    ·obtain rfl:m=R:=by omega
     have HWA:=aQ HW.out.1;have HWK:=aQ HW.out.2;obtain⟨F,hF⟩:∃ F,cJ l part a now v regs f t la op wide=F:=⟨_,rfl⟩;have HFE:Hid (cJ l part a now v regs f t la op wide=F):=aQ hF;have HFB:Hid (a<=part->cY l (PH m) f t la op wide=F):=aQ (λ h=>by rw[<- hF,HPR.out];unfold cJ;rw[if_pos h]);have HFN:Hid (¬ a<=part->PH m=F):=aQ (λ h=>by rw[<- hF,HPR.out];unfold cJ;rw[if_neg h]);clear hF dn hn HW
     have HFI:Hid (∀ W,Wa w W ⟨bb,gp,part*10,w.heap.size+1+1⟩ F T->Kt T w3 W->(∀ r,r<11->W.cell? ⟨w.heap.size+1+1,2+r,none⟩=some (.int .i64 (F.now r)))/\(∀ i,i<11->W.cell? ⟨w.heap.size+1,i,none⟩=some (.int .i64 0))/\(∀ i,W.frozen? ⟨w.heap.size+1,i,none⟩=false)/\w.heap.size+1<W.heap.size/\w.heap.size+1+1<W.heap.size):=aQ (λ W h1 h2=>by
      obtain⟨k1,k2,k3⟩:=HRR.out W h2;exact⟨h1.now.2.1,k1,k2,k3,h1.now.1⟩)
     have HDN:Hid (∀ W,Wa w W ⟨bb,gp,part*10,w.heap.size+1+1⟩ F T->∀ v0 v1 v2 v3 v4 v5 v6 v7 v8 v9 v10,∃ wb,w.heap.size<=wb/\Wa w (((((((((((W.setCell ⟨w.heap.size+1,0,none⟩ v0).setCell ⟨w.heap.size+1,1,none⟩ v1).setCell ⟨w.heap.size+1,2,none⟩ v2).setCell ⟨w.heap.size+1,3,none⟩ v3).setCell ⟨w.heap.size+1,4,none⟩ v4).setCell ⟨w.heap.size+1,5,none⟩ v5).setCell ⟨w.heap.size+1,6,none⟩ v6).setCell ⟨w.heap.size+1,7,none⟩ v7).setCell ⟨w.heap.size+1,8,none⟩ v8).setCell ⟨w.heap.size+1,9,none⟩ v9).setCell ⟨w.heap.size+1,10,none⟩ v10) ⟨bb,gp,part*10,wb⟩ F (λ _=>False)):=aQ (λ W h v0 v1 v2 v3 v4 v5 v6 v7 v8 v9 v10=>⟨_,by omega,(((((((((((h.tset HTR.out 0 v0).tset HTR.out 1 v1).tset HTR.out 2 v2).tset HTR.out 3 v3).tset HTR.out 4 v4).tset HTR.out 5 v5).tset HTR.out 6 v6).tset HTR.out 7 v7).tset HTR.out 8 v8).tset HTR.out 9 v9).tset HTR.out 10 v10).mono (λ _ hx=>hx.elim)⟩);have HAX:Hid (Wa w wr.drew ⟨bb,gp,part*10,w.heap.size+1+1⟩ (PH m) T/\Kt T w3 wr.drew):=aQ ⟨HWA.out.next (aD (Below.refl _ _)),HWK.out.trans (HWA.out.kt (aD (Below.refl _ _)))⟩;by_cases hap:a<=part
     ·obtain⟨p1,p2,p3,p4⟩:=HB.out.pa hap
      obtain⟨bB,oB,sp,sc,pp,pc,hqB,hbB,t0,t1,t2,t3,t4,_,_⟩:=HB.out.bks.cells (part - a) p1;obtain⟨nB1,nB2⟩:=HB.out.bn _ hqB;subst hqB;obtain⟨ib,hib⟩:∃ ib,part - a=ib:=⟨_,rfl⟩;rw[hib]at p1 p2 p3 p4 t0 t1 t2 t3 t4;rw[p2]at t0;rw[p3]at t1;rw[p4]at t2;obtain⟨sn,hsn⟩:∃ n,(bk Bl ib).su.length=n:=⟨_,rfl⟩;obtain⟨pn,hpn'⟩:∃ n,(bk Bl ib).pr.length=n:=⟨_,rfl⟩;rw[hsn]at t3;rw[hpn']at t4;have hsub:(part:Int) - (a:Int)=(ib:Int):=by omega
      have hibI:(ib:Int)<(Bl.length:Int):=by omega
      have hwr:IntKind.i64.wrap (ib:Int)=(ib:Int):=by rw[IntKind.wrap_i64];omega
      have hib0:(0:Int)<=(ib:Int):=by omega
      have hBs:=HB.out.bks.small;have hapI:(a:Int)<=(part:Int):=by omega
      have HSB:Hid (∀ W s' T',Wa w W ⟨bb,gp,part*10,w.heap.size+1+1⟩ s' T'->W.cell? ⟨bb,1,none⟩=some (.slice (some ⟨bB,oB,none⟩) Bl.length cB)/\W.cell? ⟨bb,2,none⟩=some (.int .i64 (a:Int))/\W.cell? ⟨bB,oB+ib*5,none⟩=some (.int .i64 (f:Int))/\W.cell? ⟨bB,oB+ib*5+1,none⟩=some (.int .i64 (t:Int))/\W.cell? ⟨bB,oB+ib*5+2,none⟩=some (.int .i64 (la:Int))/\W.cell? ⟨bB,oB+ib*5+3,none⟩=some (.slice sp sn sc)/\W.cell? ⟨bB,oB+ib*5+4,none⟩=some (.slice pp pn pc)):=aQ (λ W s' T' h=>by
       obtain⟨_,_,_,_,e1,e2,_⟩:=HCL.out W s' T' h;obtain⟨L,qn,cn,qf,cf,h,_⟩:=h;have ho:∀ o,W.cell? ⟨bB,o,none⟩=w.cell? ⟨bB,o,none⟩:=λ o=>World.cell?_of_block (a:=⟨bB,o,none⟩) (h.old bB hbB nB1 nB2)
       exact⟨e1,e2,(ho _).trans t0,(ho _).trans t1,(ho _).trans t2,(ho _).trans t3,(ho _).trans t4⟩)
      have S1':=HSB.out _ _ _ HWA.out;have S2':=HSB.out _ _ _ HAX.out.1
      have HBLK:Hid (∀ W,Wa w W ⟨bb,gp,part*10,w.heap.size+1+1⟩ (PH m) T->Calls Tryz.prog 106 #[.pointer (some ⟨w.heap.size+1+1,0,none⟩),.agg #[.int .i64 (f:Int),.int .i64 (t:Int),.int .i64 (la:Int),.slice sp sn sc,.slice pp pn pc]] W λ e w'=>e=.returned (.tuple #[])/\Wa w w' ⟨bb,gp,part*10,w.heap.size+1+1⟩ F T/\Kt T W w'):=aQ (λ W h=>by
       have hq:=(HQP.out m (Nat.le_refl _)).2.2.2;have hx:=sblk_any f t la sp pp sn sc pn pc op wide W h HZK.out HZP.out hft htl hla hlN (hq.mono (by omega)) hd hs hr c3 c5;rw[HFB.out hap]at hx;exact hx)
      clear t0 t1 t2 t3 t4 p1 p2 p3 p4 hsn hpn';go_wp2_with fail
      go_region_held3 (λ W'=>W'.cell? ⟨bb,1,none⟩=some (.slice (some ⟨bB,oB,none⟩) Bl.length cB)/\W'.cell? ⟨bb,2,none⟩=some (.int .i64 (a:Int))/\W'.cell? ⟨bB,oB+ib*5,none⟩=some (.int .i64 (f:Int))/\W'.cell? ⟨bB,oB+ib*5+1,none⟩=some (.int .i64 (t:Int))/\W'.cell? ⟨bB,oB+ib*5+2,none⟩=some (.int .i64 (la:Int))/\W'.cell? ⟨bB,oB+ib*5+3,none⟩=some (.slice sp sn sc)/\W'.cell? ⟨bB,oB+ib*5+4,none⟩=some (.slice pp pn pc))
       (first|exact S1'|exact S2'|exact S3')
       (first|(go_at_call 106;(with_reducible refine(HBLK.out _ HAX.out.1).mono ?_);rintro e w5 ⟨rfl,h5⟩;have H5:=aQ h5.1;have H5K:=aQ (HAX.out.2.trans h5.2);have S3':=HSB.out _ _ _ h5.1;obtain⟨f1,f2,f3,f4,f5⟩:=HFI.out _ h5.1 H5K.out;have HD:=aQ (HDN.out _ h5.1);have g0:=f1 0 (by omega);have g1:=f1 1 (by omega);have g2:=f1 2 (by omega);have g3:=f1 3 (by omega);have g4:=f1 4 (by omega);have g5:=f1 5 (by omega);have g6:=f1 6 (by omega);have g7:=f1 7 (by omega);have g8:=f1 8 (by omega);have g9:=f1 9 (by omega);have g10:=f1 10 (by omega);have j0:=f2 0 (by omega);have j1:=f2 1 (by omega);have j2:=f2 2 (by omega);have j3:=f2 3 (by omega);have j4:=f2 4 (by omega);have j5:=f2 5 (by omega);have j6:=f2 6 (by omega);have j7:=f2 7 (by omega);have j8:=f2 8 (by omega);have j9:=f2 9 (by omega);have j10:=f2 10 (by omega);have z0:=f3 0;have z1:=f3 1;have z2:=f3 2;have z3:=f3 3;have z4:=f3 4;have z5:=f3 5;have z6:=f3 6;have z7:=f3 7;have z8:=f3 8;have z9:=f3 9;have z10:=f3 10;clear f1 f2 f3 h5))
      all_goals go_wp2_with fail
      all_goals rw[HFE.out]
      all_goals refine bodyPost_ret (v:=regsV F.now) ?_ rfl ⟨rfl,HD.out _ _ _ _ _ _ _ _ _ _ _⟩
      all_goals simp[results,Tryz.results58,go_sem,loadVar,j0,j1,j2,j3,j4,j5,j6,j7,j8,j9,j10]
      all_goals rfl
     ·have hapI:¬ (a:Int)<=(part:Int):=by omega
      have e:=HFN.out hap;obtain⟨f1,f2,f3,f4,f5⟩:=HFI.out wr (e ▸ HWA.out) HWK.out;have HD:=aQ (HDN.out wr (e ▸ HWA.out));have g0:=f1 0 (by omega);have g1:=f1 1 (by omega);have g2:=f1 2 (by omega);have g3:=f1 3 (by omega);have g4:=f1 4 (by omega);have g5:=f1 5 (by omega);have g6:=f1 6 (by omega);have g7:=f1 7 (by omega);have g8:=f1 8 (by omega);have g9:=f1 9 (by omega);have g10:=f1 10 (by omega);have j0:=f2 0 (by omega);have j1:=f2 1 (by omega);have j2:=f2 2 (by omega);have j3:=f2 3 (by omega);have j4:=f2 4 (by omega);have j5:=f2 5 (by omega);have j6:=f2 6 (by omega);have j7:=f2 7 (by omega);have j8:=f2 8 (by omega);have j9:=f2 9 (by omega);have j10:=f2 10 (by omega);have z0:=f3 0;have z1:=f3 1;have z2:=f3 2;have z3:=f3 3;have z4:=f3 4;have z5:=f3 5;have z6:=f3 6;have z7:=f3 7;have z8:=f3 8;have z9:=f3 9;have z10:=f3 10;clear f1 f2 f3;go_wp2_with fail
      rw[HFE.out];refine bodyPost_ret (v:=regsV F.now) ?_ rfl ⟨rfl,HD.out _ _ _ _ _ _ _ _ _ _ _⟩;simp[results,Tryz.results58,go_sem,loadVar,j0,j1,j2,j3,j4,j5,j6,j7,j8,j9,j10];rfl
  ·have HE:=aQ (HST3.out hp0)
   have bp0:((part:Int) == 0)=false:=by simp[hp0]
   have h4:=HA.out;rw[HE.out]at h4;have H4:=aQ (And.intro h4 (Kt.refl T w3));obtain⟨u6,ug,un,ul,u1,u2,ub⟩:=HCL.out _ _ _ h4;have UN:=aQ un;clear un h4 hp0;go_wp2_with fail
   go_loopw [34] (λ u W=>∃ m:Nat,m<=R/\u=.int .i64 (m:Int)/\Hid (Wa w W ⟨bb,gp,part*10,w.heap.size+1+1⟩ (PH m) T/\Kt T w3 W)) (λ u _=>R - (RowKit.intOf u).toNat)
   case atStart=>exact⟨0,Nat.zero_le _,rfl,aQ (by rw[HP0.out];exact H4.out)⟩
   case round =>
    clear H4;obtain⟨m,hm,rfl,HW⟩:=hrel;obtain⟨d6,dg,dn,dl,d1,d2,db⟩:=HCL.out _ _ _ HW.out.1;obtain⟨lw,hn,w0,w1,w13⟩:=HW.out.1.now;obtain⟨cv,fbb,_⟩:=HW.out.1.val;have fb4:=fbb 4;by_cases hmR:m<R
    ·obtain⟨b5,o5,rfl,hb5,e5⟩:=dn.cells m (by rw[HRL.out];exact hmR)
     obtain⟨r0,r10⟩:=HRG.out.1 m (by rw[HRL.out];exact hmR);have HPM:=aQ (HPN.out m hmR);obtain⟨r,hr'⟩:∃ r:Nat,regs.getD m 0=(r:Int):=⟨(regs.getD m 0).toNat,by omega⟩;rw[hr']at e5 HPM;have hr11:r<11:=by omega
     have hrI:(r:Int)<11:=by omega
     have hrI0:(0:Int)<=(r:Int):=by omega
     have hn':=hn r hr11;obtain⟨q1,q2,q3,_⟩:=HQP.out m (by omega);obtain⟨vv,hvv⟩:∃ x,(PH m).v=x:=⟨_,rfl⟩;rw[hvv]at cv q1 q2;have HFR:=aQ (sfresh_any bb vv wr db fb4 cv q1 (by omega));have fzn:=HW.out.1.gl.2.2.1 (2+r)
     have H5:Hid (Wa w ((wr.setCell ⟨bb,4,none⟩ (.int .i64 (vv+1))).setCell ⟨w.heap.size+1+1,2+r,none⟩ (.int .i64 vv)) ⟨bb,gp,part*10,w.heap.size+1+1⟩ { PH m with v:=vv+1,now:=updI (PH m).now r vv } T/\Kt T w3 ((wr.setCell ⟨bb,4,none⟩ (.int .i64 (vv+1))).setCell ⟨w.heap.size+1+1,2+r,none⟩ (.int .i64 vv))):=aQ (by
      have hA:=HW.out.1.setV (vv+1);have hB:=hA.setNow hr11 vv;exact⟨hB,(HW.out.2.setW HW.out.1 (.inl rfl) 4 (.int .i64 (vv+1))).setW hA (.inr (.inr rfl)) (2+r) (.int .i64 vv)⟩)
     clear dn hr' hn fbb;go_wp2_with (go_at_call 105;(with_reducible refine HFR.out.mono ?_);rintro e w5 ⟨rfl,rfl⟩)
     obtain⟨W5,hW5⟩:∃ W,((wr.setCell ⟨bb,4,none⟩ (.int .i64 (vv+1))).setCell ⟨w.heap.size+1+1,2+r,none⟩ (.int .i64 vv))=W:=⟨_,rfl⟩;rw[hW5]at H5 ⊢;obtain⟨L,qn,cn,qf,cf,hWt,hTk⟩:=H5.out.1;have HWT:=aQ hWt;have HTK:=aQ hTk;have HSB:Hid (∀ W,Below W5.heap.size W5 W->W.cell? ⟨w.heap.size+1+1,1,none⟩=some (.pointer (some ⟨gp,part*10,none⟩))):=aQ (λ W hb=>(hb.cell (p:=⟨w.heap.size+1+1,1,none⟩) hWt.wl).trans hWt.w1);have e0:W5.cell? ⟨gp,part*10+1,none⟩=some (.slice qf (PH m).phis.length cf):=hWt.ef;have w1':W5.cell? ⟨w.heap.size+1+1,1,none⟩=some (.pointer (some ⟨gp,part*10,none⟩)):=hWt.w1;have lw':w.heap.size+1+1<W5.heap.size:=hWt.wl;have lg':gp<W5.heap.size:=hWt.bw.2.2.2;have fg':W5.frozen? ⟨gp,part*10+1,none⟩=false:=hWt.fg _;have HMA:Hid (Wt w (W5.alloc (.cells #[.int .i64 vv,.slice none 0 0] 142)).drew ⟨bb,gp,part*10,w.heap.size+1+1⟩ { PH m with v:=vv+1,now:=updI (PH m).now r vv } L qn cn qf cf):=aQ (hWt.next (aD b1));have S1':=HSB.out W5.drew (aD (Below.refl _ _));have SA':=HSB.out (W5.alloc (.cells #[.int .i64 vv,.slice none 0 0] 142)).drew (aD b1)
     have HAP:Hid (∀ (w8:World) (q8:Option Addr) (c8:Nat),w8.ownsRow w.heap.size 142 2 (.slice q8 ((PH m).phis.length+1) c8) ((PH m).phis.length+1) (phsV (PH m).phis ++ [.int .i64 vv,.slice none 0 0])->(W5.alloc (.cells #[.int .i64 vv,.slice none 0 0] 142)).drew.grownBy w8 (Value.slice qf (PH m).phis.length cf).ownBlock->((Value.slice q8 ((PH m).phis.length+1) c8).ownBlock=(Value.slice qf (PH m).phis.length cf).ownBlock∨(Value.slice q8 ((PH m).phis.length+1) c8).ownBlock=some (W5.alloc (.cells #[.int .i64 vv,.slice none 0 0] 142)).drew.heap.size) ->
       (w8.cell? ⟨w.heap.size+1+1,1,none⟩=some (.pointer (some ⟨gp,part*10,none⟩)))/\((w8.setCell ⟨gp,part*10+1,none⟩ (.slice q8 ((PH m).phis.length+1) c8)).cell? ⟨w.heap.size+1+1,1,none⟩=some (.pointer (some ⟨gp,part*10,none⟩)))/\w8.cell? ⟨gp,part*10+1,none⟩=some (.slice qf (PH m).phis.length cf)/\w8.frozen? ⟨gp,part*10+1,none⟩=false/\Hid (Wa w (w8.setCell ⟨gp,part*10+1,none⟩ (.slice q8 ((PH m).phis.length+1) c8)) ⟨bb,gp,part*10,w.heap.size+1+1⟩ (PH (m+1)) T/\Kt T w3 (w8.setCell ⟨gp,part*10+1,none⟩ (.slice q8 ((PH m).phis.length+1) c8)))):=aQ (λ w8 q8 c8 ho hg hb=>by
      have hx:=phi_end HMA.out (HTK.out.next (by simp)) rfl ho hg hb;have hk5:Kt T W5 (W5.alloc (.cells #[.int .i64 vv,.slice none 0 0] 142)).drew:=⟨by simp,λ b hx=>(aD b1:Below W5.heap.size W5 (W5.alloc (.cells #[.int .i64 vv,.slice none 0 0] 142)).drew).block b (HTK.out b hx).2.1⟩;rw[aH]at hg;have hz:∀ b,qf.map Addr.block=some b->w.heap.size<=b:=λ b e=>(HMA.out.qfz e).1
      have n1:w.heap.size+1+1≠gp:=λ e=>HWT.out.bw.2.1 e.symm
      have t0:w8.cell? ⟨w.heap.size+1+1,1,none⟩=some (.pointer (some ⟨gp,part*10,none⟩)):=HMA.out.mid hg hz HMA.out.nf (.inr (.inr rfl)) SA';refine⟨t0,aL t0 (aM (.inl n1)),HMA.out.mid hg hz HMA.out.nf (.inr (.inl rfl)) HMA.out.ef,(HMA.out.midf hg hz HMA.out.nf (.inr (.inl rfl))).trans (HMA.out.fg _),aQ ⟨?_,H5.out.2.trans (hk5.trans hx.2)⟩⟩
      have e:PH (m+1) = { { PH m with v:=vv+1,now:=updI (PH m).now r vv } with phis:=(PH m).phis ++ [vv] }:=by
       rw[HPM.out];unfold phiS;rw[hvv,Int.toNat_natCast]
      rw[e];exact hx.1)
     have HOW:=aQ HMA.out.of;have HBW:=aQ HMA.out.size;have HNL:Hid (∀ j u,[Value.int .i64 vv,.slice none 0 0][j]?=some u->(W5.alloc (.cells #[.int .i64 vv,.slice none 0 0] 142)).drew.cell? ((⟨W5.heap.size,0,none⟩:Addr).add j)=some u):=aQ (J.new_cells1 W5 _ _ rfl);have HL1:=aQ (ph_one vv);have hq4:(PH m).phis.length<=4194304:=by omega
     clear hWt hTk hW5 HFR cv;go_wp2_with fail
     refine wp_region_held_drew (S:=(λ W'=>W'.cell? ⟨w.heap.size+1+1,1,none⟩=some (.pointer (some ⟨gp,part*10,none⟩)))) (by kernel_rfl) ?_ (λ hHeld=>?_)
     ·(try dsimp only);first|exact S1'|exact SA'|exact S8|exact S9
     refine aT 0 rfl (h:=aT 1 rfl (h:=aT 2 rfl (h:=aT 3 rfl (h:=aT 4 rfl (h:=?_)))));try simp only[Act.put,aA,aB,aC]
     refine aT 5 rfl (h:=aT 6 rfl (h:=aT 7 rfl (h:=aT 8 rfl (h:=aT 9 rfl (h:=?_)))));try simp only[Act.put,aA,aB,aC]
     refine aT 11 rfl (h:=aT 12 rfl (h:=?_));try simp only[Act.put,aA,aB,aC]
     refine bY 10 13 (by kernel_rfl) rfl rfl (λ K hK=>?_) (λ K hK=>?_)
     ·
      go_simp
      refine hK.out _ _ ?_ (λ hHeld=>?_)
      ·(try dsimp only);first|exact S1'|exact SA'|exact S8|exact S9
      clear hK K;try simp only[Act.put,aA,aB,aC]
      refine aK 13 (by kernel_rfl) rfl (λ K hK=>?_);go_simp
      refine hK.out _ _ ?_ (λ hHeld=>?_)
      ·(try dsimp only);first|exact S1'|exact SA'|exact S8|exact S9
      clear hK K;try simp only[Act.put,aA,aB,aC]
      refine aK 14 (by kernel_rfl) rfl (λ K hK=>?_)
      (refine fW rfl (.tmp 56) (.tmp 59) rfl rfl w.heap.size ⟨W5.heap.size,0,none⟩ [.int .i64 vv,.slice none 0 0] (phsV (PH m).phis) (.slice qf (PH m).phis.length cf) (PH m).phis.length 1 (by simp[Act.eval]) (by simp[Act.eval];try omega) HOW.out rfl HNL.out HL1.out HBW.out hq4 ?_;intro v8 w8 ho8 hg8 hb8;obtain⟨q8,c8,rfl⟩:=aW ho8;obtain⟨S8,S9,e8,fz8,HPX⟩:=HAP.out w8 q8 c8 ho8 hg8 hb8;clear ho8 hg8 hb8)
      refine hK.out _ _ ?_ (λ hHeld=>?_)
      ·(try dsimp only);first|exact S1'|exact SA'|exact S8|exact S9
      clear hK K;try simp only[Act.put,aA,aB,aC]
      refine aT 15 rfl (h:=aT 16 rfl (h:=?_));try simp only[Act.put,aA,aB,aC]
      refine aK 17 (by kernel_rfl) rfl (λ K hK=>?_);go_simp
      refine hK.out _ _ ?_ (λ hHeld=>?_)
      ·(try dsimp only);first|exact S1'|exact SA'|exact S8|exact S9
      clear hK K;try simp only[Act.put,aA,aB,aC]
      refine wpAnyH_done (by kernel_rfl) ?_ _;go_wp2_with fail
      go_roundw
      all_goals first
       | exact⟨m+1,by omega,rfl,HPX⟩
       | ((simp[RowKit.intOf]) <;> omega)
     ·
      go_simp
      refine hK.out _ _ ?_ (λ hHeld=>?_)
      ·(try dsimp only);first|exact S1'|exact SA'|exact S8|exact S9
      clear hK K;try simp only[Act.put,aA,aB,aC]
      refine aK 10 (by kernel_rfl) rfl (λ K hK=>?_);go_simp
      refine hK.out _ _ ?_ (λ hHeld=>?_)
      ·(try dsimp only);first|exact S1'|exact SA'|exact S8|exact S9
      clear hK K;try simp only[Act.put,aA,aB,aC]
      refine aK 14 (by kernel_rfl) rfl (λ K hK=>?_)
      (refine fW rfl (.tmp 56) (.tmp 59) rfl rfl w.heap.size ⟨W5.heap.size,0,none⟩ [.int .i64 vv,.slice none 0 0] (phsV (PH m).phis) (.slice qf (PH m).phis.length cf) (PH m).phis.length 1 (by simp[Act.eval]) (by simp[Act.eval];try omega) HOW.out rfl HNL.out HL1.out HBW.out hq4 ?_;intro v8 w8 ho8 hg8 hb8;obtain⟨q8,c8,rfl⟩:=aW ho8;obtain⟨S8,S9,e8,fz8,HPX⟩:=HAP.out w8 q8 c8 ho8 hg8 hb8;clear ho8 hg8 hb8)
      refine hK.out _ _ ?_ (λ hHeld=>?_)
      ·(try dsimp only);first|exact S1'|exact SA'|exact S8|exact S9
      clear hK K;try simp only[Act.put,aA,aB,aC]
      refine aT 15 rfl (h:=aT 16 rfl (h:=?_));try simp only[Act.put,aA,aB,aC]
      refine aK 17 (by kernel_rfl) rfl (λ K hK=>?_);go_simp
      refine hK.out _ _ ?_ (λ hHeld=>?_)
      ·(try dsimp only);first|exact S1'|exact SA'|exact S8|exact S9
      clear hK K;try simp only[Act.put,aA,aB,aC]
      refine wpAnyH_done (by kernel_rfl) ?_ _;go_wp2_with fail
      go_roundw
      all_goals first
       | exact⟨m+1,by omega,rfl,HPX⟩
       | ((simp[RowKit.intOf]) <;> omega)
    ·obtain rfl:m=R:=by omega
     have HWA:=aQ HW.out.1;have HWK:=aQ HW.out.2;obtain⟨F,hF⟩:∃ F,cJ l part a now v regs f t la op wide=F:=⟨_,rfl⟩;have HFE:Hid (cJ l part a now v regs f t la op wide=F):=aQ hF;have HFB:Hid (a<=part->cY l (PH m) f t la op wide=F):=aQ (λ h=>by rw[<- hF,HPR.out];unfold cJ;rw[if_pos h]);have HFN:Hid (¬ a<=part->PH m=F):=aQ (λ h=>by rw[<- hF,HPR.out];unfold cJ;rw[if_neg h]);clear hF dn hn HW
     have HFI:Hid (∀ W,Wa w W ⟨bb,gp,part*10,w.heap.size+1+1⟩ F T->Kt T w3 W->(∀ r,r<11->W.cell? ⟨w.heap.size+1+1,2+r,none⟩=some (.int .i64 (F.now r)))/\(∀ i,i<11->W.cell? ⟨w.heap.size+1,i,none⟩=some (.int .i64 0))/\(∀ i,W.frozen? ⟨w.heap.size+1,i,none⟩=false)/\w.heap.size+1<W.heap.size/\w.heap.size+1+1<W.heap.size):=aQ (λ W h1 h2=>by
      obtain⟨k1,k2,k3⟩:=HRR.out W h2;exact⟨h1.now.2.1,k1,k2,k3,h1.now.1⟩)
     have HDN:Hid (∀ W,Wa w W ⟨bb,gp,part*10,w.heap.size+1+1⟩ F T->∀ v0 v1 v2 v3 v4 v5 v6 v7 v8 v9 v10,∃ wb,w.heap.size<=wb/\Wa w (((((((((((W.setCell ⟨w.heap.size+1,0,none⟩ v0).setCell ⟨w.heap.size+1,1,none⟩ v1).setCell ⟨w.heap.size+1,2,none⟩ v2).setCell ⟨w.heap.size+1,3,none⟩ v3).setCell ⟨w.heap.size+1,4,none⟩ v4).setCell ⟨w.heap.size+1,5,none⟩ v5).setCell ⟨w.heap.size+1,6,none⟩ v6).setCell ⟨w.heap.size+1,7,none⟩ v7).setCell ⟨w.heap.size+1,8,none⟩ v8).setCell ⟨w.heap.size+1,9,none⟩ v9).setCell ⟨w.heap.size+1,10,none⟩ v10) ⟨bb,gp,part*10,wb⟩ F (λ _=>False)):=aQ (λ W h v0 v1 v2 v3 v4 v5 v6 v7 v8 v9 v10=>⟨_,by omega,(((((((((((h.tset HTR.out 0 v0).tset HTR.out 1 v1).tset HTR.out 2 v2).tset HTR.out 3 v3).tset HTR.out 4 v4).tset HTR.out 5 v5).tset HTR.out 6 v6).tset HTR.out 7 v7).tset HTR.out 8 v8).tset HTR.out 9 v9).tset HTR.out 10 v10).mono (λ _ hx=>hx.elim)⟩);have HAX:Hid (Wa w wr.drew ⟨bb,gp,part*10,w.heap.size+1+1⟩ (PH m) T/\Kt T w3 wr.drew):=aQ ⟨HWA.out.next (aD (Below.refl _ _)),HWK.out.trans (HWA.out.kt (aD (Below.refl _ _)))⟩;by_cases hap:a<=part
     ·obtain⟨p1,p2,p3,p4⟩:=HB.out.pa hap
      obtain⟨bB,oB,sp,sc,pp,pc,hqB,hbB,t0,t1,t2,t3,t4,_,_⟩:=HB.out.bks.cells (part - a) p1;obtain⟨nB1,nB2⟩:=HB.out.bn _ hqB;subst hqB;obtain⟨ib,hib⟩:∃ ib,part - a=ib:=⟨_,rfl⟩;rw[hib]at p1 p2 p3 p4 t0 t1 t2 t3 t4;rw[p2]at t0;rw[p3]at t1;rw[p4]at t2;obtain⟨sn,hsn⟩:∃ n,(bk Bl ib).su.length=n:=⟨_,rfl⟩;obtain⟨pn,hpn'⟩:∃ n,(bk Bl ib).pr.length=n:=⟨_,rfl⟩;rw[hsn]at t3;rw[hpn']at t4;have hsub:(part:Int) - (a:Int)=(ib:Int):=by omega
      have hibI:(ib:Int)<(Bl.length:Int):=by omega
      have hwr:IntKind.i64.wrap (ib:Int)=(ib:Int):=by rw[IntKind.wrap_i64];omega
      have hib0:(0:Int)<=(ib:Int):=by omega
      have hBs:=HB.out.bks.small;have hapI:(a:Int)<=(part:Int):=by omega
      have HSB:Hid (∀ W s' T',Wa w W ⟨bb,gp,part*10,w.heap.size+1+1⟩ s' T'->W.cell? ⟨bb,1,none⟩=some (.slice (some ⟨bB,oB,none⟩) Bl.length cB)/\W.cell? ⟨bb,2,none⟩=some (.int .i64 (a:Int))/\W.cell? ⟨bB,oB+ib*5,none⟩=some (.int .i64 (f:Int))/\W.cell? ⟨bB,oB+ib*5+1,none⟩=some (.int .i64 (t:Int))/\W.cell? ⟨bB,oB+ib*5+2,none⟩=some (.int .i64 (la:Int))/\W.cell? ⟨bB,oB+ib*5+3,none⟩=some (.slice sp sn sc)/\W.cell? ⟨bB,oB+ib*5+4,none⟩=some (.slice pp pn pc)):=aQ (λ W s' T' h=>by
       obtain⟨_,_,_,_,e1,e2,_⟩:=HCL.out W s' T' h;obtain⟨L,qn,cn,qf,cf,h,_⟩:=h;have ho:∀ o,W.cell? ⟨bB,o,none⟩=w.cell? ⟨bB,o,none⟩:=λ o=>World.cell?_of_block (a:=⟨bB,o,none⟩) (h.old bB hbB nB1 nB2)
       exact⟨e1,e2,(ho _).trans t0,(ho _).trans t1,(ho _).trans t2,(ho _).trans t3,(ho _).trans t4⟩)
      have S1':=HSB.out _ _ _ HWA.out;have S2':=HSB.out _ _ _ HAX.out.1
      have HBLK:Hid (∀ W,Wa w W ⟨bb,gp,part*10,w.heap.size+1+1⟩ (PH m) T->Calls Tryz.prog 106 #[.pointer (some ⟨w.heap.size+1+1,0,none⟩),.agg #[.int .i64 (f:Int),.int .i64 (t:Int),.int .i64 (la:Int),.slice sp sn sc,.slice pp pn pc]] W λ e w'=>e=.returned (.tuple #[])/\Wa w w' ⟨bb,gp,part*10,w.heap.size+1+1⟩ F T/\Kt T W w'):=aQ (λ W h=>by
       have hq:=(HQP.out m (Nat.le_refl _)).2.2.2;have hx:=sblk_any f t la sp pp sn sc pn pc op wide W h HZK.out HZP.out hft htl hla hlN (hq.mono (by omega)) hd hs hr c3 c5;rw[HFB.out hap]at hx;exact hx)
      clear t0 t1 t2 t3 t4 p1 p2 p3 p4 hsn hpn';go_wp2_with fail
      go_region_held3 (λ W'=>W'.cell? ⟨bb,1,none⟩=some (.slice (some ⟨bB,oB,none⟩) Bl.length cB)/\W'.cell? ⟨bb,2,none⟩=some (.int .i64 (a:Int))/\W'.cell? ⟨bB,oB+ib*5,none⟩=some (.int .i64 (f:Int))/\W'.cell? ⟨bB,oB+ib*5+1,none⟩=some (.int .i64 (t:Int))/\W'.cell? ⟨bB,oB+ib*5+2,none⟩=some (.int .i64 (la:Int))/\W'.cell? ⟨bB,oB+ib*5+3,none⟩=some (.slice sp sn sc)/\W'.cell? ⟨bB,oB+ib*5+4,none⟩=some (.slice pp pn pc))
       (first|exact S1'|exact S2'|exact S3')
       (first|(go_at_call 106;(with_reducible refine(HBLK.out _ HAX.out.1).mono ?_);rintro e w5 ⟨rfl,h5⟩;have H5:=aQ h5.1;have H5K:=aQ (HAX.out.2.trans h5.2);have S3':=HSB.out _ _ _ h5.1;obtain⟨f1,f2,f3,f4,f5⟩:=HFI.out _ h5.1 H5K.out;have HD:=aQ (HDN.out _ h5.1);have g0:=f1 0 (by omega);have g1:=f1 1 (by omega);have g2:=f1 2 (by omega);have g3:=f1 3 (by omega);have g4:=f1 4 (by omega);have g5:=f1 5 (by omega);have g6:=f1 6 (by omega);have g7:=f1 7 (by omega);have g8:=f1 8 (by omega);have g9:=f1 9 (by omega);have g10:=f1 10 (by omega);have j0:=f2 0 (by omega);have j1:=f2 1 (by omega);have j2:=f2 2 (by omega);have j3:=f2 3 (by omega);have j4:=f2 4 (by omega);have j5:=f2 5 (by omega);have j6:=f2 6 (by omega);have j7:=f2 7 (by omega);have j8:=f2 8 (by omega);have j9:=f2 9 (by omega);have j10:=f2 10 (by omega);have z0:=f3 0;have z1:=f3 1;have z2:=f3 2;have z3:=f3 3;have z4:=f3 4;have z5:=f3 5;have z6:=f3 6;have z7:=f3 7;have z8:=f3 8;have z9:=f3 9;have z10:=f3 10;clear f1 f2 f3 h5))
      all_goals go_wp2_with fail
      all_goals rw[HFE.out]
      all_goals refine bodyPost_ret (v:=regsV F.now) ?_ rfl ⟨rfl,HD.out _ _ _ _ _ _ _ _ _ _ _⟩
      all_goals simp[results,Tryz.results58,go_sem,loadVar,j0,j1,j2,j3,j4,j5,j6,j7,j8,j9,j10]
      all_goals rfl
     ·have hapI:¬ (a:Int)<=(part:Int):=by omega
      have e:=HFN.out hap;obtain⟨f1,f2,f3,f4,f5⟩:=HFI.out wr (e ▸ HWA.out) HWK.out;have HD:=aQ (HDN.out wr (e ▸ HWA.out));have g0:=f1 0 (by omega);have g1:=f1 1 (by omega);have g2:=f1 2 (by omega);have g3:=f1 3 (by omega);have g4:=f1 4 (by omega);have g5:=f1 5 (by omega);have g6:=f1 6 (by omega);have g7:=f1 7 (by omega);have g8:=f1 8 (by omega);have g9:=f1 9 (by omega);have g10:=f1 10 (by omega);have j0:=f2 0 (by omega);have j1:=f2 1 (by omega);have j2:=f2 2 (by omega);have j3:=f2 3 (by omega);have j4:=f2 4 (by omega);have j5:=f2 5 (by omega);have j6:=f2 6 (by omega);have j7:=f2 7 (by omega);have j8:=f2 8 (by omega);have j9:=f2 9 (by omega);have j10:=f2 10 (by omega);have z0:=f3 0;have z1:=f3 1;have z2:=f3 2;have z3:=f3 3;have z4:=f3 4;have z5:=f3 5;have z6:=f3 6;have z7:=f3 7;have z8:=f3 8;have z9:=f3 9;have z10:=f3 10;clear f1 f2 f3;go_wp2_with fail
      rw[HFE.out];refine bodyPost_ret (v:=regsV F.now) ?_ rfl ⟨rfl,HD.out _ _ _ _ _ _ _ _ _ _ _⟩;simp[results,Tryz.results58,go_sem,loadVar,j0,j1,j2,j3,j4,j5,j6,j7,j8,j9,j10];rfl
abbrev aE(f0 f1:Int)(i b5 o5 sc:Nat)(pp:Option Addr)(pn pc:Nat):Obj:=.cells #[.int .i64 f0,.int .i64 f1,.int .i64 (i:Int),.slice (some ⟨b5,o5,none⟩) 2 sc,.slice pp pn pc] 94
abbrev aF(w:World)(f0 f1:Int)(i b5 o5 sc:Nat)(pp:Option Addr)(pn pc:Nat):World:=(w.alloc (aE f0 f1 i b5 o5 sc pp pn pc)).alloc (.cells #[.int .i64 0,.int .i64 0,.bool false,.int .i64 0,.int .i64 0,.int .i64 0,.int .i64 0] 39)
def NumsF(l:List Int)(w:World)(e:Ending)(w':World):Prop :=
 ∃ p c,e=.returned (.slice p l.length c)/\NumsAt .i64 w' p l/\(∀ ad,p=some ad->w.heap.size<=ad.block)/\Below w.heap.size w w'
theorem sleads_any(e:Te)(w:World):Calls Tryz.prog 98 #[.agg #[.int .i64 e.op,.int .i64 e.cond,.bool e.wide,.int .i64 e.a,.int .i64 e.b,.int .i64 e.to',.int .i64 e.els]] w (NumsF (aY e) w):=by
 have HQ:Hid (∀ L W p n,aY e=L->L.length=n->NumsAt .i64 W p L->(∀ ad,p=some ad->w.heap.size<=ad.block)->Below w.heap.size w W->NumsF (aY e) w (.returned (.slice p n n)) W):=aQ (λ L W p n h1 h2 h3 h5 h4=>by
  rw[h1];subst h2;exact⟨p,_,rfl,h3,h5,h4⟩)
 have H1:Hid (e.op=1->aY e=[e.to']):=aQ (λ h=>J.leads1 h);have H2:Hid (e.op=2->aY e=[e.to',e.els]):=aQ (λ h=>J.leads2 h);have H3:Hid (¬ e.op=1->¬ e.op=2->aY e=[]):=aQ (λ h h'=>J.leads0 h h');generalize NumsF (aY e) w=Q at *;generalize aY e=L at *;generalize e.op=eo at *;generalize e.cond=ec at *;generalize e.wide=ew at *;generalize e.a=ea at *;generalize e.b=eb at *;generalize e.to'=et at *;generalize e.els=ee at *;by_cases h1:eo=1
 ·have HE:=aQ (H1.out h1)
  subst h1;clear H1 H2 H3;go_enter Tryz.func98,Tryz.ntmps98
  go_wp2_with fail
  exact HQ.out [et] _ _ 1 HE.out rfl (fZ _ (by simp) rfl (by simp)) (λ ad e=>by cases e;simp) b2
 ·by_cases h2:eo=2
  ·have HE:=aQ (H2.out h2)
   subst h2;clear H1 H2 H3 h1;go_enter Tryz.func98,Tryz.ntmps98
   go_wp2_with fail
   exact HQ.out [et,ee] _ _ 2 HE.out rfl (fZ _ (by simp) rfl (by simp)) (λ ad e=>by cases e;simp) b2
  ·have HE:=aQ (H3.out h1 h2)
   have b1':(eo == 1)=false:=by simpa using h1
   have b2':(eo == 2)=false:=by simpa using h2
   clear H1 H2 H3;go_enter Tryz.func98,Tryz.ntmps98
   go_wp2_with fail
   exact HQ.out [] _ _ 0 HE.out rfl (gO _ _) (λ ad e=>by cases e) b1
theorem spartOf_any(bb:Nat)(a b:Int)(w:World)(c2:w.cell? ⟨bb,2,none⟩=some (.int .i64 a))(h:IntKind.i64.wrap (b+a)=b+a):Calls Tryz.prog 96 #[.pointer (some ⟨bb,0,none⟩),.int .i64 b] w λ e w'=>e=.returned (.int .i64 (b+a))/\w'=w:=by
 go_enter Tryz.func96,Tryz.ntmps96
 go_wp2_with fail
 go_ret;exact⟨rfl,rfl⟩
def endB(l:List In)(a:Nat)(x:Bk):Te :=
 match x.su with
 | []=>⟨3,0,false,0,0,0,0⟩
 | [s]=>⟨1,0,false,0,0,s+a,0⟩
 | s :: t :: _=>⟨2,if jmpB (l.getD x.la.toNat z).op=true then (l.getD x.la.toNat z).op - (l.getD x.la.toNat z).op % 16 else 0,jmpB (l.getD x.la.toNat z).op && decide ((l.getD x.la.toNat z).op % 8=5),0,0,t+a,s+a⟩
theorem send_any(bb a:Nat)(l:List In)(q:Option Addr)(qc:Nat)(x:Bk)(sp pp:Option Addr)(sc pn pc:Nat)(w:World)(c0:w.cell? ⟨bb,0,none⟩=some (.slice q l.length qc))(c2:w.cell? ⟨bb,2,none⟩=some (.int .i64 (a:Int)))(hI:InsAt w q l)(hbl:bb<w.heap.size)(hs:NumsAt .i64 w sp x.su)(hsu:x.su.length<=2)(hla:0<=x.la/\x.la<l.length)(hb:∀ s∈x.su,0<=s/\s<=4096)(ha:a<=1) :
  Calls Tryz.prog 51 #[.pointer (some ⟨bb,0,none⟩),.agg #[.int .i64 x.fr,.int .i64 x.to,.int .i64 x.la,.slice sp x.su.length sc,.slice pp pn pc]] w λ e w'=>(e=.returned (.agg #[.int .i64 ((endB l a x)).op,.int .i64 ((endB l a x)).cond,.bool ((endB l a x)).wide,.int .i64 ((endB l a x)).a,.int .i64 ((endB l a x)).b,.int .i64 ((endB l a x)).to',.int .i64 ((endB l a x)).els]))/\Below w.heap.size w w':=by
 have HP:=aQ (λ (b:Int) (W:World) (hb:Below w.heap.size w W) (h:0<=b/\b<=4096)=>spartOf_any bb a b W ((hb.cell (p:=⟨bb,2,none⟩) hbl).trans c2) (by rw[IntKind.wrap_i64];omega));obtain⟨i,hi⟩:∃ i:Nat,x.la=(i:Int):=⟨x.la.toNat,by omega⟩;have hil:i<l.length:=by omega
 obtain⟨bp,off,rfl,hbp,i0,i1,i2,i3,i4,i5⟩:=hI.cells i hil;have hilI:(i:Int)<(l.length:Int):=by omega
 have hsm:=hI.small;have HJ:=aQ (λ W=>jump_any (l.getD i z).op W (hI.bd i hil).op.1 (hI.bd i hil).op.2);obtain⟨E,hE⟩:∃ E,endB l a x=E:=⟨_,rfl⟩;rw[hE,hi];unfold endB at hE;rw[hi,Int.toNat_natCast]at hE;unfold JmpP at HJ;generalize (l.getD i z).op=x0 at *;generalize (if jmpB x0=true then x0 - x0 % 16 else 0)=jc at *;generalize (jmpB x0 && decide (x0 % 8=5))=jw at *;generalize jmpB x0=jb at *;generalize x.fr=f0 at *;generalize x.to=f1 at *;generalize l.length=N at *;generalize x.su=su at *
 match su,hsu,hb,hs,hE with
 | [],_,_,_,hE =>
  subst hE;clear HJ HP i0 i1 i2 i3 i4 i5;go_enter Tryz.func51,Tryz.ntmps51
  go_wp2_with fail
  exact bodyPost_ret (by simp[results,Tryz.results51,go_sem,loadVar]) rfl ⟨rfl,b2⟩
 | [s],_,hb,hs,hE =>
  obtain⟨b5,o5,rfl,hb5,e5⟩:=hs.cells 0 (by simp);have e5':w.cell? ⟨b5,o5,none⟩=some (.int .i64 s):=e5;have HS:=aQ (λ W hB=>HP.out s W hB (hb s (by simp)));have HW:Hid (IntKind.i64.wrap (s+(a:Int))=s+(a:Int)):=aQ (by have:=hb s (by simp);rw[IntKind.wrap_i64];omega);subst hE;clear HJ i0 i1 i2 i3 i4 i5;go_enter Tryz.func51,Tryz.ntmps51
  go_wp2_with (go_at_call 96;(with_reducible refine(HS.out _ b2).mono ?_);rintro e w1 ⟨rfl,rfl⟩)
  exact bodyPost_ret (by simp[results,Tryz.results51,go_sem,loadVar]) rfl ⟨rfl,b2⟩
 | [s,t],_,hb,hs,hE =>
  obtain⟨b5,o5,rfl,hb5,e5⟩:=hs.cells 0 (by simp);have e5':w.cell? ⟨b5,o5,none⟩=some (.int .i64 s):=e5;obtain⟨b6,o6,hq6,hb6,e6⟩:=hs.cells 1 (by simp);obtain⟨rfl,rfl⟩:b5=b6/\o5=o6:=by injection hq6 with h;injection h with h1 h2;exact⟨h1,h2⟩
  have e6':w.cell? ⟨b5,o5+1,none⟩=some (.int .i64 t):=e6;have HS:=aQ (λ W hB=>HP.out s W hB (hb s (by simp)));have HT:=aQ (λ W hB=>HP.out t W hB (hb t (by simp)));subst hE;have hi0:(0:Int)<=(i:Int):=by omega
  have hbp':=hI
  have S1:(aF w f0 f1 i b5 o5 sc pp pn pc).cell? ⟨bb,0,none⟩=some (.slice (some ⟨bp,off,none⟩) N qc)/\(aF w f0 f1 i b5 o5 sc pp pn pc).cell? ⟨w.heap.size,2,none⟩=some (.int .i64 (i:Int))/\(aF w f0 f1 i b5 o5 sc pp pn pc).cell? ⟨bp,off+i*6,none⟩=some (.int .i64 x0):=by
   have k:∀ p:Addr,p.block<w.heap.size->(aF w f0 f1 i b5 o5 sc pp pn pc).cell? p=w.cell? p:=λ p h=>b2.cell h
   exact⟨(k _ hbl).trans c0,((b1 (w:=w.alloc (aE f0 f1 i b5 o5 sc pp pn pc)) (o:=(.cells #[.int .i64 0,.int .i64 0,.bool false,.int .i64 0,.int .i64 0,.int .i64 0,.int .i64 0] 39))).cell (p:=⟨w.heap.size,2,none⟩) (by simp)).trans (aJ w rfl),(k _ hbp).trans i0⟩
  have S2:(aF w f0 f1 i b5 o5 sc pp pn pc).drew.cell? ⟨bb,0,none⟩=some (.slice (some ⟨bp,off,none⟩) N qc)/\(aF w f0 f1 i b5 o5 sc pp pn pc).drew.cell? ⟨w.heap.size,2,none⟩=some (.int .i64 (i:Int))/\(aF w f0 f1 i b5 o5 sc pp pn pc).drew.cell? ⟨bp,off+i*6,none⟩=some (.int .i64 x0):=S1
  have S3:(aF w f0 f1 i b5 o5 sc pp pn pc).cell? ⟨w.heap.size,3,none⟩=some (.slice (some ⟨b5,o5,none⟩) 2 sc)/\(aF w f0 f1 i b5 o5 sc pp pn pc).cell? ⟨b5,o5,none⟩=some (.int .i64 s)/\(aF w f0 f1 i b5 o5 sc pp pn pc).cell? ⟨b5,o5+1,none⟩=some (.int .i64 t):=by
   have k:∀ p:Addr,p.block<w.heap.size->(aF w f0 f1 i b5 o5 sc pp pn pc).cell? p=w.cell? p:=λ p h=>b2.cell h
   exact⟨((b1 (w:=w.alloc (aE f0 f1 i b5 o5 sc pp pn pc)) (o:=(.cells #[.int .i64 0,.int .i64 0,.bool false,.int .i64 0,.int .i64 0,.int .i64 0,.int .i64 0] 39))).cell (p:=⟨w.heap.size,3,none⟩) (by simp)).trans (aJ w rfl),(k _ hb5).trans e5',(k _ hb5).trans e6'⟩
  have S4:(aF w f0 f1 i b5 o5 sc pp pn pc).drew.drew.cell? ⟨w.heap.size,3,none⟩=some (.slice (some ⟨b5,o5,none⟩) 2 sc)/\(aF w f0 f1 i b5 o5 sc pp pn pc).drew.drew.cell? ⟨b5,o5,none⟩=some (.int .i64 s)/\(aF w f0 f1 i b5 o5 sc pp pn pc).drew.drew.cell? ⟨b5,o5+1,none⟩=some (.int .i64 t):=S3
  have S5:((w.alloc (aE f0 f1 i b5 o5 sc pp pn pc)).alloc (.cells #[.int .i64 2,.int .i64 jc,.bool jw,.int .i64 0,.int .i64 0,.int .i64 (t+(a:Int)),.int .i64 (s+(a:Int))] 39)).drew.drew.cell? ⟨w.heap.size,3,none⟩=some (.slice (some ⟨b5,o5,none⟩) 2 sc)/\((w.alloc (aE f0 f1 i b5 o5 sc pp pn pc)).alloc (.cells #[.int .i64 2,.int .i64 jc,.bool jw,.int .i64 0,.int .i64 0,.int .i64 (t+(a:Int)),.int .i64 (s+(a:Int))] 39)).drew.drew.cell? ⟨b5,o5,none⟩=some (.int .i64 s)/\((w.alloc (aE f0 f1 i b5 o5 sc pp pn pc)).alloc (.cells #[.int .i64 2,.int .i64 jc,.bool jw,.int .i64 0,.int .i64 0,.int .i64 (t+(a:Int)),.int .i64 (s+(a:Int))] 39)).drew.drew.cell? ⟨b5,o5+1,none⟩=some (.int .i64 t):=by
   have k:∀ p:Addr,p.block<w.heap.size->((w.alloc (aE f0 f1 i b5 o5 sc pp pn pc)).alloc (.cells #[.int .i64 2,.int .i64 jc,.bool jw,.int .i64 0,.int .i64 0,.int .i64 (t+(a:Int)),.int .i64 (s+(a:Int))] 39)).cell? p=w.cell? p:=λ p h=>b2.cell h
   exact⟨((b1 (w:=w.alloc (aE f0 f1 i b5 o5 sc pp pn pc)) (o:=(.cells #[.int .i64 2,.int .i64 jc,.bool jw,.int .i64 0,.int .i64 0,.int .i64 (t+(a:Int)),.int .i64 (s+(a:Int))] 39))).cell (p:=⟨w.heap.size,3,none⟩) (by simp)).trans (aJ w rfl),(k _ hb5).trans e5',(k _ hb5).trans e6'⟩
  have HB4:Hid (Below w.heap.size w (aF w f0 f1 i b5 o5 sc pp pn pc).drew.drew):=aQ (aD (aD b2));clear hsu hI;go_enter Tryz.func51,Tryz.ntmps51
  go_wp2_with fail
  go_region_held3 (λ W'=>W'.cell? ⟨bb,0,none⟩=some (.slice (some ⟨bp,off,none⟩) N qc)/\W'.cell? ⟨w.heap.size,2,none⟩=some (.int .i64 (i:Int))/\W'.cell? ⟨bp,off+i*6,none⟩=some (.int .i64 x0))
   (first|exact S1|exact S2)
   (first|(go_at_call 97;(with_reducible refine(HJ.out _).mono ?_);rintro e w1 ⟨rfl,rfl⟩))
  all_goals go_wp2_with fail
  go_region_held3 (λ W'=>W'.cell? ⟨w.heap.size,3,none⟩=some (.slice (some ⟨b5,o5,none⟩) 2 sc)/\W'.cell? ⟨b5,o5,none⟩=some (.int .i64 s)/\W'.cell? ⟨b5,o5+1,none⟩=some (.int .i64 t))
   (first|exact S3|exact S4|exact S5)
   (first|(go_at_call 96;(with_reducible refine(HT.out _ HB4.out).mono ?_);rintro e w1 ⟨rfl,rfl⟩)|(go_at_call 96;(with_reducible refine(HS.out _ HB4.out).mono ?_);rintro e w1 ⟨rfl,rfl⟩))
  all_goals go_wp2_with fail
  all_goals exact bodyPost_ret (by simp[results,Tryz.results51,go_sem,loadVar]) rfl ⟨rfl,aD (aD b2)⟩
end Go.Proofs.YtkfahppdklecdaaGreatDoor
