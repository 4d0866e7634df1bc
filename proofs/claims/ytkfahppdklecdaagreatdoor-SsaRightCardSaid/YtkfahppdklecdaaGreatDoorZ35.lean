import Derived.Test.YtkfahppdklecdaaGreatDoorZ34
set_option maxRecDepth 100000
set_option maxHeartbeats 16000000
namespace Go.Proofs.YtkfahppdklecdaaGreatDoor.J
open Go.RowKit
open Dm M
def MeQ(k:Lk)(W:World)(e:Ending)(W':World):Prop :=
 ∃ gh P C,e=.returned (.tuple #[])/\W.heap.size<=gh/\Chg W.heap.size (λ b=>b=k.bb) W W'/\(∀ j,j≠6->W'.cell? ⟨k.bb,j,none⟩=W.cell? ⟨k.bb,j,none⟩)/\(∀ j,W'.frozen? ⟨k.bb,j,none⟩=false)/\W'.cell? ⟨k.bb,6,none⟩=some (.slice (some ⟨gh,0,none⟩) k.n k.n) /\
  Sr W.heap.size W' gh (List.range k.n) (eH (frontL (bF k.L)) (setsA k.l k.B k.a k.B.length) 11) P C
theorem index_rows(cs:List Value)(_hl:cs.length=11)(x:Nat)(hx:x<11)(v:Value)(hv:cs[x]?=some v)(W:World):(Instr.index 131 (.agg cs.toArray) (.int .i64 (x:Int))).run Tryz.prog W=.ok v W:=by
 have hs:(sizeOf 34).run Tryz.prog W=.ok 1 W:=by kernel_rfl
 have hb:0<=(x:Int)/\(x:Int)<(11:Nat):=by omega
 simp[Instr.index,run_underlying (Tryz.underlying131:Tryz.prog.underlying 131=_),asIntOf,hb,hs,part,hv,go_sem];intro h;omega
theorem bmeet_any(k:Lk)(P0:Nat->Option Addr)(C0:Nat->Nat)(w W:World)(h:Ly w W k P0 C0)(hI:InsAt w k.q k.l)(hB:BksAt w k.qB k.B)(hl0:0<k.l.length)(hN:k.l.length<=4096)(hqc:k.l.length<=k.qc)(hBn:k.B.length<=998)(ha:k.a<=1)
  (hbk:∀ i,i<k.B.length->0<=(bk k.B i).fr/\(bk k.B i).fr<=(bk k.B i).to/\(bk k.B i).to<=(k.l.length:Int)) (hd:∀ i,i<k.l.length->dU (k.l.getD i z)=true->0<=cQ (k.l.getD i z)/\cQ (k.l.getD i z)<=10)
  (hn:k.n<=999) (hT:tot (bF k.L)<=4096) (hWd:Wd (bF k.L)) (hE:WdE (frontL (bF k.L))) (hSA:∀ j,j<11->(setsA k.l k.B k.a k.B.length j).length<=65536/\∀ x∈setsA k.l k.B k.a k.B.length j,0<=x/\x<(k.n:Int)) :
  Calls Tryz.prog 17 #[.pointer (some ⟨k.bb,0,none⟩)] W (MeQ k W):=by
 have hgl:(bF k.L).length=k.n:=by rw[bP];simp[Lk.L,Lk.n,layP]
 have hfl:(frontL (bF k.L)).length=k.n:=by simp[frontL,hgl]
 have hbbW:k.bb<W.heap.size:=by have:=h.bgp;have:=h.gzs;have:=h.zgs;have:=h.gzp;have:=h.zpW;omega
 have hwb:w.heap.size<=k.bb:=by have:=h.mbw;have:=h.mbb;omega
 have c3:=h.c3;have c5:=h.c5;have c6:=h.c6;have fb:=h.fb;obtain⟨E,hEe⟩:∃ E,frontL (bF k.L)=E:=⟨_,rfl⟩;obtain⟨A,hAe⟩:∃ A,setsA k.l k.B k.a k.B.length=A:=⟨_,rfl⟩;obtain⟨n,hne⟩:∃ n,k.n=n:=⟨_,rfl⟩;rw[hne]at hn hgl hfl c3 c5 hSA;rw[hEe]at hfl hE;rw[hAe]at hSA
 have HFR:Hid (∀ W',Chg W.heap.size (λ b=>b=k.bb) W W'->Calls Tryz.prog 53 #[.slice (some ⟨k.gs,0,none⟩) n n] W' (RowsB E W')):=aQ (λ W' hb=>by
  have hs:GsF k.zs k.zp W' (some ⟨k.gs,0,none⟩) (bF k.L):=by
   have hzp:=h.zpW;have hbz:k.bb<k.zs:=Nat.lt_trans h.bgp h.gzs;exact h.su.move (Nat.le_trans hzp hb.size) (λ b h1 h2=>hb.block b (by omega) (by show ¬ b=k.bb;omega))
  have:=sfront_any (some ⟨k.gs,0,none⟩) n (bF k.L) W' hs.at (by rw[hgl];omega) hT hWd;rw[hgl,hEe]at this;exact this)
 have HST:Hid (∀ W',Chg W.heap.size (λ b=>b=k.bb) W W'->(∀ j,j≠6->W'.cell? ⟨k.bb,j,none⟩=W.cell? ⟨k.bb,j,none⟩)->Calls Tryz.prog 54 #[.pointer (some ⟨k.bb,0,none⟩)] W' (StQ W' A)):=aQ (λ W' hc hj=>by
  have hlo:Below w.heap.size w W':=h.low.trans (hc.below h.low.size (λ b e=>by have:b=k.bb:=e;omega));have:=ssetters_any k.bb k.a k.l k.q k.qc k.B k.qB k.cB W' ((hj 0 (by decide)).trans h.c0) ((hj 1 (by decide)).trans h.c1) ((hj 2 (by decide)).trans h.c2) (hI.below hlo) (hB.below hlo) (Nat.lt_of_lt_of_le hbbW hc.size) hl0 hN hqc (by omega) ha hbk hd;rw[hAe]at this;exact this)
 have HSA:=aQ hSA;have HWE:=aQ hE;have HFL:=aQ hfl;obtain⟨bb,hbb⟩:∃ b,k.bb=b:=⟨_,rfl⟩;obtain⟨gs,hgs⟩:∃ b,k.gs=b:=⟨_,rfl⟩;obtain⟨gp,hgp⟩:∃ b,k.gp=b:=⟨_,rfl⟩;obtain⟨cap,hcap⟩:∃ b,k.cap=b:=⟨_,rfl⟩;rw[hbb]at hbbW c3 c5 c6 fb HFR HST ⊢;rw[hgs]at c5 HFR;rw[hgp,hcap]at c3
 have HQ:Hid (∀ W' gh P C,W.heap.size<=gh->Chg W.heap.size (λ b=>b=bb) W W'->(∀ j,j≠6->W'.cell? ⟨bb,j,none⟩=W.cell? ⟨bb,j,none⟩)->(∀ j,W'.frozen? ⟨bb,j,none⟩=false)->W'.cell? ⟨bb,6,none⟩=some (.slice (some ⟨gh,0,none⟩) n n)->Sr W.heap.size W' gh (List.range n) (eH E A 11) P C->MeQ k W (.returned (.tuple #[])) W'):=aQ (λ W' gh P C h1 h2 h3 h4 h5 h6=>by
  unfold MeQ;rw[hEe,hAe,hne,hbb];exact⟨gh,P,C,rfl,h1,h2,h3,h4,h5,h6⟩)
 generalize MeQ k W=Q at *;have f6:=fb 6;have FB:=aQ fb;have HBW:=aQ hbbW;have hmk:=λ W=>run_make_row' (P:=Tryz.prog) 72 34 (.slice none 0 0) 24 Tryz.underlying72 infoInts rfl .i64 .i64 n (by omega) (by omega) W
 clear h hI hB hl0 hN hqc hBn ha hbk hd hT hWd hE hSA hgl hfl hwb hEe hAe hne hbb hgs hgp hcap fb;go_enter Tryz.func17,Tryz.ntmps17
 go_upto_region 1 with fail
 obtain⟨wm,hwm⟩:∃ X,W.setCell ⟨bb,6,none⟩ (.slice (some ⟨W.heap.size,0,none⟩) n n)=X:=⟨_,rfl⟩;rw[hwm];have hsm:wm.heap.size=W.heap.size:=by rw[<- hwm];simp[World.setCell]
 rw[<- hsm];obtain⟨w1,hw1⟩:∃ X,wm.alloc (.cells (madeCells #[.slice none 0 0] n) 34)=X:=⟨_,rfl⟩;rw[hw1,hsm];obtain⟨gh,hgh⟩:∃ g,W.heap.size=g:=⟨_,rfl⟩;have hs1:w1.heap.size=gh+1:=by rw[<- hw1,World.size_alloc,hsm,hgh]
 have hb0:Below wm.heap.size wm w1:=by rw[<- hw1];exact b1
 have hbm:bb<wm.heap.size:=by rw[hsm];exact hbbW
 have hch1:Chg W.heap.size (λ b=>b=bb) W w1:=by
  refine Chg.grown (W:=wm) ?_ (below_grown hb0) (by rw[hsm];exact Nat.le_refl _) (λ _ e=>by cases e);rw[<- hwm];exact(Chg.refl _ _ _).grown (bC _ _ _) (Nat.le_refl _) (λ b e=>by injection e with e;exact .inr e.symm)
 have hj1:∀ j,j≠6->w1.cell? ⟨bb,j,none⟩=W.cell? ⟨bb,j,none⟩:=λ j hj=>by
  refine(hb0.cell (p:=⟨bb,j,none⟩) hbm).trans ?_;rw[<- hwm];exact bO (aM (.inr hj))
 have h61:w1.cell? ⟨bb,6,none⟩=some (.slice (some ⟨gh,0,none⟩) n n):=by
  refine(hb0.cell (p:=⟨bb,6,none⟩) hbm).trans ?_;rw[<- hwm,hgh];exact World.cell?_setCell_same _ _ _ c6
 have hf1:∀ j,w1.frozen? ⟨bb,j,none⟩=false:=λ j=>by
  refine(hb0.frozen (p:=⟨bb,j,none⟩) hbm).trans ?_;rw[<- hwm];exact(World.frozen?_setCell ..).trans (FB.out j)
 have HSR1:Hid (∀ base,Sr base w1 gh (List.range n) (λ _=>[]) (λ _=>none) (λ _=>0)):=aQ (λ base=>by
  have:=Sr.rows base wm n;rw[hw1,hsm,hgh]at this;exact this)
 have HC1:=aQ hch1;have HJ1:=aQ hj1;have e5:=(hj1 5 (by decide)).trans c5;have HF1:=aQ (HFR.out w1 hch1);have hbg:bb<gh:=by omega
 rw[hgh]at hbbW HC1 HST HQ ⊢;have H61:=aQ h61;have FB1:=aQ hf1;unfold RowsB at HF1;rw[HFL.out]at HF1;have HST2:Hid (∀ w2,Below w1.heap.size w1 w2->Calls Tryz.prog 54 #[.pointer (some ⟨bb,0,none⟩)] w2 (StQ w2 A)):=aQ (λ w2 hb=>HST.out w2 (HC1.out.grown (below_grown hb) (by omega) (λ _ e=>by cases e)) (λ j hj=>(hb.cell (p:=⟨bb,j,none⟩) (by show bb<_;omega)).trans (HJ1.out j hj)));unfold StQ at HST2;clear HST;clear hb0 hw1 hwm hsm hbm hch1 hj1 hf1 c3 c5 c6 f6 hmk hgh HBW FB HFR
 go_wp2_with (first
  | (go_at_call 53;(with_reducible refine HF1.out.mono ?_);rintro e w2 ⟨qE,cE,rfl,hGB,hb2⟩;have HGB:=aQ hGB;have HB2:=aQ hb2;clear hGB hb2)
  | (go_at_call 54;(with_reducible refine(HST2.out _ HB2.out).mono ?_);rintro e w3 ⟨PA,CA,rfl,hOW,hAP,hb3⟩;have HOW:=aQ hOW;have HAP:=aQ hAP;have HB3:=aQ hb3;clear hOW hAP hb3))
 have hs2:=HB2.out.size;have hs3:=HB3.out.size;have HMC:Hid (Mc w3 (gh+1) w2.heap.size gh PA):=aQ ⟨Nat.lt_succ_self _,by omega,hs3,λ j hj b e=>(HOW.out j hj).lt b (by rw[aH];exact e),HAP.out⟩;have hb13:Below w1.heap.size w1 w3:=HB2.out.trans (HB3.out.mono hs2)
 have HM0:Hid (Mw w3 w3 (gh+1) w2.heap.size gh n 0 qE E PA CA A (eH E A 0) (λ _=>none) (λ _=>0)):=aQ ⟨Chg.refl _ _ _,(HSR1.out _).next hb13,λ j _ hj=>HOW.out j hj,by
  have hg:=HGB.out.gsF;rw[hs1]at hg;exact hg.next hs3 (λ b _ h2=>HB3.out.block b h2)⟩
 have HBB:Hid (∀ W' (x:Nat) r P C,x<=11->Mw w3 W' (gh+1) w2.heap.size gh n x qE E PA CA A r P C->(∀ j,W'.cell? ⟨bb,j,none⟩=w1.cell? ⟨bb,j,none⟩)/\(∀ j,W'.frozen? ⟨bb,j,none⟩=w1.frozen? ⟨bb,j,none⟩)/\bb<W'.heap.size):=aQ (λ W' x r P C hx h=>by
  have hnx:¬ (bb=gh∨∃ j,j<x/\j<11/\(PA j).map Addr.block=some bb):=by
   rintro(e|⟨j,_,hj,e⟩)
   ·omega
   ·have:=(HMC.out.pa j hj bb e).1;omega
  exact⟨λ j=>(h.ch.cell (by omega) hnx j).trans (hb13.cell (p:=⟨bb,j,none⟩) (by show bb<_;omega)),λ j=>(h.ch.fz (by omega) hnx j).trans (hb13.frozen (p:=⟨bb,j,none⟩) (by show bb<_;omega)),by have:=h.ch.size;omega⟩)
 have HIX:Hid (∀ x:Nat,x<11->∀ W',(Instr.index 131 (.agg #[.slice (PA 0) (A 0).length (CA 0),.slice (PA 1) (A 1).length (CA 1),.slice (PA 2) (A 2).length (CA 2),.slice (PA 3) (A 3).length (CA 3),.slice (PA 4) (A 4).length (CA 4),.slice (PA 5) (A 5).length (CA 5),.slice (PA 6) (A 6).length (CA 6),.slice (PA 7) (A 7).length (CA 7),.slice (PA 8) (A 8).length (CA 8),.slice (PA 9) (A 9).length (CA 9),.slice (PA 10) (A 10).length (CA 10)]) (.int .i64 (x:Int))).run Tryz.prog W'=.ok (.slice (PA x) (A x).length (CA x)) W'):=aQ (λ x hx W'=>by
  refine index_rows [.slice (PA 0) (A 0).length (CA 0),.slice (PA 1) (A 1).length (CA 1),.slice (PA 2) (A 2).length (CA 2),.slice (PA 3) (A 3).length (CA 3),.slice (PA 4) (A 4).length (CA 4),.slice (PA 5) (A 5).length (CA 5),.slice (PA 6) (A 6).length (CA 6),.slice (PA 7) (A 7).length (CA 7),.slice (PA 8) (A 8).length (CA 8),.slice (PA 9) (A 9).length (CA 9),.slice (PA 10) (A 10).length (CA 10)] rfl x hx _ ?_ W'
  match x,hx with
  | 0,_=>rfl
  | 1,_=>rfl
  | 2,_=>rfl
  | 3,_=>rfl
  | 4,_=>rfl
  | 5,_=>rfl
  | 6,_=>rfl
  | 7,_=>rfl
  | 8,_=>rfl
  | 9,_=>rfl
  | 10,_=>rfl)
 have HSP:Hid (∀ W' (x:Nat) r P C,x<11->Mw w3 W' (gh+1) w2.heap.size gh n x qE E PA CA A r P C->Calls Tryz.prog 55 #[.slice qE n cE,.slice (PA x) (A x).length (CA x)] W' λ e w'=>∃ gb L,e=.returned (.slice (some ⟨gb,0,none⟩) n n)/\W'.heap.size<=gb/\Rb w' gb L/\L.length=n/\(∀ p,L.getD p false=spB E (A x) p)/\Mw w3 w' (gh+1) w2.heap.size gh n (x+1) qE E PA CA A r P C):=aQ (λ W' x r P C hx h=>by
  have hsz:w2.heap.size<=W'.heap.size:=by have:=h.ch.size;omega
  have hes:GsF (gh+1) w2.heap.size (cutW W' w2.heap.size) qE E:=h.es.move (by rw[cutW_size hsz];exact Nat.le_refl _) (λ b _ h2=>cutW_get hsz h2);have ho:=h.st x (Nat.le_refl _) hx;have hcz:=cutW_size hsz;obtain⟨h1,h2⟩:=HSA.out x hx;have:=sspread_any (cutW W' w2.heap.size) qE cE E (PA x) (CA x) (A x) W' hes.at (cutW_below hsz) (by rw[hcz];exact ho) (by rw[HFL.out];omega) h1 HWE.out (by rw[HFL.out];exact h2);rw[HFL.out]at this;refine this.mono ?_;rintro e w' ⟨gb,L,rfl,hgb,hrb,hln,his,hbl,hgr⟩;refine⟨gb,L,by rw[HFL.out],hgb,hrb,hln.trans HFL.out,λ p=>?_,h.spr HMC.out hx hgr⟩;have:=his (p:Int) (by omega);rw[Int.toNat_natCast]at this;rw[Bool.eq_iff_iff,this,spB_iff])
 have HFI:Hid (∀ W' P C,Mw w3 W' (gh+1) w2.heap.size gh n 11 qE E PA CA A (eH E A 11) P C->Q (.returned (.tuple #[])) W'):=aQ (λ W' P C h=>by
  obtain⟨k1,k2,k3⟩:=HBB.out W' 11 _ _ _ (Nat.le_refl _) h;refine HQ.out W' gh P C (Nat.le_refl _) ?_ (λ j hj=>(k1 j).trans (HJ1.out j hj)) (λ j=>(k2 j).trans (FB1.out j)) ((k1 6).trans H61.out) (h.sr.low (by omega));refine(HC1.out.trans ((Chg.refl gh (λ b=>b=bb) w1).grown (below_grown hb13) (by omega) (λ _ e=>by cases e))).trans ?_;refine⟨h.ch.os,h.ch.tape,h.ch.output,h.ch.size,λ b hb hx=>h.ch.block b (by omega) ?_⟩;rintro(e|⟨j,_,hj,e⟩)
  ·omega
  ·have:=(HMC.out.pa j hj b e).1;omega)
 have HN9:Hid (∀ (x:Int) (W:World) k (e:k=W.heap.size),NumsAt .i64 (W.alloc (.cells #[.int .i64 x] 3)).drew (some ⟨k,0,none⟩) [x]):=aQ (λ x W k e=>by subst e;exact(bH (k:=.i64) W 3 [x] #[.int .i64 x] rfl (by simp)).below (aD (Below.refl _ _)));clear HSA HWE HFL HOW HAP HJ1 HC1 HGB
 go_loopw [24] (λ v W'=>∃ (x:Nat) (P:Nat->Option Addr) (C:Nat->Nat),x<=11/\v=.int .i64 (x:Int)/\Hid (Mw w3 W' (gh+1) w2.heap.size gh n x qE E PA CA A (eH E A x) P C)) (λ v _=>11 - (intOf v).toNat)
 case atStart=>exact⟨0,_,_,Nat.zero_le _,rfl,HM0⟩
 case round =>
  clear HM0;obtain⟨x,P,C,hx,rfl,HM⟩:=hrel;by_cases hx11:x<11
  ·have hxI:(x:Int)<11:=by omega
   have hix:=HIX.out x hx11;have HSX:=aQ (HSP.out wr x _ P C hx11 HM.out);obtain⟨al,hal⟩:∃ m,(A x).length=m:=⟨_,rfl⟩;rw[hal]at hix HSX;clear hal;go_wp2_with (go_at_call 55;(with_reducible refine HSX.out.mono ?_);rintro e w4 ⟨gb,L,rfl,hgb,hrb,hln,his,hm⟩;have HGB:=aQ hgb;have HRB:=aQ hrb;have HLN:=aQ hln;have HIS:=aQ his;have HM4:=aQ hm;clear hgb hrb hln his hm)
   have HRB0:Hid (Rb w4 gb L/\∀ j,j<n->(P j).map Addr.block≠some gb):=aQ ⟨HRB.out,λ j hj e=>by have:=(HM.out.sr.blk (List.mem_range.2 hj) e).2;have:=HGB.out;omega⟩;have hgbh:gb≠gh:=by have:=HGB.out;have:=HM.out.ch.size;omega
   have HGE:Hid (gb≠gh):=aQ hgbh
   have HMA:Hid (∀ W' r P C,Mw w3 W' (gh+1) w2.heap.size gh n (x+1) qE E PA CA A r P C->W'.cell? ⟨bb,6,none⟩=some (.slice (some ⟨gh,0,none⟩) n n)/\bb<W'.heap.size/\w3.heap.size<=W'.heap.size):=aQ (λ W' r P C h=>by
    obtain⟨k1,_,k3⟩:=HBB.out W' (x+1) _ _ _ (by omega) h;exact⟨(k1 6).trans H61.out,k3,h.ch.size⟩)
   have HB3W:Hid (bb<w3.heap.size):=aQ (by omega);clear HBB HSP HSX HIX hix HM HFI HQ HB2 HB3 H61 FB1 HST2 HSR1 HRB HGB e5 hs1 hs2 hs3 hb13 hgbh
   go_loopw [32] (λ v W'=>∃ (i:Nat) (P:Nat->Option Addr) (C:Nat->Nat),i<=n/\v=.int .i64 (i:Int)/\Hid (Mw w3 W' (gh+1) w2.heap.size gh n (x+1) qE E PA CA A (dV E A x i) P C)/\Hid (Rb W' gb L/\∀ j,j<n->(P j).map Addr.block≠some gb)) (λ v _=>n - (intOf v).toNat)
   case atStart=>exact⟨0,P,C,Nat.zero_le _,rfl,by rw[meetR_0];exact HM4,HRB0⟩
   case round =>
    clear HM4 HRB0;obtain⟨i,P,C,hi,rfl,HM,HRB⟩:=hrel;by_cases hiN:i<n
    ·have k0:=HRB.out.1.cell i (by rw[HLN.out];exact hiN)
     have kl:=HRB.out.1.lt;have hiI:(i:Int)<(n:Int):=by omega
     rw[HIS.out i]at k0;cases hsb:spB E (A x) i with
     | false =>
      rw[hsb]at k0;have HRS:Hid (dV E A x (i+1)=dV E A x i):=aQ (meetR_no (by rw[hsb];simp));clear hsb;go_wp2_with fail
      go_roundw
      case rel=>exact⟨i+1,P,C,by omega,rfl,by rw[HRS.out];exact HM,HRB⟩
      case measure=>simp[intOf];omega
     | true =>
      rw[hsb]at k0;have HRS:Hid (dV E A x (i+1)=up1 (dV E A x i) i (dV E A x i i ++ [(x:Int)])):=aQ (meetR_yes hsb);have hln:=meetR_len E A x i i;obtain⟨y,hy⟩:∃ y,dV E A x i i=y:=⟨_,rfl⟩;obtain⟨zl,hz⟩:∃ z,y.length=z:=⟨_,rfl⟩;have hmem:i∈List.range n:=List.mem_range.2 hiN;have HLN2:Hid (y.length=zl/\(y ++ [(x:Int)]).length=zl+1/\y.length+[(x:Int)].length<=1099511627776):=aQ ⟨hz,by simp[hz],by rw[hy]at hln;simp;omega⟩;have HEN:Hid (i∈List.range n/\dV E A x i i=y):=aQ ⟨hmem,hy⟩;obtain⟨S0,dl,hszw⟩:=HMA.out _ _ _ _ HM.out;have HSM:Hid (Mw w3 (wr.alloc (.cells #[.int .i64 (x:Int)] 3)).drew (gh+1) w2.heap.size gh n (x+1) qE E PA CA A (dV E A x i) P C):=aQ (HM.out.next HMC.out (aD b1));have S1:wr.drew.cell? ⟨bb,6,none⟩=some (.slice (some ⟨gh,0,none⟩) n n):=S0;obtain⟨S6,dl6,_⟩:=HMA.out _ _ _ _ HSM.out;have S7:(wr.alloc (.cells #[.int .i64 (x:Int)] 3)).cell? ⟨bb,6,none⟩=some (.slice (some ⟨gh,0,none⟩) n n):=S6;have HS9:Hid (∀ W' r P C,Mw w3 W' (gh+1) w2.heap.size gh n (x+1) qE E PA CA A r P C->W'.cell? ⟨bb,6,none⟩=some (.slice (some ⟨gh,0,none⟩) n n)):=aQ (λ W' r P C h=>(HMA.out W' r P C h).1)
      have HOB:Hid (∀ b,(Value.slice (P i) zl (C i)).ownBlock=some b->w3.heap.size<=b/\b<wr.heap.size/\b≠gb):=aQ (λ b e=>by
       rw[aH]at e;obtain⟨h1,h2⟩:=HM.out.sr.blk hmem e;exact⟨h1,h2,λ e2=>HRB.out.2 i hiN (by rw[e,e2])⟩)
      have HS8:Hid (∀ w8:World,((wr.alloc (.cells #[.int .i64 (x:Int)] 3)).drew).grownBy w8 (Value.slice (P i) zl (C i)).ownBlock->w8.cell? ⟨bb,6,none⟩=some (.slice (some ⟨gh,0,none⟩) n n)):=aQ (λ w8 hg=>hg.cell S6 (λ e=>by have h1:=(HOB.out bb e.symm).1;have h2:=HB3W.out;omega))
      have HRB2:Hid (∀ (w8:World) (q8:Option Addr) (c8:Nat),((wr.alloc (.cells #[.int .i64 (x:Int)] 3)).drew).grownBy w8 (Value.slice (P i) zl (C i)).ownBlock->((Value.slice q8 (zl+1) c8).ownBlock=(Value.slice (P i) zl (C i)).ownBlock∨(Value.slice q8 (zl+1) c8).ownBlock=some ((wr.alloc (.cells #[.int .i64 (x:Int)] 3)).drew).heap.size)->Rb (w8.setCell ⟨gh,i,none⟩ (.slice q8 (zl+1) c8)) gb L/\∀ j,j<n->(up1 P i q8 j).map Addr.block≠some gb):=aQ (λ w8 q8 c8 hg hb=>by
       have hR:=HRB.out.1;have hlt:=hR.lt;have hR1:Rb (wr.alloc (.cells #[.int .i64 (x:Int)] 3)).drew gb L:=hR.next (aD b1);have hgb:=hg.block gb hR1.lt (λ e=>(HOB.out gb e.symm).2.2 rfl);have hgs:=hg.size;have hset:=Below.heap_setCell w8 ⟨gh,i,none⟩ (.slice q8 (zl+1) c8) gb HGE.out;refine⟨⟨by have h1:=hR1.lt;simp[World.setCell];omega,λ j hj=>(World.cell?_of_block (a:=⟨gb,j,none⟩) (hset.trans hgb)).trans (hR1.cell j hj),λ j=>(World.frozen?_of_block (a:=⟨gb,j,none⟩) (hset.trans hgb)).trans (hR1.fr j)⟩,λ j hj=>?_⟩;by_cases e:j=i
       ·subst e
        rw[cC];rw[aH]at hb;rcases hb with d|d
        ·rw[d];exact λ e2=>(HOB.out gb e2).2.2 rfl
        ·rw[d];intro e2;injection e2 with e2;have h1:=hR1.lt;omega
       ·rw[bW _ _ _ e];exact HRB.out.2 j hj)
      have e50:=(HM.out.next HMC.out (aD (Below.refl _ _))).sr.clE (j:=i) hmem hy rfl rfl hz;have e51:=HSM.out.sr.clE (j:=i) hmem hy rfl rfl hz;have e52:(wr.alloc (.cells #[.int .i64 (x:Int)] 3)).cell? ⟨gh,i,none⟩=some (.slice (P i) zl (C i)):=e51;have e53:wr.cell? ⟨gh,i,none⟩=some (.slice (P i) zl (C i)):=e50;have HLN:=HLN2;clear hln hy hz hmem hsb HLN2 hszw;go_wp2_with fail
      refine wp_region_held_drew (S:=(λ W'=>W'.cell? ⟨bb,6,none⟩=some (.slice (some ⟨gh,0,none⟩) n n))) (by kernel_rfl) ?_ (λ hHeld=>?_)
      ·(try dsimp only);first|exact S0|exact S1|exact S6|exact S7|exact S8|exact S9
      refine aT 0 rfl (h:=aT 1 rfl (h:=aT 2 rfl (h:=aT 3 rfl (h:=aT 4 rfl (h:=?_)))));try simp only[Act.put,aA,aB,aC]
      refine aT 5 rfl (h:=aT 6 rfl (h:=aT 7 rfl (h:=aT 8 rfl (h:=aT 9 rfl (h:=?_)))));try simp only[Act.put,aA,aB,aC]
      refine aT 10 rfl (h:=aT 12 rfl (h:=?_));try simp only[Act.put,aA,aB,aC]
      refine bY 11 13 (by kernel_rfl) rfl rfl (λ K hK=>?_) (λ K hK=>?_)
      ·
       go_simp
       refine hK.out _ _ ?_ (λ hHeld=>?_)
       ·(try dsimp only);first|exact S0|exact S1|exact S6|exact S7|exact S8|exact S9
       clear hK K;try simp only[Act.put,aA,aB,aC]
       refine aK 13 (by kernel_rfl) rfl (λ K hK=>?_);go_simp
       refine hK.out _ _ ?_ (λ hHeld=>?_)
       ·(try dsimp only);first|exact S0|exact S1|exact S6|exact S7|exact S8|exact S9
       clear hK K;try simp only[Act.put,aA,aB,aC]
       refine aK 14 (by kernel_rfl) rfl (λ K hK=>?_)
       (refine bI rfl (.tmp 49) (.tmp 51) rfl rfl w3.heap.size _ [(x:Int)] y (.slice (P i) zl (C i)) 1 1 rfl (by simp[Act.eval]) (by simp[Act.eval];rfl) (HSM.out.sr.ownE (j:=i) HEN.out.1 HEN.out.2 rfl rfl HLN.out.1.symm) (HN9.out _ _ _ (by first|rfl|simp)) HSM.out.ch.size HLN.out.2.2 ?_;intro v8 w8 ho8 hg8 hb8;rw[HLN.out.2.1]at ho8;obtain⟨q8,c8,rfl⟩:=aW ho8;obtain⟨e8,fz8,bl8⟩:=HSM.out.sr.mid (j:=i) HEN.out.1 hg8;rw[HEN.out.2,HLN.out.1]at e8;have HX0:=HSM.out.app HMC.out hiN (by rw[HLN.out.2.1];exact ho8) HLN.out.2.1.symm hg8 hb8;have HX:=aQ HX0;have HXB:=aQ (HRB2.out w8 q8 c8 hg8 hb8);have S8:=HS8.out w8 hg8;have S9:=HS9.out _ _ _ _ HX0;clear ho8 hg8 hb8 HX0)
       refine hK.out _ _ ?_ (λ hHeld=>?_)
       ·(try dsimp only);first|exact S0|exact S1|exact S6|exact S7|exact S8|exact S9
       clear hK K;try simp only[Act.put,aA,aB,aC]
       refine aT 15 rfl (h:=?_);try simp only[Act.put,aA,aB,aC]
       refine aK 16 (by kernel_rfl) rfl (λ K hK=>?_);go_simp
       refine hK.out _ _ ?_ (λ hHeld=>?_)
       ·(try dsimp only);first|exact S0|exact S1|exact S6|exact S7|exact S8|exact S9
       clear hK K;try simp only[Act.put,aA,aB,aC]
       refine wpAnyH_done (by kernel_rfl) ?_ _;go_wp2_with fail
       go_roundw
       all_goals first
        | exact⟨i+1,up1 P i q8,up1 C i c8,by omega,rfl,by rw[HRS.out,HEN.out.2];exact HX,HXB⟩
        | ((simp[intOf]) <;> omega)
      ·
       go_simp
       refine hK.out _ _ ?_ (λ hHeld=>?_)
       ·(try dsimp only);first|exact S0|exact S1|exact S6|exact S7|exact S8|exact S9
       clear hK K;try simp only[Act.put,aA,aB,aC]
       refine aK 11 (by kernel_rfl) rfl (λ K hK=>?_);go_simp
       refine hK.out _ _ ?_ (λ hHeld=>?_)
       ·(try dsimp only);first|exact S0|exact S1|exact S6|exact S7|exact S8|exact S9
       clear hK K;try simp only[Act.put,aA,aB,aC]
       refine aK 14 (by kernel_rfl) rfl (λ K hK=>?_)
       (refine bI rfl (.tmp 49) (.tmp 51) rfl rfl w3.heap.size _ [(x:Int)] y (.slice (P i) zl (C i)) 1 1 rfl (by simp[Act.eval]) (by simp[Act.eval];rfl) (HSM.out.sr.ownE (j:=i) HEN.out.1 HEN.out.2 rfl rfl HLN.out.1.symm) (HN9.out _ _ _ (by first|rfl|simp)) HSM.out.ch.size HLN.out.2.2 ?_;intro v8 w8 ho8 hg8 hb8;rw[HLN.out.2.1]at ho8;obtain⟨q8,c8,rfl⟩:=aW ho8;obtain⟨e8,fz8,bl8⟩:=HSM.out.sr.mid (j:=i) HEN.out.1 hg8;rw[HEN.out.2,HLN.out.1]at e8;have HX0:=HSM.out.app HMC.out hiN (by rw[HLN.out.2.1];exact ho8) HLN.out.2.1.symm hg8 hb8;have HX:=aQ HX0;have HXB:=aQ (HRB2.out w8 q8 c8 hg8 hb8);have S8:=HS8.out w8 hg8;have S9:=HS9.out _ _ _ _ HX0;clear ho8 hg8 hb8 HX0)
       refine hK.out _ _ ?_ (λ hHeld=>?_)
       ·(try dsimp only);first|exact S0|exact S1|exact S6|exact S7|exact S8|exact S9
       clear hK K;try simp only[Act.put,aA,aB,aC]
       refine aT 15 rfl (h:=?_);try simp only[Act.put,aA,aB,aC]
       refine aK 16 (by kernel_rfl) rfl (λ K hK=>?_);go_simp
       refine hK.out _ _ ?_ (λ hHeld=>?_)
       ·(try dsimp only);first|exact S0|exact S1|exact S6|exact S7|exact S8|exact S9
       clear hK K;try simp only[Act.put,aA,aB,aC]
       refine wpAnyH_done (by kernel_rfl) ?_ _;go_wp2_with fail
       go_roundw
       all_goals first
        | exact⟨i+1,up1 P i q8,up1 C i c8,by omega,rfl,by rw[HRS.out,HEN.out.2];exact HX,HXB⟩
        | ((simp[intOf]) <;> omega)
    ·obtain rfl:i=n:=by omega
     have HRE:Hid (∀ j∈List.range i,eH E A (x+1) j=dV E A x i j):=aQ (λ j hj=>by unfold dV;rw[if_pos (List.mem_range.1 hj)]);go_wp2_with fail
     go_roundw
     case rel=>exact⟨x+1,P,C,by omega,rfl,aQ ⟨HM.out.ch,HM.out.sr.congr HRE.out,HM.out.st,HM.out.es⟩⟩
     case measure=>simp[intOf];omega
  ·obtain rfl:x=11:=by omega
   go_wp2_with fail
   go_end0
   exact HFI.out _ _ _ HM.out
end Go.Proofs.YtkfahppdklecdaaGreatDoor.J
namespace Go.Proofs.YtkfahppdklecdaaGreatDoor
open Go.RowKit M
theorem own_move{W W':World}{base size n:Nat}{e:TypeId}{v:Value}{xs:List Value}(h:W.ownsRow base e size v n xs)(hb:∀ b,v.ownBlock=some b->W'.heap[b]?=W.heap[b]?):W'.ownsRow base e size v n xs:=by
 obtain⟨h0,h1⟩:=h;refine⟨h0,h1.imp id ?_⟩;rintro⟨g,cap,cur,rfl,h2,h3,h4⟩;exact⟨g,cap,cur,rfl,h2,(hb g rfl).trans h3,h4⟩
theorem cT{kk:IntKind}{w w':World}{q:Option Addr}{l:List Int}(h:NumsAt kk w q l)(hs:w.heap.size<=w'.heap.size)(hb:∀ ad,q=some ad->w'.heap[ad.block]?=w.heap[ad.block]?):NumsAt kk w' q l :=
 ⟨h.small,λ i hi=>by
  obtain⟨b,o,hq,hl,hc⟩:=h.cells i hi;exact⟨b,o,hq,Nat.lt_of_lt_of_le hl hs,(World.cell?_of_block (a:=⟨b,o+i,none⟩) (hb ⟨b,o,none⟩ hq)).trans hc⟩⟩
structure Wp(lo hi:Nat)(W:World)(gp i:Nat)(s:Wq)(L:List NdP)(qn:Option Addr)(cn:Nat)(qf:Option Addr)(cf:Nat):Prop where
 ef:W.cell? ⟨gp,i*10+1,none⟩=some (.slice qf s.phis.length cf)
 en:W.cell? ⟨gp,i*10+2,none⟩=some (.slice qn s.nodes.length cn)
 ta:W.cell? ⟨gp,i*10+6,none⟩=some (.int .i64 s.ta)
 tb:W.cell? ⟨gp,i*10+7,none⟩=some (.int .i64 s.tb)
 nodes:L.map Prod.fst=s.nodes
 on:W.ownsRow lo 111 12 (.slice qn s.nodes.length cn) s.nodes.length (ndsV L)
 of:W.ownsRow lo 142 2 (.slice qf s.phis.length cf) s.phis.length (phsV s.phis)
 bn:∀ b,qn.map Addr.block=some b->b<hi
 bf:∀ b,qf.map Addr.block=some b->b<hi
 nnf:qn=none∨qn.map Addr.block≠qf.map Addr.block
 ar:∀ x∈L,x.1.args=[]∨NumsAt .i64 W x.2.1 x.1.args/\∀ ad,x.2.1=some ad->lo<=ad.block/\ad.block<hi/\qn.map Addr.block≠some ad.block/\qf.map Addr.block≠some ad.block
theorem Wp.keep{lo hi:Nat}{W W':World}{gp i:Nat}{s:Wq}{L:List NdP}{qn qf:Option Addr}{cn cf:Nat}(h:Wp lo hi W gp i s L qn cn qf cf)(hs:W.heap.size<=W'.heap.size)(hb:∀ b,lo<=b->b<hi->W'.heap[b]?=W.heap[b]?)
  (hc:∀ j,j=1∨j=2∨j=6∨j=7->W'.cell? ⟨gp,i*10+j,none⟩=W.cell? ⟨gp,i*10+j,none⟩):Wp lo hi W' gp i s L qn cn qf cf :=
 ⟨(hc 1 (by omega)).trans h.ef,(hc 2 (by omega)).trans h.en,(hc 6 (by omega)).trans h.ta,(hc 7 (by omega)).trans h.tb,h.nodes,
  own_move h.on (λ b e=>hb b (h.on.lt b e).1 (h.bn b (by rw[<- e,aH]))),own_move h.of (λ b e=>hb b (h.of.lt b e).1 (h.bf b (by rw[<- e,aH]))),h.bn,h.bf,h.nnf,
  λ x hx=>(h.ar x hx).imp id λ ⟨h1,h2⟩=>⟨cT h1 hs (λ ad e=>hb _ (h2 ad e).1 (h2 ad e).2.1),h2⟩⟩
theorem Wa.wp{Z W:World}{bb gp i wb:Nat}{s:Wq}{T:Nat->Prop}(h:Wa Z W ⟨bb,gp,i*10,wb⟩ s T):∃ L qn cn qf cf,Wp Z.heap.size W.heap.size W gp i s L qn cn qf cf:=by
 obtain⟨L,qn,cn,qf,cf,h,_⟩:=h;exact⟨L,qn,cn,qf,cf,h.ef,h.en,h.ta,h.tb,h.nodes,h.on,h.of,λ b e=>(h.qnz e).2,λ b e=>(h.qfz e).2,h.nnf,λ x hx=>(h.ar x hx).imp id λ ⟨h1,h2⟩=>⟨h1,λ ad e=>⟨(h2 ad e).1,(h2 ad e).2.1,(h2 ad e).2.2.2⟩⟩⟩
def sumF(g:Nat->Nat)(F:Nat->Option Wq):Nat->Nat
 | 0=>0
 | m+1=>sumF g F m+(if (F m).isSome=true then g m else 0)
def sumA(g:Nat->Nat):Nat->Nat
 | 0=>0
 | m+1=>sumA g m+g m
def updF(F:Nat->Option Wq)(i:Nat)(s:Wq):Nat->Option Wq:=λ j=>if j=i then some s else F j
theorem fC(F:Nat->Option Wq)(i:Nat)(s:Wq):updF F i s i=some s:=if_pos rfl
theorem cO(F:Nat->Option Wq)(i:Nat)(s:Wq){j:Nat}(h:j≠i):updF F i s j=F j:=if_neg h
theorem sumF_le(g:Nat->Nat)(F:Nat->Option Wq):∀ n,sumF g F n<=sumA g n
 | 0=>Nat.le_refl _
 | n+1=>by
  have:=sumF_le g F n;show sumF g F n+_<=sumA g n+g n;split <;> omega
theorem sumF_same(g:Nat->Nat)(F:Nat->Option Wq)(i:Nat)(s:Wq):∀ n,n<=i->sumF g (updF F i s) n=sumF g F n
 | 0,_=>rfl
 | n+1,h=>by
  show sumF g (updF F i s) n+_=sumF g F n+_;rw[sumF_same g F i s n (by omega),cO _ _ _ (by omega)]
theorem sumF_upd(g:Nat->Nat)(F:Nat->Option Wq)(i:Nat)(s:Wq)(hF:F i=none):∀ n,i<n->sumF g (updF F i s) n=sumF g F n+g i
 | 0,h=>absurd h (Nat.not_lt_zero _)
 | n+1,h=>by
  show sumF g (updF F i s) n+_=sumF g F n+_+g i;by_cases e:i=n
  ·subst e
   rw[sumF_same g F i s i (Nat.le_refl _),fC,hF];simp
  ·rw[sumF_upd g F i s hF n (by omega),cO _ _ _ (λ c=>e c.symm)]
   omega
def upN(f:Nat->Nat)(i v:Nat):Nat->Nat:=λ j=>if j=i then v else f j
theorem upN_at(f:Nat->Nat)(i v:Nat):upN f i v i=v:=if_pos rfl
theorem gB(f:Nat->Nat)(i v:Nat){j:Nat}(h:j≠i):upN f i v j=f j:=if_neg h
structure Rv(z W:World)(k:J.Lk)(F:Nat->Option Wq)(v:Int)(c:Nat)(f:Int->Int->Option Int)(lo hi:Nat->Nat):Prop where
 os:W.os=z.os
 tape:W.tape=z.tape
 output:W.output=z.output
 size:z.heap.size<=W.heap.size
 old:∀ b,b<z.heap.size->b≠k.bb->b≠k.gp->b≠k.mb->W.heap[b]?=z.heap[b]?
 ob:∀ j,j≠4->W.cell? ⟨k.bb,j,none⟩=z.cell? ⟨k.bb,j,none⟩
 og:∀ j,(∀ i,i<k.n->F i≠none->j≠i*10+1/\j≠i*10+2/\j≠i*10+6/\j≠i*10+7)->W.cell? ⟨k.gp,j,none⟩=z.cell? ⟨k.gp,j,none⟩
 fb:∀ j,W.frozen? ⟨k.bb,j,none⟩=false
 fg:∀ j,W.frozen? ⟨k.gp,j,none⟩=false
 cv:W.cell? ⟨k.bb,4,none⟩=some (.int .i64 v)
 ms:Ms W k.mb c f
 pa:∀ i,i<k.n->∀ s,F i=some s->z.heap.size<=lo i/\lo i<=hi i/\hi i<=W.heap.size/\∃ L qn cn qf cf,Wp (lo i) (hi i) W k.gp i s L qn cn qf cf
 sep:∀ i j,i<k.n->j<k.n->i≠j->F i≠none->F j≠none->hi i<=lo j∨hi j<=lo i
structure Sv(z:World)(k:J.Lk)(gh:Nat)(base:Nat)(regs:Nat->List Int)(P:Nat->Option Addr)(C:Nat->Nat):Prop where
 ld:LdA z
 b0:k.bb≠0
 g0:k.gp≠0
 m0:k.mb≠0
 bg:k.bb<k.gp
 mb:k.mb<k.bb
 gpl:k.gp<z.heap.size
 fb:∀ j,z.frozen? ⟨k.bb,j,none⟩=false
 fg:∀ j,z.frozen? ⟨k.gp,j,none⟩=false
 c0:z.cell? ⟨k.bb,0,none⟩=some (.slice k.q k.l.length k.qc)
 c1:z.cell? ⟨k.bb,1,none⟩=some (.slice k.qB k.B.length k.cB)
 c2:z.cell? ⟨k.bb,2,none⟩=some (.int .i64 (k.a:Int))
 c3:z.cell? ⟨k.bb,3,none⟩=some (.slice (some ⟨k.gp,0,none⟩) k.n k.cap)
 c4:z.cell? ⟨k.bb,4,none⟩=some (.int .i64 0)
 c6:z.cell? ⟨k.bb,6,none⟩=some (.slice (some ⟨gh,0,none⟩) k.n k.n)
 c7:z.cell? ⟨k.bb,7,none⟩=some (.map (some k.mb))
 ms:Ms z k.mb 0 (λ _ _=>none)
 wo:∃ w0:World,Below w0.heap.size w0 z/\InsAt w0 k.q k.l/\BksAt w0 k.qB k.B/\w0.heap.size<=k.mb
 sr:J.Sr base z gh (List.range k.n) regs P C
 gb:k.gp<base
 ghb:base<=gh
 cl:∀ i e,k.E[i]?=some e->∀ j,1<=j->j<10->∀ v,(dX e)[j]?=some v->z.cell? ⟨k.gp,i*10+j,none⟩=some v
section
variable {z W W':World} {k:J.Lk} {F:Nat->Option Wq} {v:Int} {c:Nat} {f:Int->Int->Option Int} {lo hi:Nat->Nat}
theorem Rv.next(h:Rv z W k F v c f lo hi)(hz:k.bb<z.heap.size/\k.gp<z.heap.size)(hb:Below W.heap.size W W'):Rv z W' k F v c f lo hi:=by
 have hbl:k.bb<W.heap.size:=Nat.lt_of_lt_of_le hz.1 h.size;have hgl:k.gp<W.heap.size:=Nat.lt_of_lt_of_le hz.2 h.size
 exact⟨hb.os.trans h.os,hb.tape.trans h.tape,hb.output.trans h.output,Nat.le_trans h.size hb.size,λ b h1 h2 h3 h4=>(hb.block b (Nat.lt_of_lt_of_le h1 h.size)).trans (h.old b h1 h2 h3 h4),
  λ j hj=>(hb.cell (p:=⟨k.bb,j,none⟩) hbl).trans (h.ob j hj),λ j hj=>(hb.cell (p:=⟨k.gp,j,none⟩) hgl).trans (h.og j hj),λ j=>(hb.frozen (p:=⟨k.bb,j,none⟩) hbl).trans (h.fb j),λ j=>(hb.frozen (p:=⟨k.gp,j,none⟩) hgl).trans (h.fg j),
  (hb.cell (p:=⟨k.bb,4,none⟩) hbl).trans h.cv,h.ms.next hb,λ i h1 s h2=>by
   obtain⟨a1,a2,a3,L,qn,cn,qf,cf,a4⟩:=h.pa i h1 s h2;exact⟨a1,a2,Nat.le_trans a3 hb.size,L,qn,cn,qf,cf,a4.keep hb.size (λ b _ h6=>hb.block b (by omega)) (λ j _=>hb.cell (p:=⟨k.gp,_,none⟩) hgl)⟩,h.sep⟩
theorem Rv.tset(h:Rv z W k F v c f lo hi)(hz:k.bb<z.heap.size/\k.gp<z.heap.size/\k.mb<z.heap.size){b:Nat}(hb:z.heap.size<=b)(hsep:∀ i,i<k.n->F i≠none->b<lo i∨hi i<=b)(j:Nat)(x:Value):Rv z (W.setCell ⟨b,j,none⟩ x) k F v c f lo hi:=by
 have hbk:∀ b',b'≠b->(W.setCell ⟨b,j,none⟩ x).heap[b']?=W.heap[b']?:=λ b' hb'=>heap_setCell_other W ⟨b,j,none⟩ b' x hb'
 have hc:∀ b' o,b'≠b->(W.setCell ⟨b,j,none⟩ x).cell? ⟨b',o,none⟩=W.cell? ⟨b',o,none⟩:=λ b' o hb'=>bO (aM (.inl hb'))
 have hs:(W.setCell ⟨b,j,none⟩ x).heap.size=W.heap.size:=by simp[World.setCell]
 exact⟨h.os,h.tape,h.output,by rw[hs];exact h.size,λ b' h1 h2 h3 h4=>(hbk b' (by omega)).trans (h.old b' h1 h2 h3 h4),λ o ho=>(hc _ o (by omega)).trans (h.ob o ho),λ o ho=>(hc _ o (by omega)).trans (h.og o ho),λ o=>(World.frozen?_setCell ..).trans (h.fb o),λ o=>(World.frozen?_setCell ..).trans (h.fg o),
  (hc _ 4 (by omega)).trans h.cv,h.ms.block (hbk _ (by omega)),λ i h1 s h2=>by
   obtain⟨a1,a2,a3,L,qn,cn,qf,cf,a4⟩:=h.pa i h1 s h2;have h8:=hsep i h1 (by rw[h2];simp);exact⟨a1,a2,by rw[hs];exact a3,L,qn,cn,qf,cf,a4.keep (by rw[hs];exact Nat.le_refl _) (λ b' h5 h6=>hbk b' (by omega)) (λ o _=>hc _ _ (by omega))⟩,h.sep⟩
theorem Rv.put(h:Rv z W k F v c f lo hi)(hz:k.bb<z.heap.size/\k.gp<z.heap.size/\k.mb<z.heap.size/\k.bb≠k.mb/\k.gp≠k.mb){c':Nat}{f':Int->Int->Option Int}(hm:Ms W' k.mb c' f')(hg:W.grownBy W' (some k.mb)):Rv z W' k F v c' f' lo hi:=by
 have hbl:k.bb<W.heap.size:=Nat.lt_of_lt_of_le hz.1 h.size;have hgl:k.gp<W.heap.size:=Nat.lt_of_lt_of_le hz.2.1 h.size;have hbk:∀ b,b<W.heap.size->b≠k.mb->W'.heap[b]?=W.heap[b]?:=λ b h1 h2=>hg.block b h1 (λ e=>h2 (Option.some.inj e))
 have hc:∀ b o,b<W.heap.size->b≠k.mb->W'.cell? ⟨b,o,none⟩=W.cell? ⟨b,o,none⟩:=λ b o h1 h2=>World.cell?_of_block (a:=⟨b,o,none⟩) (hbk b h1 h2)
 have hf:∀ b o,b<W.heap.size->b≠k.mb->W'.frozen? ⟨b,o,none⟩=W.frozen? ⟨b,o,none⟩:=λ b o h1 h2=>World.frozen?_of_block (a:=⟨b,o,none⟩) (hbk b h1 h2)
 exact⟨hg.os.trans h.os,hg.tape.trans h.tape,hg.output.trans h.output,Nat.le_trans h.size hg.size,λ b h1 h2 h3 h4=>(hbk b (Nat.lt_of_lt_of_le h1 h.size) h4).trans (h.old b h1 h2 h3 h4),λ o ho=>(hc _ o hbl hz.2.2.2.1).trans (h.ob o ho),λ o ho=>(hc _ o hgl hz.2.2.2.2).trans (h.og o ho),λ o=>(hf _ o hbl hz.2.2.2.1).trans (h.fb o),λ o=>(hf _ o hgl hz.2.2.2.2).trans (h.fg o),
  (hc _ 4 hbl hz.2.2.2.1).trans h.cv,hm,λ i h1 s h2=>by
   obtain⟨a1,a2,a3,L,qn,cn,qf,cf,a4⟩:=h.pa i h1 s h2;exact⟨a1,a2,Nat.le_trans a3 hg.size,L,qn,cn,qf,cf,a4.keep hg.size (λ b h5 h6=>hbk b (by omega) (by omega)) (λ o _=>hc _ _ hgl hz.2.2.2.2)⟩,h.sep⟩
theorem Rv.write(h:Rv z W k F v c f lo hi)(hz:k.bb<z.heap.size/\k.gp<z.heap.size/\k.mb<z.heap.size/\k.bb≠k.mb/\k.gp≠k.mb/\k.bb≠k.gp){i wb:Nat}{s:Wq}{T:Nat->Prop}(hi':i<k.n)(hF:F i=none)(hw:Wa W W' ⟨k.bb,k.gp,i*10,wb⟩ s T):Rv z W' k (updF F i s) s.v c f (upN lo i W.heap.size) (upN hi i W'.heap.size):=by
 have hbl:k.bb<W.heap.size:=Nat.lt_of_lt_of_le hz.1 h.size;have hgl:k.gp<W.heap.size:=Nat.lt_of_lt_of_le hz.2.1 h.size;obtain⟨L,qn,cn,qf,cf,hp⟩:=hw.wp;obtain⟨_,_,_,_,_,hw,_⟩:=hw;have hsz:=hw.size;have hzs:=h.size;have hbk:∀ b,b<W.heap.size->b≠k.bb->b≠k.gp->W'.heap[b]?=W.heap[b]?:=hw.old;refine⟨hw.os.trans h.os,hw.tape.trans h.tape,hw.output.trans h.output,Nat.le_trans h.size hw.size,λ b h1 h2 h3 h4=>(hbk b (by omega) h2 h3).trans (h.old b h1 h2 h3 h4),λ j hj=>(hw.ob j hj).trans (h.ob j hj),λ j hj=>?_,hw.fb,hw.fg,hw.cv,h.ms.block (hbk _ (by omega) (λ e=>hz.2.2.2.1 e.symm) (λ e=>hz.2.2.2.2.1 e.symm)),λ j hj t ht=>?_,λ j j' hj hj' hne h1 h2=>?_⟩
 ·obtain⟨h1,h2,h3,h4⟩:=hj i hi' (by rw[fC];simp)
  refine(hw.og j h1 h2 h3 h4).trans (h.og j (λ i' h5 h6=>hj i' h5 ?_));by_cases e:i'=i
  ·subst e;rw[fC];simp
  ·rw[cO _ _ _ e];exact h6
 ·by_cases e:j=i
  ·subst e
   rw[fC]at ht;injection ht with ht
   subst ht;rw[upN_at,upN_at];exact⟨h.size,hsz,Nat.le_refl _,L,qn,cn,qf,cf,hp⟩
  ·rw[cO _ _ _ e]at ht
   rw[gB _ _ _ e,gB _ _ _ e];obtain⟨a1,a2,a3,L,qn,cn,qf,cf,a4⟩:=h.pa j hj t ht;refine⟨a1,a2,Nat.le_trans a3 hsz,L,qn,cn,qf,cf,a4.keep hsz (λ b h5 h6=>hbk b (by omega) (by omega) (by omega)) (λ o ho=>hw.og _ ?_ ?_ ?_ ?_)⟩ <;> show _≠i*10+_ <;> omega
 ·by_cases e:j=i
  ·subst e
   rw[upN_at,upN_at];rw[cO _ _ _ (λ e=>hne e.symm)]at h2;rw[gB _ _ _ (λ e=>hne e.symm),gB _ _ _ (λ e=>hne e.symm)];obtain⟨t,ht⟩:=Option.ne_none_iff_exists'.1 h2;have:=(h.pa j' hj' t ht).2.2.1;exact .inr this
  ·rw[cO _ _ _ e]at h1
   rw[gB _ _ _ e,gB _ _ _ e];by_cases e2:j'=i
   ·subst e2
    rw[upN_at,upN_at];obtain⟨t,ht⟩:=Option.ne_none_iff_exists'.1 h1;have:=(h.pa j hj t ht).2.2.1;exact .inl this
   ·rw[cO _ _ _ e2]at h2
    rw[gB _ _ _ e2,gB _ _ _ e2];exact h.sep j j' hj hj' hne h1 h2
end
def cN(k:J.Lk)(regs:Nat->List Int)(i:Nat)(now:Nat->Int)(v:Int):Wq :=
 cJ k.l i k.a now v (regs i) (bk k.B (i - k.a)).fr.toNat (bk k.B (i - k.a)).to.toNat (bk k.B (i - k.a)).la.toNat (k.E.getD i Te.z).op (k.E.getD i Te.z).wide
def wgt(k:J.Lk)(regs:Nat->List Int)(i:Nat):Nat:=(if i=0 then 3 else 0)+(regs i).length+(if k.a<=i then 2*((bk k.B (i - k.a)).to.toNat - (bk k.B (i - k.a)).fr.toNat)+1 else 0)
theorem partS_v(k:J.Lk)(regs:Nat->List Int)(i:Nat)(now:Nat->Int)(v:Int):(cN k regs i now v).v<=v+(wgt k regs i:Nat):=by
 have h:=writev k.l i k.a now v (regs i) (bk k.B (i - k.a)).fr.toNat (bk k.B (i - k.a)).to.toNat (bk k.B (i - k.a)).la.toNat (k.E.getD i Te.z).op (k.E.getD i Te.z).wide;unfold cN wgt;refine Int.le_trans h ?_;split <;> split <;> omega
structure Gd(k:J.Lk)(regs:Nat->List Int):Prop where
 l0:0<k.l.length
 lN:k.l.length<=4096
 nN:k.n<=999
 a1:k.a<=1
 nB:k.n=k.a+k.B.length
 B0:0<k.B.length
 bks:∀ i,i<k.B.length->0<=(bk k.B i).fr/\(bk k.B i).fr<=(bk k.B i).to/\(bk k.B i).to<=(k.l.length:Int)/\0<=(bk k.B i).la/\(bk k.B i).la<(k.l.length:Int)
 dk:∀ b,b<k.B.length->∀ i:Nat,(bk k.B b).fr<=(i:Int)->(i:Int)<(bk k.B b).to->Dk (k.l.getD i z)/\LdOk (k.l.getD i z)/\OffOk (k.l.getD i z)/\(dU (k.l.getD i z)=true->0<=cQ (k.l.getD i z)/\cQ (k.l.getD i z)<=10)
 ri:∀ b,b<k.B.length->Ri (k.l.getD (bk k.B b).la.toNat z)
 rg:∀ i,i<k.n->(∀ r∈regs i,0<=r/\r<=10)/\(regs i).length<=11
 vw:sumA (wgt k regs) k.n<=65536
theorem Gd.blk{k:J.Lk}{regs:Nat->List Int}(h:Gd k regs){i:Nat}(hi:i<k.n):i - k.a<k.B.length:=by
 have:=h.nB;have:=h.B0;omega
theorem partS_uz{k:J.Lk}{regs:Nat->List Int}(hg:Gd k regs){i:Nat}(hi:i<k.n){now:Nat->Int}{v:Int}{D:Int->Prop}(hn:i=0∨∀ r,r<11->D (now r)):Uz D (cN k regs i now v):=by
 have h0:Uz D (bZ i now v (regs i)):=by
  by_cases e:i=0
  ·subst e;exact Uz.write0 ..
  ·exact Uz.writeN e _ _ (hn.resolve_left e)
 have hb:=hg.blk hi;obtain⟨b1,b2,b3,b4,b5⟩:=hg.bks _ hb;unfold cN cJ;split
 ·refine(h0.block k.l _ _ _ _ _ (λ j h1 h2=>?_) (hg.ri _ hb)).1
  have:=hg.dk _ hb j (by omega) (by omega);exact⟨this.1,this.2.1⟩
 ·exact h0
theorem partS_wi(k:J.Lk)(regs:Nat->List Int)(i:Nat)(now:Nat->Int)(v:Int):WiV v (cN k regs i now v):=WiV.write ..
theorem partS_now{k:J.Lk}{regs:Nat->List Int}(hg:Gd k regs){i:Nat}(hi:i<k.n){now:Nat->Int}{v:Int}(hv:0<=v)(hn:i=0∨∀ r,r<11->0<=now r/\now r<v):∀ r,r<11->0<=(cN k regs i now v).now r/\(cN k regs i now v).now r<(cN k regs i now v).v:=by
 intro r hr;have hu:=partS_uz hg hi (v:=v) (D:=λ x=>0<=x/\x<v) hn;have hw:=partS_wi k regs i now v;have hle:=hw.le;rcases hu.now r hr with h|h
 ·obtain⟨h1,h2⟩:=h
  omega
 ·have:=hw.rg _ (List.mem_append.2 h);omega
structure Rn(k:J.Lk)(regs:Nat->List Int)(U:Nat->Nat)(F:Nat->Option Wq)(V0:Nat->Int)(v:Int):Prop where
 v0:0<=v
 bd:v<=(sumF (wgt k regs) F k.n:Nat)
 is:∀ i s,F i=some s->i<k.n/\0<=V0 i/\V0 i<=s.v/\s.v<=v/\(∀ r,r<11->0<=s.now r/\s.now r<s.v)/\((i=0/\s=cN k regs 0 (λ _=>0) (V0 0))∨(i≠0/\∃ t,F (U i)=some t/\t.v<=V0 i/\s=cN k regs i t.now (V0 i)))
 sep:∀ i j s t,i≠j->F i=some s->F j=some t->s.v<=V0 j∨t.v<=V0 i
def Fm(F:Nat->Option Wq)(f:Int->Int->Option Int):Prop:=∀ i s,F i=some s->∀ r:Nat,r<11->f (i:Int) (r:Int)=some (s.now r)
def upV(f:Nat->Int)(i:Nat)(v:Int):Nat->Int:=λ j=>if j=i then v else f j
theorem upV_at(f:Nat->Int)(i:Nat)(v:Int):upV f i v i=v:=if_pos rfl
theorem upV_ne(f:Nat->Int)(i:Nat)(v:Int){j:Nat}(h:j≠i):upV f i v j=f j:=if_neg h
def NowOk(U:Nat->Nat)(F:Nat->Option Wq)(i:Nat)(now:Nat->Int):Prop:=(i=0/\now=λ _=>0)∨(i≠0/\∃ t,F (U i)=some t/\now=t.now)
theorem Rn.none(k:J.Lk)(regs:Nat->List Int)(U:Nat->Nat):Rn k regs U (λ _=>Option.none) (λ _=>0) 0 :=
 ⟨Int.le_refl _,(by omega),λ _ _ h=>(by cases h),λ _ _ _ _ _ h=>(by cases h)⟩
theorem Rn.le{k:J.Lk}{regs:Nat->List Int}{U:Nat->Nat}{F:Nat->Option Wq}{V0:Nat->Int}{v:Int}(h:Rn k regs U F V0 v)(hg:Gd k regs):v<=65536:=by
 have:=h.bd;have:=sumF_le (wgt k regs) F k.n;have:=hg.vw;omega
theorem Rn.add{k:J.Lk}{regs:Nat->List Int}{U:Nat->Nat}{F:Nat->Option Wq}{V0:Nat->Int}{v:Int}(h:Rn k regs U F V0 v)(hg:Gd k regs){i:Nat}(hi:i<k.n)(hF:F i=Option.none){now:Nat->Int}(hn:NowOk U F i now):Rn k regs U (updF F i (cN k regs i now v)) (upV V0 i v) (cN k regs i now v).v:=by
 have hle:=(partS_wi k regs i now v).le;have hv:=h.v0;refine⟨by omega,?_,λ j s hs=>?_,λ a b s t hab hs ht=>?_⟩
 ·have:=partS_v k regs i now v
  have:=h.bd;rw[sumF_upd _ _ _ _ hF _ hi];omega
 ·by_cases e:j=i
  ·subst e
   rw[fC]at hs;injection hs with hs
   subst hs;rw[upV_at]
   have hn11:j=0∨∀ r,r<11->0<=now r/\now r<v:=by
    rcases hn with ⟨h1,_⟩|⟨_,t,h2,rfl⟩
    ·exact .inl h1
    ·exact .inr λ r hr=>by have h3:=h.is _ _ h2;have:=h3.2.2.2.2.1 r hr;have:=h3.2.2.2.1;omega
   refine⟨hi,hv,hle,Int.le_refl _,partS_now hg hi hv hn11,?_⟩;rcases hn with ⟨h1,h2⟩|⟨h1,t,h2,h3⟩
   ·subst h1;exact .inl ⟨rfl,by rw[h2,upV_at]⟩
   ·refine .inr ⟨h1,t,?_,(h.is _ _ h2).2.2.2.1,by rw[h3]⟩
    rw[cO _ _ _ (λ e=>by rw[e,hF]at h2;cases h2)];exact h2
  ·rw[cO _ _ _ e]at hs
   rw[upV_ne _ _ _ e];obtain⟨a1,a2,a3,a4,a5,a6⟩:=h.is j s hs;refine⟨a1,a2,a3,by omega,a5,?_⟩;rcases a6 with ⟨h1,h2⟩|⟨h1,t,h2,h3,h4⟩
   ·exact .inl ⟨h1,by rw[upV_ne _ _ _ (by omega)];exact h2⟩
   ·refine .inr ⟨h1,t,?_,h3,h4⟩
    rw[cO _ _ _ (λ e=>by rw[e,hF]at h2;cases h2)];exact h2
 ·by_cases e:a=i
  ·subst e
   rw[cO _ _ _ (λ e=>hab e.symm)]at ht;have:=(h.is _ _ ht).2.2.2.1;rw[upV_at];exact .inr this
  ·rw[cO _ _ _ e]at hs
   by_cases e2:b=i
   ·subst e2
    rw[upV_at];exact .inl (h.is _ _ hs).2.2.2.1
   ·rw[cO _ _ _ e2]at ht
    rw[upV_ne _ _ _ e,upV_ne _ _ _ e2];exact h.sep a b s t hab hs ht
inductive Dn(U:Nat->Nat)(n p:Nat):Nat->Prop
 | here:Dn U n p p
 | down {x:Nat}:Dn U n p (U x)->x≠0->x<n->Dn U n p x
theorem Dn.trans{U:Nat->Nat}{n a b c:Nat}(h1:Dn U n a b)(h2:Dn U n b c):Dn U n a c:=by
 induction h2 with
 | here=>exact h1
 | down _ h3 h4 ih=>exact .down ih h3 h4
theorem Dn.rank{U:Nat->Nat}{n:Nat}{rk:Nat->Nat}(hr:∀ x,x≠0->x<n->rk (U x)<rk x){a b:Nat}(h:Dn U n a b):rk a<=rk b:=by
 induction h with
 | here=>exact Nat.le_refl _
 | down _ h3 h4 ih=>have:=hr _ h3 h4;omega
theorem Dn.comp{U:Nat->Nat}{n a b x:Nat}(h1:Dn U n a x)(h2:Dn U n b x):Dn U n a b∨Dn U n b a:=by
 induction h1 with
 | here=>exact .inr h2
 | down h3 h4 h5 ih =>
  cases h2 with
  | here=>exact .inl (.down h3 h4 h5)
  | down h6 _ _=>exact ih h6
theorem Dn.cases'{U:Nat->Nat}{n a x:Nat}(h:Dn U n a x):x=a∨∃ c,c≠0/\c<n/\U c=a/\Dn U n c x:=by
 induction h with
 | here=>exact .inl rfl
 | @down x h3 h4 h5 ih =>
  rcases ih with e|⟨c,h6,h7,h8,h9⟩
  ·exact .inr ⟨x,h4,h5,e,.here⟩
  ·exact .inr ⟨c,h6,h7,h8,.down h9 h4 h5⟩
theorem Dn.apart{U:Nat->Nat}{n:Nat}{rk:Nat->Nat}(hr:∀ x,x≠0->x<n->rk (U x)<rk x){p a b x:Nat}(ha:a≠0/\a<n/\U a=p)(hb:b≠0/\b<n/\U b=p)(h1:Dn U n a x)(h2:Dn U n b x):a=b:=by
 have key:∀ {c d:Nat},(c≠0/\c<n/\U c=p)->(d≠0/\d<n/\U d=p)->Dn U n c d->c=d:=λ {c d} hc hd h=>by
  cases h with
  | here=>rfl
  | down h3 h4 h5 =>
   rw[hd.2.2]at h3;have:=h3.rank hr;have:=hr c hc.1 hc.2.1;rw[hc.2.2]at this;omega
 rcases h1.comp h2 with h|h
 ·exact key ha hb h
 ·exact(key hb ha h).symm
theorem layE_ab{l:List In}{a:Nat}{B:List Bk}{i:Nat}{e:Te}(h:(layE l a B)[i]?=some e):e.a=0/\e.b=0:=by
 have hm:e∈layE l a B:=List.mem_of_getElem? h;unfold layE at hm;rw[List.mem_append,List.mem_map]at hm;rcases hm with h|⟨x,_,rfl⟩
 ·split at h
  ·simp at h;subst h;exact⟨rfl,rfl⟩
  ·cases h
 ·unfold endB
  split <;> exact⟨rfl,rfl⟩
theorem Sv.write{z W:World}{k:J.Lk}{F:Nat->Option Wq}{v:Int}{c:Nat}{f:Int->Int->Option Int}{lo hi:Nat->Nat}{gh base:Nat}{regs:Nat->List Int}{P:Nat->Option Addr}{C:Nat->Nat}(hs:Sv z k gh base regs P C)(hg:Gd k regs)(h:Rv z W k F v c f lo hi){i:Nat}(hi':i<k.n)(hF:F i=none) :
  Wz W k.bb k.gp i k.n k.cap v/\Zp W ⟨k.bb,k.gp,i*10,0⟩ k.q k.qc k.l/\Wb W k.bb k.gp i k.a k.qB k.cB k.B (bk k.B (i - k.a)).fr.toNat (bk k.B (i - k.a)).to.toNat (bk k.B (i - k.a)).la.toNat (regs i) /\
   W.cell? ⟨k.gp,i*10+3,none⟩=some (.int .i64 (k.E.getD i Te.z).op)/\W.cell? ⟨k.gp,i*10+5,none⟩=some (.bool (k.E.getD i Te.z).wide):=by
 have hbg:=hs.bg;have hmb:=hs.mb;have hgl:=hs.gpl;have hgb:=hs.gb;have hgh:=hs.ghb;have hsz:=h.size;have hb0:=hs.b0;have hg0:=hs.g0;have hm0:=hs.m0;obtain⟨w0,hw0,hI,hB,hw0m⟩:=hs.wo;have hWw:Below w0.heap.size w0 W:=⟨h.os.trans hw0.os,h.tape.trans hw0.tape,h.output.trans hw0.output,Nat.le_trans hw0.size hsz,λ b hb=>(h.old b (by have:=hw0.size;omega) (by omega) (by omega) (by omega)).trans (hw0.block b hb)⟩;have hold:∀ b o,b<z.heap.size->b≠k.bb->b≠k.gp->b≠k.mb->W.cell? ⟨b,o,none⟩=z.cell? ⟨b,o,none⟩:=λ b o h1 h2 h3 h4=>World.cell?_of_block (a:=⟨b,o,none⟩) (h.old b h1 h2 h3 h4)
 have hiE:i<k.E.length:=hi';have he:k.E[i]?=some (k.E.getD i Te.z):=by rw[List.getD_eq_getElem?_getD,List.getElem?_eq_getElem hiE];rfl
 obtain⟨ea,eb⟩:=layE_ab he;generalize k.E.getD i Te.z=e at *
 have hog:∀ j,1<=j->j<10->∀ x,(dX e)[j]?=some x->W.cell? ⟨k.gp,i*10+j,none⟩=some x:=λ j h1 h2 x hx=>by
  refine(h.og _ (λ i2 h5 h6=>?_)).trans (hs.cl i e he j h1 h2 x hx);have hne:i2≠i:=λ e=>h6 (by rw[e];exact hF)
  omega
 have hq:∀ ad,k.q=some ad->ad.block≠k.bb/\ad.block≠k.gp:=λ ad ea=>by
  obtain⟨b,o,e2,hl,_⟩:=hI.cells 0 hg.l0;rw[ea]at e2;injection e2 with e2
  subst e2;show b≠_/\b≠_;omega
 have hqB:∀ ad,k.qB=some ad->ad.block≠k.bb/\ad.block≠k.gp:=λ ad ea=>by
  obtain⟨b,o,_,_,_,_,e2,hl,_⟩:=hB.cells 0 hg.B0;rw[ea]at e2;injection e2 with e2
  subst e2;show b≠_/\b≠_;omega
 have hmem:i∈List.range k.n:=List.mem_range.2 hi';obtain⟨b1,b2,b3,b4,b5⟩:=hg.bks _ (hg.blk hi');have hghz:=hs.sr.bl;have hnN:=hg.nN
 refine⟨⟨⟨by have:=hs.ld.1;omega,λ j hj=>(hold 0 j hs.ld.1 (by omega) (by omega) (by omega)).trans (hs.ld.2 j hj)⟩,hb0,hg0,by omega,by omega,by omega,h.fb,h.fg,(h.ob 3 (by decide)).trans hs.c3,h.cv,hi',hog 1 (by omega) (by omega) _ rfl,hog 2 (by omega) (by omega) _ rfl,(hog 6 (by omega) (by omega) _ rfl).trans (by rw[<- ea];rfl),(hog 7 (by omega) (by omega) _ rfl).trans (by rw[<- eb];rfl)⟩,
  ⟨(h.ob 0 (by decide)).trans hs.c0,hI.below hWw,hq⟩,⟨(h.ob 1 (by decide)).trans hs.c1,(h.ob 2 (by decide)).trans hs.c2,hB.below hWw,hqB,⟨gh,k.n,k.n,P i,C i,(h.ob 6 (by decide)).trans hs.c6,hi',by omega,by omega,by omega,by omega,(hold gh i hghz (by omega) (by omega) (by omega)).trans (hs.sr.cl i hmem),?_,λ ad ea=>?_⟩,(hg.rg i hi').1,(hg.rg i hi').2,λ ha=>⟨hg.blk hi',by omega,by omega,by omega⟩⟩,hog 3 (by omega) (by omega) _ rfl,hog 5 (by omega) (by omega) _ rfl⟩
 ·have hnu:=hs.sr.nums hmem (by have:=(hg.rg i hi').2;omega)
  refine cT (w:=z) ⟨hnu.small,hnu.cells⟩ hsz (λ ad ea=>?_);obtain⟨h1,h2⟩:=hs.sr.blk hmem (k:=ad.block) (by rw[ea];rfl);exact h.old _ h2 (by omega) (by omega) (by omega)
 ·obtain⟨h1,h2⟩:=hs.sr.blk hmem (k:=ad.block) (by rw[ea];rfl)
  omega
def putN'(W:World)(b:Nat)(x:Nat->Int):Nat->World
 | 0=>W
 | j+1=>(putN' W b x j).setCell ⟨b,j,none⟩ (.int .i64 (x j))
theorem putN'_cell{W:World}{b:Nat}{x:Nat->Int}(h:∀ j,j<11->∃ u,W.cell? ⟨b,j,none⟩=some u):∀ n,n<=11->(∀ j,j<n->(putN' W b x n).cell? ⟨b,j,none⟩=some (.int .i64 (x j)))/\∀ j,n<=j->(putN' W b x n).cell? ⟨b,j,none⟩=W.cell? ⟨b,j,none⟩
 | 0,_=>⟨λ j hj=>absurd hj (Nat.not_lt_zero _),λ _ _=>rfl⟩
 | n+1,hn=>by
  obtain⟨h1,h2⟩:=putN'_cell (x:=x) h n (by omega);refine⟨λ j hj=>?_,λ j hj=>?_⟩
  ·by_cases e:j=n
   ·subst e
    obtain⟨u,hu⟩:=h j (by omega);exact World.cell?_setCell_same _ _ _ ((h2 j (Nat.le_refl _)).trans hu)
   ·exact(bO (aM (.inr e))).trans (h1 j (by omega))
  ·exact(bO (aM (.inr (by omega)))).trans (h2 j (by omega))
theorem putN'_oth(W:World)(b:Nat)(x:Nat->Int):∀ n,(putN' W b x n).heap.size=W.heap.size/\(∀ b',b'≠b->(putN' W b x n).heap[b']?=W.heap[b']?)/\∀ a,(putN' W b x n).frozen? a=W.frozen? a
 | 0=>⟨rfl,λ _ _=>rfl,λ _=>rfl⟩
 | n+1=>by
  obtain⟨h1,h2,h3⟩:=putN'_oth W b x n;exact⟨by rw[<- h1];simp[putN',World.setCell],λ b' hb=>(heap_setCell_other _ ⟨b,n,none⟩ b' _ hb).trans (h2 b' hb),λ a=>(World.frozen?_setCell ..).trans (h3 a)⟩
theorem Rv.putN'{z W:World}{k:J.Lk}{F:Nat->Option Wq}{v:Int}{c:Nat}{f:Int->Int->Option Int}{lo hi:Nat->Nat}(h:Rv z W k F v c f lo hi)(hz:k.bb<z.heap.size/\k.gp<z.heap.size/\k.mb<z.heap.size){b:Nat}(hb:z.heap.size<=b)(hsep:∀ i,i<k.n->F i≠none->b<lo i∨hi i<=b)(x:Nat->Int):∀ n,Rv z (putN' W b x n) k F v c f lo hi
 | 0=>h
 | n+1=>(Rv.putN' h hz hb hsep x n).tset hz hb hsep n _
def Vx(z W:World)(k:J.Lk)(regs:Nat->List Int)(U:Nat->Nat)(F:Nat->Option Wq):Prop :=
 ∃ v c f lo hi V0,Rv z W k F v c f lo hi/\Rn k regs U F V0 v/\Fm F f/\c<=11*sumF (λ _=>1) F k.n
structure Ve(z:World)(k:J.Lk)(xb xl xv gl lo:Nat)(U:Nat->Nat)(BL:List (List Int))(ch:Nat->List Nat):Prop where
 b:z.cell? ⟨xb,0,none⟩=some (.pointer (some ⟨k.bb,0,none⟩))
 l:z.cell? ⟨xl,0,none⟩=some (.slice (some ⟨gl,0,none⟩) k.n k.n)
 v:z.cell? ⟨xv,0,none⟩=some (.func (.func 57) #[] #[.pointer (some ⟨xb,0,none⟩),.pointer (some ⟨xl,0,none⟩),.pointer (some ⟨xv,0,none⟩)])
 xbl:xb<z.heap.size/\k.gp<xb
 xll:xl<z.heap.size/\k.gp<xl
 xvl:xv<z.heap.size/\k.gp<xv
 lg:k.gp<lo
 rows:J.GsF lo z.heap.size z (some ⟨gl,0,none⟩) BL
 len:BL.length=k.n
 row:∀ p,p<k.n->BL.getD p []=(ch p).map Int.ofNat
 nd:∀ p,p<k.n->(ch p).Nodup
 ch:∀ p,p<k.n->∀ c,c∈ch p↔c≠0/\c<k.n/\U c=p
def VisR(z:World)(k:J.Lk)(regs:Nat->List Int)(U:Nat->Nat)(rk:Nat->Nat)(xb xl xv M m:Nat):Prop :=
 ∀ (part:Nat) (now:Nat->Int) (W:World) (F:Nat->Option Wq),part<k.n->M<=rk part+m->Vx z W k regs U F->NowOk U F part now->(∀ x,Dn U k.n part x->F x=none) ->
  Calls Tryz.prog 57 #[.int .i64 (part:Int),regsV now,.pointer (some ⟨xb,0,none⟩),.pointer (some ⟨xl,0,none⟩),.pointer (some ⟨xv,0,none⟩)] W λ e W'=>e=.returned (.tuple #[])/\∃ F',Vx z W' k regs U F'/\(∀ x,F' x≠none↔F x≠none∨Dn U k.n part x)/\(∀ x s,F x=some s->F' x=some s)/\W.heap.size<=W'.heap.size/\∀ b,z.heap.size<=b->b<W.heap.size->W'.heap[b]?=W.heap[b]?
theorem index_regs(cs:List Value)(x:Nat)(hx:x<11)(v:Value)(hv:cs[x]?=some v)(W:World):(Instr.index 137 (.agg cs.toArray) (.int .i64 (x:Int))).run Tryz.prog W=.ok v W:=by
 have hs:(sizeOf 3).run Tryz.prog W=.ok 1 W:=by kernel_rfl
 have hb:0<=(x:Int)/\(x:Int)<(11:Nat):=by omega
 simp[Instr.index,run_underlying (Tryz.underlying137:Tryz.prog.underlying 137=_),asIntOf,hb,hs,part,hv,go_sem];intro h;omega
theorem index_now(now:Nat->Int)(x:Nat)(hx:x<11)(W:World):(Instr.index 137 (regsV now) (.int .i64 (x:Int))).run Tryz.prog W=.ok (.int .i64 (now x)) W:=by
 refine index_regs [.int .i64 (now 0),.int .i64 (now 1),.int .i64 (now 2),.int .i64 (now 3),.int .i64 (now 4),.int .i64 (now 5),.int .i64 (now 6),.int .i64 (now 7),.int .i64 (now 8),.int .i64 (now 9),.int .i64 (now 10)] x hx _ ?_ W
 match x,hx with
 | 0,_=>rfl
 | 1,_=>rfl
 | 2,_=>rfl
 | 3,_=>rfl
 | 4,_=>rfl
 | 5,_=>rfl
 | 6,_=>rfl
 | 7,_=>rfl
 | 8,_=>rfl
 | 9,_=>rfl
 | 10,_=>rfl
def fReg(f:Int->Int->Option Int)(p:Nat)(now:Nat->Int)(r:Nat):Int->Int->Option Int:=λ i j=>if i=(p:Int)/\0<=j/\j<(r:Int)then some (now j.toNat)else f i j
theorem fReg_0(f:Int->Int->Option Int)(p:Nat)(now:Nat->Int):fReg f p now 0=f:=by
 funext i j;unfold fReg;rw[if_neg (by omega)]
theorem fReg_next(f:Int->Int->Option Int)(p:Nat)(now:Nat->Int)(r:Nat):sput (fReg f p now r) (p:Int) (r:Int) (now r)=fReg f p now (r+1):=by
 funext i j
 unfold sput fReg;by_cases h1:i=(p:Int)/\j=(r:Int)
 ·rw[if_pos h1,if_pos (by omega),h1.2,Int.toNat_natCast]
 ·rw[if_neg h1]
  by_cases h2:i=(p:Int)/\0<=j/\j<(r:Int)
  ·rw[if_pos h2,if_pos (by omega)]
  ·rw[if_neg h2,if_neg (by omega)]
theorem Fm.add{F:Nat->Option Wq}{f:Int->Int->Option Int}(h:Fm F f){p:Nat}{s:Wq}(hF:F p=none):Fm (updF F p s) (fReg f p s.now 11):=by
 intro i t ht r hr;unfold fReg;by_cases e:i=p
 ·subst e
  rw[fC]at ht;injection ht with ht
  subst ht;rw[if_pos (by omega),Int.toNat_natCast]
 ·rw[cO _ _ _ e]at ht
  rw[if_neg (by omega)];exact h i t ht r hr
end Go.Proofs.YtkfahppdklecdaaGreatDoor
