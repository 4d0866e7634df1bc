import Derived.Test.YtkfahppdklecdaaGreatDoorZ28
set_option maxRecDepth 100000
set_option maxHeartbeats 16000000
namespace Go.Proofs.YtkfahppdklecdaaGreatDoor
open Go.RowKit M
def atW(W:World)(b:Nat):Nat:=match W.cell? ⟨b,13,none⟩with
 | some v=>(RowKit.intOf v).toNat
 | none=>0
theorem Wa.atW{Z W:World}{k:Kx}{s:Wq}{T:Nat->Prop}(h:Wa Z W k s T){n:Nat}(hn:s.at'=(n:Int)):Go.Proofs.YtkfahppdklecdaaGreatDoor.atW W k.wb=n:=by
 unfold Go.Proofs.YtkfahppdklecdaaGreatDoor.atW;rw[h.now.2.2.2.2,hn];rfl
theorem blk_at(p:List In)(f:Nat)(s:Wq):∀ m,(blkS p f m s).at'=((f+m:Nat):Int)
 | 0=>rfl
 | _+1=>rfl
theorem step_bq{s:Wq}{d:Nat}(h:Bq s (d+2))(x:In):Bq (eC s x) d:=by
 have:=do_bq h x;unfold eC;split
 ·exact⟨this.v0,this.v1,this.n⟩
 ·exact this
theorem blk_bq{p:List In}{f:Nat}{s:Wq}:∀ {m d:Nat},Bq s (2*m+d)->Bq (blkS p f m s) d
 | 0,d,h=>⟨h.v0,by have:=h.v1;simp at this;exact this,by have:=h.n;simp at this;exact this⟩
 | m+1,d,h=>by
  have h1:Bq (blkS p f m s) (d+2):=blk_bq (h.mono (by omega));have h2:=step_bq h1 (p.getD (f+m) z);exact⟨h2.v0,h2.v1,h2.n⟩
theorem opd_at(s:Wq)(x:In)(wide:Bool):(opdS s x wide).at'=s.at':=by unfold opdS;split <;> rfl
theorem aluM_at(s:Wq)(x:In)(op:Int)(wide:Bool):(aluM s x op wide).at'=s.at':=by
 unfold aluM;split
 ·rfl
 ·exact opd_at ..
theorem do_at(s:Wq)(x:In):(doS s x).at'=s.at':=by
 unfold doS;split
 ·unfold aluS
  split
  ·exact aluM_at ..
  ·exact aluM_at ..
 ·split
  ·rfl
  ·split
   ·rfl
   ·split
    ·unfold accS
     split
     ·rfl
     ·split <;> rfl
    ·rfl
def cY(p:List In)(s:Wq)(f t la:Nat)(op:Int)(wide:Bool):Wq:=askS { blkS p f (t - f) s with at':=(la:Int) } op wide (p.getD la z)
theorem sblk_any{Z:World}{k:Kx}{s:Wq}{T:Nat->Prop}{q:Option Addr}{qc:Nat}{l:List In}(f t la:Nat)(sp pp:Option Addr)(sn sc pn pc:Nat)(op:Int)(wide:Bool)(w:World)(h0:Wa Z w k s T)(hz:Zk Z k)(hp:Zp Z k q qc l)(hft:f<=t)(htl:t<=l.length)(hla:la<l.length)(hlN:l.length<=4096)(hq:Bq s (2*(t - f)+2))
  (hd:∀ i,f<=i->i<t->Dk (l.getD i z)) (hs:∀ i,f<=i->i<t->dU (l.getD i z)=true->0<=cQ (l.getD i z)/\cQ (l.getD i z)<=10) (hr:Ri (l.getD la z))
  (c3:Z.cell? ⟨k.gp,k.o+3,none⟩=some (.int .i64 op)) (c5:Z.cell? ⟨k.gp,k.o+5,none⟩=some (.bool wide)) :
  Calls Tryz.prog 106 #[.pointer (some ⟨k.wb,0,none⟩),.agg #[.int .i64 (f:Int),.int .i64 (t:Int),.int .i64 (la:Int),.slice sp sn sc,.slice pp pn pc]] w λ e w'=>e=.returned (.tuple #[])/\Wa Z w' k (cY l s f t la op wide) T/\Kt T w w':=by
 have H0:=aQ h0;have HT0:=aQ (λ W (hb:Below w.heap.size w W)=>h0.tn hb);have HK0:=aQ (λ W (hb:Below w.heap.size w W)=>h0.kt hb);have HTL:=aQ h0.tlt;have HDO:=aQ (λ (s1:Wq) (T1:Nat->Prop) i (h1:f<=i) (h2:i<t) W (ha:Wa Z W k s1 T1) hq1=>sdo_any (l.getD i z) W ha hz hq1 (hd i h1 h2));have HSE:=aQ (λ i (h1:f<=i) (h2:i<t) W=>ssets_any (l.getD i z) W (hd i h1 h2).bd.1 (hd i h1 h2).bd.2);have HAS:=aQ (λ (s1:Wq) (T1:Nat->Prop) W (ha:Wa Z W k s1 T1) hq1 (hat:s1.at'=(la:Int))=>sask_any la op wide W ha hp hq1 hat hla hr c3 c5);have HBQ:Hid (∀ m,m<t - f->Bq (blkS l f m s) 2):=aQ (λ m hm=>blk_bq (hq.mono (by omega)));have HBE:Hid (Bq (blkS l f (t - f) s) 2):=aQ (blk_bq hq);have HPR:Hid (∀ W s1 T1,Wa Z W k s1 T1->W.cell? ⟨k.bb,0,none⟩=some (.slice q l.length qc)/\InsAt W q l/\k.bb<W.heap.size):=aQ (λ W s1 T1 h=>h.prog hp);have HSB:=aQ hs;have HNX:Hid (∀ m,blkS l f (m+1) s = { eC (blkS l f m s) (l.getD (f+m) z)with at':=((f+m+1:Nat):Int) }):=aQ (λ m=>rfl);have HAT:=aQ (blk_at l f s);have HB0:Hid (blkS l f 0 s = { s with at':=(f:Int) }):=aQ rfl;have HFIN:Hid (cY l s f t la op wide=askS { blkS l f (t - f) s with at':=(la:Int) } op wide (l.getD la z)):=aQ rfl;obtain⟨F,hF⟩:∃ F,cY l s f t la op wide=F:=⟨_,rfl⟩;rw[hF]at HFIN ⊢;obtain⟨B,hB⟩:∃ B:Nat->Wq,(λ m=>blkS l f m s)=B:=⟨_,rfl⟩;have hB':∀ m,blkS l f m s=B m:=λ m=>by rw[<- hB]
 simp only[hB']at HBQ HBE HNX HAT HB0 HFIN;obtain⟨lw,_,w0,w1,w13⟩:=h0.now;have fz:=h0.gl.2.2.1 13;clear h0 hz hp hq hd hs hr c3 c5 hF hB hB';go_enter Tryz.func106,Tryz.ntmps106
 go_wp2_with fail
 obtain⟨W1,hW1⟩:∃ W,w.setCell ⟨k.wb,13,none⟩ (.int .i64 (f:Int))=W:=⟨_,rfl⟩;have hs1:W1.heap.size=w.heap.size:=by rw[<- hW1];simp[World.setCell]
 have HA1:Hid (Wa Z W1 k (B 0) T):=aQ (by rw[<- hW1,HB0.out];exact H0.out.setAt _);have HK1:Hid (Kt T w W1):=aQ (by rw[<- hW1];exact(Kt.refl T w).setW H0.out (.inr (.inr rfl)) _ _);rw[hW1];have f0:∀ i v,(#[.int .i64 (f:Int),.int .i64 (t:Int),.int .i64 (la:Int),.slice sp sn sc,.slice pp pn pc]:Array Value)[i]?=some v->(W1.alloc (.cells #[.int .i64 (f:Int),.int .i64 (t:Int),.int .i64 (la:Int),.slice sp sn sc,.slice pp pn pc] 94)).cell? ⟨w.heap.size,i,none⟩=some v:=λ i v h=>by rw[<- hs1];exact aJ W1 h
 have HA2:Hid (Wa Z (W1.alloc (.cells #[.int .i64 (f:Int),.int .i64 (t:Int),.int .i64 (la:Int),.slice sp sn sc,.slice pp pn pc] 94)) k (B 0) (Tn T W1 (W1.alloc (.cells #[.int .i64 (f:Int),.int .i64 (t:Int),.int .i64 (la:Int),.slice sp sn sc,.slice pp pn pc] 94)))):=aQ (HA1.out.tn b1);have HK2:Hid (Kt T w (W1.alloc (.cells #[.int .i64 (f:Int),.int .i64 (t:Int),.int .i64 (la:Int),.slice sp sn sc,.slice pp pn pc] 94))):=aQ (HK1.out.trans (HA1.out.kt b1));have HTM:Hid ((∀ x,T x->Tn T W1 (W1.alloc (.cells #[.int .i64 (f:Int),.int .i64 (t:Int),.int .i64 (la:Int),.slice sp sn sc,.slice pp pn pc] 94)) x)/\Tn T W1 (W1.alloc (.cells #[.int .i64 (f:Int),.int .i64 (t:Int),.int .i64 (la:Int),.slice sp sn sc,.slice pp pn pc] 94)) w.heap.size):=aQ ⟨Tn.old,Or.inr ⟨by omega,by simp;omega⟩⟩;obtain⟨w2,hw2⟩:∃ W,W1.alloc (.cells #[.int .i64 (f:Int),.int .i64 (t:Int),.int .i64 (la:Int),.slice sp sn sc,.slice pp pn pc] 94)=W:=⟨_,rfl⟩;rw[hw2]at f0 HA2 HK2 HTM ⊢;obtain⟨T1,hT1⟩:∃ T',Tn T W1 w2=T':=⟨_,rfl⟩;rw[hT1]at HA2 HTM;have HBX:Hid (∀ W,Kt T1 w2 W->W.cell? ⟨w.heap.size,0,none⟩=some (.int .i64 (f:Int))/\W.cell? ⟨w.heap.size,1,none⟩=some (.int .i64 (t:Int))/\W.cell? ⟨w.heap.size,2,none⟩=some (.int .i64 (la:Int))):=aQ (λ W h=>⟨h.cell HTM.out.2 (f0 0 _ rfl),h.cell HTM.out.2 (f0 1 _ rfl),h.cell HTM.out.2 (f0 2 _ rfl)⟩);have hwl:w.heap.size<w2.heap.size:=by rw[<- hw2];simp;omega
 clear f0 HA1 HK1 hT1 hw2 hs1 hW1 w0 w1 w13 fz lw HT0 HK0 HB0
 go_loopw [] (λ W=>∃ m:Nat,m<=t - f/\Hid (Wa Z W k (B m) T1/\Kt T1 w2 W)) (λ W=>t - atW W k.wb)
 case atStart=>exact⟨0,Nat.zero_le _,aQ ⟨HA2.out,Kt.refl _ _⟩⟩
 case round =>
  clear HA2;obtain⟨m,hm,HW⟩:=hrel;have hat:=HW.out.1.atW (HAT.out m);obtain⟨lw,hn,w0,w1,w13⟩:=HW.out.1.now;rw[HAT.out m]at w13;obtain⟨p0,pins,pbl⟩:=HPR.out _ _ _ HW.out.1;obtain⟨e0,e1,e2⟩:=HBX.out _ HW.out.2;have hbx:w.heap.size<wr.heap.size:=Nat.lt_of_lt_of_le hwl HW.out.2.size;have fz13:=HW.out.1.gl.2.2.1 13;have hsm:=pins.small;by_cases hmt:m<t - f
  ·have hI1:f<=f+m:=by omega
   have hI2:f+m<t:=by omega
   obtain⟨bp,off,rfl,hbp,i0,i1,i2,i3,i4,i5⟩:=pins.cells (f+m) (by omega);have HD:=aQ (λ T' W ha=>HDO.out (B m) T' (f+m) hI1 hI2 W ha (HBQ.out m hmt));have HS:=aQ (λ W=>HSE.out (f+m) hI1 hI2 W);have HST:Hid (eC (B m) (l.getD (f+m) z)=if dU (l.getD (f+m) z)=true then { doS (B m) (l.getD (f+m) z)with now:=updI (doS (B m) (l.getD (f+m) z)).now (cQ (l.getD (f+m) z)).toNat (doR (B m) (l.getD (f+m) z)) } else doS (B m) (l.getD (f+m) z)):=aQ rfl;have HSR:=aQ (HSB.out (f+m) hI1 hI2);have HN:=aQ (HNX.out m);have hltN:((f+m:Nat):Int)<(t:Int):=by omega
   have hlN2:((f+m:Nat):Int)<(l.length:Int):=by omega
   have HDA:=aQ (do_at (B m) (l.getD (f+m) z));generalize eC (B m) (l.getD (f+m) z)=ST at *;generalize doS (B m) (l.getD (f+m) z)=DS at *;generalize doR (B m) (l.getD (f+m) z)=DR at *;generalize dU (l.getD (f+m) z)=SBo at *;obtain⟨SR,hSR⟩:∃ v,cQ (l.getD (f+m) z)=v:=⟨_,rfl⟩;rw[hSR]at HS HST HSR;generalize (l.getD (f+m) z).op=x0 at *;generalize (l.getD (f+m) z).dst=x1 at *;generalize (l.getD (f+m) z).src=x2 at *;generalize (l.getD (f+m) z).off=x3 at *;generalize (l.getD (f+m) z).imm=x4 at *;generalize (l.getD (f+m) z).wide=x5 at *;obtain⟨i,hi⟩:∃ i,f+m=i:=⟨_,rfl⟩;rw[hi]at w13 i0 i1 i2 i3 i4 i5 hltN hlN2 HN hat;have HI:=aQ hi;have hi0:(0:Int)<=(i:Int):=by omega
   clear pins hn hSR hi;go_wp2_with fail
   go_region
   all_goals go_wp2_with fail
   go_cut [4] (λ s4 wx=>∃ W,wx=W/\s4=.pointer (some ⟨wr.heap.size,0,none⟩)/\Hid (Below wr.heap.size wr W)/\(W.cell? ⟨wr.heap.size,0,none⟩=some (.int .i64 x0)/\W.cell? ⟨wr.heap.size,1,none⟩=some (.int .i64 x1)/\W.cell? ⟨wr.heap.size,2,none⟩=some (.int .i64 x2)/\W.cell? ⟨wr.heap.size,3,none⟩=some (.int .i64 x3)/\W.cell? ⟨wr.heap.size,4,none⟩=some (.int .i64 x4)/\W.cell? ⟨wr.heap.size,5,none⟩=some (.int .u64 x5))/\wr.heap.size<W.heap.size)
   case first =>
    go_region
    all_goals (go_wp2_with fail;go_meet)
    all_goals exact⟨_,rfl,rfl,aQ (by first|exact aD (aD b1)|exact aD b1),⟨aJ wr rfl,aJ wr rfl,aJ wr rfl,aJ wr rfl,aJ wr rfl,aJ wr rfl⟩,by simp⟩
   case rest =>
    obtain⟨w3,hw3,rfl,HB3,⟨y0,y1,y2,y3,y4,y5⟩,lx⟩:=hcut;rw[hw3];clear hw3 i0 i1 i2 i3 i4 i5 hbp;have HA3:=aQ (HW.out.1.tn HB3.out);have HK3:=aQ (HW.out.2.trans (HW.out.1.kt HB3.out));have HMX:Hid (Tn T1 wr w3 wr.heap.size):=aQ (Or.inr ⟨Nat.le_refl _,lx⟩)
    have HAF:Hid (∀ w5,Wa Z w5 k DS T1->Kt T1 w2 w5->w5.cell? ⟨k.wb,13,none⟩=some (.int .i64 (i:Int))/\w5.frozen? ⟨k.wb,13,none⟩=false/\k.wb<w5.heap.size/\(∀ r,r<11->w5.cell? ⟨k.wb,2+r,none⟩=some (.int .i64 (DS.now r))/\w5.frozen? ⟨k.wb,2+r,none⟩=false)):=aQ (λ w5 h1 _=>by
     refine⟨?_,h1.gl.2.2.1 _,h1.now.1,λ r hr=>⟨h1.now.2.1 r hr,h1.gl.2.2.1 _⟩⟩;rw[h1.now.2.2.2.2,HDA.out,HAT.out m,HI.out])
    have harm:True:=trivial;cases SBo with
    | true =>
     obtain⟨r1,r2⟩:=HSR.out rfl;obtain⟨r,hr⟩:∃ r:Nat,SR=(r:Int):=⟨SR.toNat,by omega⟩;subst hr;have hr11:r<11:=by omega
     have hrI:(r:Int)<11:=by omega
     have HEND:Hid (∀ w5,Wa Z w5 k DS T1->Kt T1 w2 w5->Hid (Wa Z ((w5.setCell ⟨k.wb,2+r,none⟩ (.int .i64 DR)).setCell ⟨k.wb,13,none⟩ (.int .i64 ((i:Int)+1))) k (B (m+1)) T1/\Kt T1 w2 ((w5.setCell ⟨k.wb,2+r,none⟩ (.int .i64 DR)).setCell ⟨k.wb,13,none⟩ (.int .i64 ((i:Int)+1))))):=aQ (λ w5 h1 h2=>by
      have e:B (m+1) = { { DS with now:=updI DS.now r DR } with at':=(i:Int)+1 }:=by
       rw[HN.out,HST.out,if_pos rfl,Int.toNat_natCast];simp
      rw[e];have hA:=h1.setNow hr11 DR;exact aQ ⟨hA.setAt _,(h2.setW h1 (.inr (.inr rfl)) _ _).setW hA (.inr (.inr rfl)) _ _⟩)
     go_wp2_with (first
      | (go_at_call 142;(with_reducible refine(HD.out _ _ HA3.out).mono ?_);rintro e w4 ⟨rfl,h4⟩;have z0:=h4.2.cell HMX.out y0;have z1:=h4.2.cell HMX.out y1;have z2:=h4.2.cell HMX.out y2;have z3:=h4.2.cell HMX.out y3;have z4:=h4.2.cell HMX.out y4;have z5:=h4.2.cell HMX.out y5;have lz:=Nat.lt_of_lt_of_le lx h4.2.size;have H4:=aQ (h4.1.mono Tn.old);have H4K:=aQ (HK3.out.trans (h4.2.mono Tn.old));clear h4)
      | (go_at_call 103;(with_reducible refine(HS.out _).mono ?_);rintro e w5 ⟨rfl,hb5⟩;have H5:=aQ (H4.out.next hb5);have H5K:=aQ (H4K.out.trans (H4.out.kt hb5));obtain⟨q13,qf13,ql,qr⟩:=HAF.out _ H5.out H5K.out;obtain⟨qr1,qr2⟩:=qr r hr11;have HX:=HEND.out w5 H5.out H5K.out;clear qr hb5))
     go_roundw
     case rel=>exact⟨m+1,by omega,HX⟩
     case measure=>rw[hat,HX.out.1.atW (HAT.out (m+1))];have:=HI.out;omega
    | false =>
     have HEND:Hid (∀ w5,Wa Z w5 k DS T1->Kt T1 w2 w5->Hid (Wa Z (w5.setCell ⟨k.wb,13,none⟩ (.int .i64 ((i:Int)+1))) k (B (m+1)) T1/\Kt T1 w2 (w5.setCell ⟨k.wb,13,none⟩ (.int .i64 ((i:Int)+1))))):=aQ (λ w5 h1 h2=>by
      have e:B (m+1) = { DS with at':=(i:Int)+1 }:=by
       rw[HN.out,HST.out,if_neg (by simp)];simp
      rw[e];exact aQ ⟨h1.setAt _,h2.setW h1 (.inr (.inr rfl)) _ _⟩)
     go_wp2_with (first
      | (go_at_call 142;(with_reducible refine(HD.out _ _ HA3.out).mono ?_);rintro e w4 ⟨rfl,h4⟩;have z0:=h4.2.cell HMX.out y0;have z1:=h4.2.cell HMX.out y1;have z2:=h4.2.cell HMX.out y2;have z3:=h4.2.cell HMX.out y3;have z4:=h4.2.cell HMX.out y4;have z5:=h4.2.cell HMX.out y5;have lz:=Nat.lt_of_lt_of_le lx h4.2.size;have H4:=aQ (h4.1.mono Tn.old);have H4K:=aQ (HK3.out.trans (h4.2.mono Tn.old));clear h4)
      | (go_at_call 103;(with_reducible refine(HS.out _).mono ?_);rintro e w5 ⟨rfl,hb5⟩;have H5:=aQ (H4.out.next hb5);have H5K:=aQ (H4K.out.trans (H4.out.kt hb5));obtain⟨q13,qf13,ql,qr⟩:=HAF.out _ H5.out H5K.out;have HX:=HEND.out w5 H5.out H5K.out;clear qr hb5))
     go_roundw
     case rel=>exact⟨m+1,by omega,HX⟩
     case measure=>rw[hat,HX.out.1.atW (HAT.out (m+1))];have:=HI.out;omega
  ·obtain rfl:m=t - f:=by omega
   have hlt:¬ ((f+(t - f):Nat):Int)<(t:Int):=by omega
   obtain⟨i,hi⟩:∃ i,f+(t - f)=i:=⟨_,rfl⟩;rw[hi]at w13 hlt;have HAL:=aQ (HW.out.1.setAt (la:Int));have HKL:=aQ (HW.out.2.setW HW.out.1 (.inr (.inr rfl)) 13 (.int .i64 (la:Int)));have HQL:Hid (Bq { B (t - f)with at':=(la:Int) } 1):=aQ ⟨HBE.out.v0,by have:=HBE.out.v1;simp at this ⊢;omega,by have:=HBE.out.n;simp at this ⊢;omega⟩;have HAS':=aQ (λ W ha=>HAS.out { B (t - f)with at':=(la:Int) } T1 W ha HQL.out rfl);rw[<- HFIN.out]at HAS';have HFF:Hid (∀ W W',W=wr->Wa Z W' k F T1->Kt T1 w2 W'->Wa Z W' k F T/\Kt T w W'):=aQ (λ W W' _ h1 h2=>⟨h1.mono HTM.out.1,HK2.out.trans (h2.mono HTM.out.1)⟩);have w1':(wr.setCell ⟨k.wb,13,none⟩ (.int .i64 (la:Int))).cell? ⟨k.wb,1,none⟩=some (.pointer (some ⟨k.gp,k.o,none⟩)):=HAL.out.now.2.2.2.1;clear pins hn hi hmt;go_wp2_with fail
   go_region
   all_goals go_wp2_with (go_at_call 143;(with_reducible refine(HAS'.out _ (HAL.out.next (aD (Below.refl _ _)))).mono ?_);rintro e w5 ⟨rfl,h5⟩;have HX:=aQ (HFF.out _ w5 rfl h5.1 (HKL.out.trans ((HAL.out.kt (aD (Below.refl _ _))).trans h5.2)));clear h5)
   all_goals go_end0
   all_goals exact⟨rfl,HX.out⟩
end Go.Proofs.YtkfahppdklecdaaGreatDoor
namespace Go.Proofs.YtkfahppdklecdaaGreatDoor
open Go.RowKit M
open J (held_take aK bY)
def phiS(s:Wq)(r:Int):Wq:={ s with v:=s.v+1,now:=updI s.now r.toNat s.v,phis:=s.phis ++ [s.v] }
def fL(s:Wq)(l:List Int):Wq:=l.foldl phiS s
def cG(now:Nat->Int)(v:Int):Wq:=⟨now,0,v,[],[],0,0⟩
def bZ(part:Nat)(now:Nat->Int)(v:Int)(regs:List Int):Wq:=fL (if part=0 then gC (cG now v)else cG now v) regs
theorem ph_one(i:Int):∀ u∈[Value.int .i64 i,.slice none 0 0],u.oneCell'=true:=by
 intro u hu;simp only[List.mem_cons,List.not_mem_nil,or_false]at hu;rcases hu with rfl|rfl <;> rfl
theorem Wa.val{Z W:World}{k:Kx}{s:Wq}{T:Nat->Prop}(h:Wa Z W k s T):W.cell? ⟨k.bb,4,none⟩=some (.int .i64 s.v)/\(∀ j,W.frozen? ⟨k.bb,j,none⟩=false)/\k.bb<W.heap.size:=by
 obtain⟨L,qn,cn,qf,cf,h,_⟩:=h;exact⟨h.cv,h.fb,h.bw.2.2.1⟩
theorem Wa.setV{Z W:World}{k:Kx}{s:Wq}{T:Nat->Prop}(h:Wa Z W k s T)(x:Int):Wa Z (W.setCell ⟨k.bb,4,none⟩ (.int .i64 x)) k { s with v:=x } T:=by
 obtain⟨L,qn,cn,qf,cf,h,ht⟩:=h;exact⟨L,qn,cn,qf,cf,h.val x,ht.set _ _⟩
theorem phi_end{Z W1 W2:World}{k:Kx}{s:Wq}{L:List NdP}{qn qf:Option Addr}{cn cf:Nat}{i:Int}{q':Option Addr}{c' m:Nat}{T:Nat->Prop}
  (h:Wt Z W1 k s L qn cn qf cf) (hT:Tok Z W1 k L qn qf T) (hm:m=s.phis.length+1) (ho:W2.ownsRow Z.heap.size 142 2 (.slice q' m c') m (phsV s.phis ++ [.int .i64 i,.slice none 0 0])) (hg:W1.grownBy W2 (Value.slice qf s.phis.length cf).ownBlock) (hb:(Value.slice q' m c').ownBlock=(Value.slice qf s.phis.length cf).ownBlock∨(Value.slice q' m c').ownBlock=some W1.heap.size) :
  Wa Z (W2.setCell ⟨k.gp,k.o+1,none⟩ (.slice q' m c')) k { s with phis:=s.phis ++ [i] } T/\Kt T W1 (W2.setCell ⟨k.gp,k.o+1,none⟩ (.slice q' m c')):=by
 rw[aH]at hg;rw[aH,aH]at hb
 have hq':∀ b,q'.map Addr.block=some b->qf.map Addr.block=some b∨b=W1.heap.size:=λ b e=>by
  rcases hb with d|d
  ·exact .inl (d ▸ e)
  ·rw[d]at e;exact .inr (Option.some.inj e).symm
 refine⟨⟨_,_,_,_,_,h.appF hm ho hg hb,λ b hx=>?_⟩,by have:=hg.size;simp[World.setCell];omega,λ b hx=>?_⟩
 ·obtain⟨h1,h2,h3,h4,h5,h6⟩:=hT b hx
  refine⟨h1,by have:=hg.size;simp[World.setCell];omega,h3,h4,λ e=>?_,h6⟩;rcases hq' b e with d|d
  ·exact h5 d
  ·omega
 ·obtain⟨h1,h2,h3,h4,h5,_⟩:=hT b hx
  have hgp:=h.gpl
  exact((bC W2 ⟨k.gp,k.o+1,none⟩ _).block b (Nat.lt_of_lt_of_le h2 hg.size) (λ e=>by
   have e2:b=k.gp:=Option.some.inj e;omega)).trans (hg.block b h2 (λ e=>h5 e.symm))
structure Wz(Z:World)(bb gp part np:Nat)(cap:Nat)(v:Int):Prop where
 ld:LdA Z
 b0:bb≠0
 g0:gp≠0
 bg:bb≠gp
 bbl:bb<Z.heap.size
 gpl:gp<Z.heap.size
 fb:∀ j,Z.frozen? ⟨bb,j,none⟩=false
 fg:∀ j,Z.frozen? ⟨gp,j,none⟩=false
 c3:Z.cell? ⟨bb,3,none⟩=some (.slice (some ⟨gp,0,none⟩) np cap)
 c4:Z.cell? ⟨bb,4,none⟩=some (.int .i64 v)
 pl:part<np
 p1:Z.cell? ⟨gp,part*10+1,none⟩=some (.slice none 0 0)
 p2:Z.cell? ⟨gp,part*10+2,none⟩=some (.slice none 0 0)
 p6:Z.cell? ⟨gp,part*10+6,none⟩=some (.int .i64 0)
 p7:Z.cell? ⟨gp,part*10+7,none⟩=some (.int .i64 0)
theorem Wz.start{Z W:World}{bb gp part np cap wb:Nat}{v:Int}{now:Nat->Int}(h:Wz Z bb gp part np cap v)(hb:Below Z.heap.size Z W)(hw:Z.heap.size<=wb)(hl:wb<W.heap.size)(fw:∀ j,W.frozen? ⟨wb,j,none⟩=false)
  (w0:W.cell? ⟨wb,0,none⟩=some (.pointer (some ⟨bb,0,none⟩))) (w1:W.cell? ⟨wb,1,none⟩=some (.pointer (some ⟨gp,part*10,none⟩))) (wn:∀ r,r<11->W.cell? ⟨wb,2+r,none⟩=some (.int .i64 (now r))) (w13:W.cell? ⟨wb,13,none⟩=some (.int .i64 0)) :
  Wa Z W ⟨bb,gp,part*10,wb⟩ (cG now v) (λ b=>Z.heap.size<=b/\b<W.heap.size/\b≠wb):=by
 have hB:∀ o,W.cell? ⟨bb,o,none⟩=Z.cell? ⟨bb,o,none⟩:=λ o=>hb.cell (p:=⟨bb,o,none⟩) h.bbl
 have hG:∀ o,W.cell? ⟨gp,o,none⟩=Z.cell? ⟨gp,o,none⟩:=λ o=>hb.cell (p:=⟨gp,o,none⟩) h.gpl
 refine⟨[],none,0,none,0,⟨hb.os,hb.tape,hb.output,hb.size,λ i h1 _ _=>hb.block i h1,λ j _=>hB j,λ j _ _ _ _=>hG j,h.bbl,h.gpl,h.bg,hw,hl,λ j=>(hb.frozen (p:=⟨bb,j,none⟩) h.bbl).trans (h.fb j),λ j=>(hb.frozen (p:=⟨gp,j,none⟩) h.gpl).trans (h.fg j),fw,(hB 4).trans h.c4,w0,w1,wn,w13,(hG _).trans h.p1,(hG _).trans h.p2,(hG _).trans h.p6,(hG _).trans h.p7,rfl,World.ownsRow_nil _ _ _ _,World.ownsRow_nil _ _ _ _,by simp,by simp,.inl rfl,λ x hx=>by cases hx⟩,λ b hx=>⟨hx.1,hx.2.1,hx.2.2,by simp,by simp,λ x hx=>by cases hx⟩⟩
end Go.Proofs.YtkfahppdklecdaaGreatDoor
