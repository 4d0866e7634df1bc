import Derived.Test.YtkfahppdklecdaaGreatDoorZ23
import Derived.Deep.DeepCutAuto
set_option maxRecDepth 100000
set_option maxHeartbeats 16000000
namespace Go.Proofs.YtkfahppdklecdaaGreatDoor
open Go.RowKit M
def prK(l:List Pt)(b a:Int)(i:Nat):Nat->List Int
 | 0=>[]
 | k+1=>prK l b a i k ++ (if (aY (pt l i).en).getD k 0=b then [a]else [])
def prA(l:List Pt)(b:Int):Nat->List Int
 | 0=>[]
 | a+1=>prA l b a ++ prK l b (a:Int) a (aY (pt l a).en).length
theorem prK_len(l:List Pt)(b a:Int)(i:Nat):∀ k,(prK l b a i k).length<=k
 | 0=>Nat.le_refl _
 | k+1=>by
  have:=prK_len l b a i k;show(prK l b a i k ++ _).length<=_;rw[List.length_append];split <;> simp <;> omega
theorem prA_len(l:List Pt)(b:Int):∀ a,(prA l b a).length<=2*a
 | 0=>Nat.le_refl _
 | a+1=>by
  have:=prA_len l b a;have h1:=prK_len l b (a:Int) a (aY (pt l a).en).length;have h2:=leads_le (pt l a).en;show(prA l b a ++ _).length<=_;rw[List.length_append];omega
structure EnOk(l:List Pt):Prop where
 op:∀ i,i<l.length->(pt l i).en.op=1∨((pt l i).en.op=2/\cndB (pt l i).en.cond=true/\(pt l i).en.to'≠(pt l i).en.els)∨(pt l i).en.op=3
 rng:∀ i,i<l.length->∀ s∈aY (pt l i).en,0<=s/\s<(l.length:Int)
 reach:∀ b,b<l.length->(J.Dm.gL (bF l)).R b
 pred:∀ b,b<l.length->(pt l b).pred=prA l (b:Int) l.length
 none:(pt l 0).pred=[]
structure Rw(w W:World)(l:List Int)(q:Option Addr)(c:Nat):Prop where
 low:Below w.heap.size w W
 own:W.ownsRow w.heap.size 3 1 (.slice q l.length c) l.length (aX l)
theorem Rw.nil(w:World):Rw w w [] none 0:=⟨Below.refl _ _,World.ownsRow_nil _ _ _ _⟩
theorem Rw.next{w W W':World}{l:List Int}{q:Option Addr}{c:Nat}(h:Rw w W l q c)(hb:Below W.heap.size W W'):Rw w W' l q c :=
 ⟨h.low.trans (hb.mono h.low.size),own_below h.own hb⟩
theorem Rw.app{w W W':World}{l xs:List Int}{q q':Option Addr}{c c' n m:Nat}(h:Rw w W l q c)(hn:l.length=n)(ho:W'.ownsRow w.heap.size 3 1 (.slice q' m c') (l ++ xs).length (aX (l ++ xs)))(hm:(l ++ xs).length=m)(hg:W.grownBy W' (Value.slice q n c).ownBlock):Rw w W' (l ++ xs) q' c':=by
 subst hn hm;rw[aH]at hg;exact⟨h.low.grown hg h.low.size (λ k hk=>(h.own.lt k (by rw[aH];exact hk)).1),ho⟩
theorem cond0_any(n:Int)(w:World):Calls Tryz.prog 40 #[.int .i64 n,.int .u64 0,.int .u64 0,.bool true] w λ e w'=>(∃ r,e=.returned (.tuple #[.bool r,.bool (cndB n)]))/\w=w':=by
 cases h:cndB n with
 | true=>exact rcond0_yes n h w
 | false =>
  refine(rcond0_no n h w).mono ?_;rintro e w1 ⟨rfl,rfl⟩;exact⟨⟨_,rfl⟩,rfl⟩
theorem rends_yes(q q2:Option Addr)(qc c2:Nat)(l:List Pt)(V:Int)(w:World)(h:PartsAt w q l)(hN:l.length<=4096)(hN0:0<l.length)(hg:J.GsAt w q2 (bF l))(ho:EnOk l) :
  Calls Tryz.prog 24 #[.agg #[.slice q l.length qc,.int .i64 V],.slice q2 l.length c2] w λ e w'=>e=.returned (.bool true)/\Below w.heap.size w w':=by
 have HI:=aQ h;have HG:=aQ hg;have HO:=aQ ho;have HC:=aQ (λ n W=>cond0_any n W);have HRE:=aQ (λ W (hb:Below w.heap.size w W)=>J.rgreach_any q2 c2 (bF l) W (hg.below hb) (by rw[bP];exact hN) (by have:=succF_tot l;omega));unfold J.ReachQ at HRE;rw[bP]at HRE;have HSA:=aQ (λ i (h:i<l.length)=>dY l i h);have HIE:=aQ (λ p q c d a w h1 h2=>ints_eq p q c d a w h1 h2);obtain⟨N,hNl⟩:∃ N,l.length=N:=⟨_,rfl⟩;have HNL:=aQ hNl;have HGL:Hid ((bF l).length=N):=aQ (by rw[bP];exact hNl);rw[hNl]at hN hN0 HRE HSA ⊢;clear h hg ho hNl;go_enter Tryz.func24,Tryz.ntmps24
 go_wp2_with fail
 have f0:(w.alloc (.cells #[.slice q N qc,.int .i64 V] 27)).cell? ⟨w.heap.size,0,none⟩=some (.slice q N qc):=aJ w rfl;have fl:w.heap.size<(w.alloc (.cells #[.slice q N qc,.int .i64 V] 27)).heap.size:=by simp
 have HW0:Hid (Below w.heap.size w (w.alloc (.cells #[.slice q N qc,.int .i64 V] 27))):=aQ b1;obtain⟨w1,hw1⟩:∃ W,w.alloc (.cells #[.slice q N qc,.int .i64 V] 27)=W:=⟨_,rfl⟩;rw[hw1]at f0 fl HW0 ⊢;have HF:Hid (∀ W,Below w1.heap.size w1 W->W.cell? ⟨w.heap.size,0,none⟩=some (.slice q N qc)/\w.heap.size<W.heap.size/\Below w.heap.size w W):=aQ (λ W hb=>⟨(hb.cell (p:=⟨w.heap.size,0,none⟩) fl).trans f0,Nat.lt_of_lt_of_le fl hb.size,HW0.out.trans (hb.mono HW0.out.size)⟩);clear f0 fl hw1
 go_loopw [6] (λ v W=>∃ (i:Nat),i<=N/\v=.int .i64 (i:Int)/\Hid (Below w1.heap.size w1 W)) (λ v _=>N - (RowKit.intOf v).toNat)
 case atStart=>exact⟨0,Nat.zero_le _,rfl,aQ (Below.refl _ _)⟩
 case round =>
  obtain⟨i,hi,rfl,HB⟩:=hrel;obtain⟨g0,gl,hbw⟩:=HF.out _ HB.out;by_cases hlt:i<N
  ·have hil:i<l.length:=by rw[HNL.out];exact hlt
   obtain⟨g,qp,cp,qf,cf,qn,cn,rfl,hgl,_,_,_,c3,c4,c5,c6,c7,c8,c9,_⟩:=(HI.out.below hbw).at hil;obtain⟨gs,os,ps,cs,rfl,hgs,d0,hns⟩:=(HG.out.below hbw).cells i (by rw[HGL.out];exact hlt);rw[HSA.out i hlt]at d0 hns;have HLE:=aQ (leads_le (pt l i).en);have HRG:=aQ (HO.out.rng i hil);rw[HNL.out]at HRG;have HNS:Hid (∀ W,Below wr.heap.size wr W->J.NumsAt .i64 W ps (aY (pt l i).en)/\W.cell? ⟨gs,os+i,none⟩=some (.slice ps (aY (pt l i).en).length cs)/\gs<W.heap.size):=aQ (λ W hb=>⟨hns.below hb,(hb.cell (p:=⟨gs,_,none⟩) hgs).trans d0,Nat.lt_of_lt_of_le hgs hb.size⟩);have HOP:=HO.out.op i hil;generalize aY (pt l i).en=LE at *;generalize (pt l i).en.op=eo at *;generalize (pt l i).en.cond=ec at *;generalize (pt l i).en.wide=ew at *;generalize (pt l i).en.a=ea at *;generalize (pt l i).en.b=eb at *;generalize (pt l i).en.to'=et at *;generalize (pt l i).en.els=ee at *;obtain⟨LN,hLN⟩:∃ n,LE.length=n:=⟨_,rfl⟩;have HLN:=aQ hLN;have HM:Hid (∀ k,k<LN->LE.getD k 0∈LE):=aQ (λ k hk=>by rw[List.getD_eq_getElem?_getD,List.getElem?_eq_getElem (by rw[hLN];exact hk)];exact List.getElem_mem _);rw[hLN]at d0 HLE HNS;have hle:=HLE.out;clear hLN hns hbw;rcases HOP with rfl|⟨rfl,hcd,hne⟩|rfl
   ·go_wp2_with (go_at_call 40;(with_reducible refine(HC.out _ _).mono ?_);rintro e w5 ⟨⟨r,rfl⟩,rfl⟩)
    clear d0 c3 c4 c5 c6 c7 c8 c9 hgl g0 gl hgs
    go_loopw [10] (λ v W=>∃ (k:Nat),k<=LN/\v=.int .i64 (k:Int)/\Hid (Below wr.heap.size wr W)) (λ v _=>LN - (RowKit.intOf v).toNat)
    case atStart=>exact⟨0,Nat.zero_le _,rfl,aQ b1⟩
    case round =>
     obtain⟨k,hk,rfl,HBB⟩:=hrel;obtain⟨hns,d0,hgs⟩:=HNS.out _ HBB.out;by_cases hkn:k<LN
     ·obtain⟨b5,o5,rfl,hb5,e5⟩:=hns.cells k (by rw[HLN.out];exact hkn)
      obtain⟨r1,r2⟩:=HRG.out _ (HM.out k hkn);generalize LE.getD k 0=s at *;have r1':¬ s<0:=by omega
      have r2':¬ (N:Int)<=s:=by omega
      clear hns;go_wp2_with fail
      go_roundw
      case rel=>exact⟨k+1,by omega,rfl,HBB⟩
      case measure=>simp[RowKit.intOf];omega
     ·obtain rfl:k=LN:=by omega
      have HBN:=aQ (HB.out.trans (HBB.out.mono HB.out.size));clear hns;go_wp2_with fail
      go_roundw
      case rel=>exact⟨i+1,by omega,rfl,HBN⟩
      case measure=>simp[RowKit.intOf];omega
   ·have bne:(et == ee)=false:=by simpa using hne
    have HC2:Hid (∀ W,Calls Tryz.prog 40 #[.int .i64 ec,.int .u64 0,.int .u64 0,.bool true] W λ e w'=>(∃ r,e=.returned (.tuple #[.bool r,.bool true]))/\W=w'):=aQ (λ W=>by have:=HC.out ec W;rw[hcd]at this;exact this);clear hcd;go_wp2_with (go_at_call 40;(with_reducible refine(HC2.out _).mono ?_);rintro e w5 ⟨⟨r,rfl⟩,rfl⟩)
    clear d0 c3 c4 c5 c6 c7 c8 c9 hgl g0 gl hgs
    go_loopw [10] (λ v W=>∃ (k:Nat),k<=LN/\v=.int .i64 (k:Int)/\Hid (Below wr.heap.size wr W)) (λ v _=>LN - (RowKit.intOf v).toNat)
    case atStart=>exact⟨0,Nat.zero_le _,rfl,aQ b1⟩
    case round =>
     obtain⟨k,hk,rfl,HBB⟩:=hrel;obtain⟨hns,d0,hgs⟩:=HNS.out _ HBB.out;by_cases hkn:k<LN
     ·obtain⟨b5,o5,rfl,hb5,e5⟩:=hns.cells k (by rw[HLN.out];exact hkn)
      obtain⟨r1,r2⟩:=HRG.out _ (HM.out k hkn);generalize LE.getD k 0=s at *;have r1':¬ s<0:=by omega
      have r2':¬ (N:Int)<=s:=by omega
      clear hns;go_wp2_with fail
      go_roundw
      case rel=>exact⟨k+1,by omega,rfl,HBB⟩
      case measure=>simp[RowKit.intOf];omega
     ·obtain rfl:k=LN:=by omega
      have HBN:=aQ (HB.out.trans (HBB.out.mono HB.out.size));clear hns;go_wp2_with fail
      go_roundw
      case rel=>exact⟨i+1,by omega,rfl,HBN⟩
      case measure=>simp[RowKit.intOf];omega
   ·go_wp2_with (go_at_call 40;(with_reducible refine(HC.out _ _).mono ?_);rintro e w5 ⟨⟨r,rfl⟩,rfl⟩)
    clear d0 c3 c4 c5 c6 c7 c8 c9 hgl g0 gl hgs
    go_loopw [10] (λ v W=>∃ (k:Nat),k<=LN/\v=.int .i64 (k:Int)/\Hid (Below wr.heap.size wr W)) (λ v _=>LN - (RowKit.intOf v).toNat)
    case atStart=>exact⟨0,Nat.zero_le _,rfl,aQ b1⟩
    case round =>
     obtain⟨k,hk,rfl,HBB⟩:=hrel;obtain⟨hns,d0,hgs⟩:=HNS.out _ HBB.out;by_cases hkn:k<LN
     ·obtain⟨b5,o5,rfl,hb5,e5⟩:=hns.cells k (by rw[HLN.out];exact hkn)
      obtain⟨r1,r2⟩:=HRG.out _ (HM.out k hkn);generalize LE.getD k 0=s at *;have r1':¬ s<0:=by omega
      have r2':¬ (N:Int)<=s:=by omega
      clear hns;go_wp2_with fail
      go_roundw
      case rel=>exact⟨k+1,by omega,rfl,HBB⟩
      case measure=>simp[RowKit.intOf];omega
     ·obtain rfl:k=LN:=by omega
      have HBN:=aQ (HB.out.trans (HBB.out.mono HB.out.size));clear hns;go_wp2_with fail
      go_roundw
      case rel=>exact⟨i+1,by omega,rfl,HBN⟩
      case measure=>simp[RowKit.intOf];omega
  ·obtain rfl:i=N:=by omega
   clear g0 gl hbw;obtain⟨w2,hw2⟩:∃ W,wr=W:=⟨_,rfl⟩;rw[hw2]at HB ⊢;clear hw2;have HRE':=aQ (HRE.out _ (HF.out _ HB.out).2.2);go_wp2_with (go_at_call 66;(with_reducible refine HRE'.out.mono ?_);rintro e w5 ⟨gb,LB,rfl,hgb,hrb,hrl,hri,hbb⟩;have HRB:=aQ hrb;have HRL:=aQ hrl;have HRI:=aQ hri;have HB5:=aQ (HB.out.trans (hbb.mono HB.out.size));clear hgb hrb hrl hri hbb)
   have HRB':Hid (∀ W,Below w5.heap.size w5 W->J.Rb W gb LB):=aQ (λ W hb=>HRB.out.next hb);have HX:Hid (∀ W,Below w5.heap.size w5 W->Below w1.heap.size w1 W):=aQ (λ W hb=>HB5.out.trans (hb.mono HB5.out.size))
   go_loopw [12] (λ v W=>∃ (b:Nat),b<=i/\v=.int .i64 (b:Int)/\Hid (Below w5.heap.size w5 W)) (λ v _=>i - (RowKit.intOf v).toNat)
   case atStart=>exact⟨0,Nat.zero_le _,rfl,aQ (Below.refl _ _)⟩
   case round =>
    obtain⟨b,hb,rfl,HBB⟩:=hrel;obtain⟨g0,gl,hbw⟩:=HF.out _ (HX.out _ HBB.out);by_cases hbn:b<i
    ·obtain⟨w6,hw6⟩:∃ W,wr=W:=⟨_,rfl⟩
     rw[hw6]at HBB ⊢;clear hw6 g0 gl hbw;have HY:Hid (∀ W,Below w6.heap.size w6 W->Below w5.heap.size w5 W):=aQ (λ W hb=>HBB.out.trans (hb.mono HBB.out.size));go_wp2_with fail
     go_loopw [13,14] (λ p v W=>∃ (a:Nat) (pq:Option Addr) (pc:Nat),a<=i/\v=.int .i64 (a:Int)/\p=.slice pq (prA l (b:Int) a).length pc/\Hid (Rw w6 W (prA l (b:Int) a) pq pc)) (λ _ v _=>i - (RowKit.intOf v).toNat)
     case atStart=>exact⟨0,none,0,Nat.zero_le _,rfl,rfl,aQ (Rw.nil w6)⟩
     case round =>
      obtain⟨a,pq,pc,ha,rfl,rfl,HR⟩:=hrel;obtain⟨g0,gl,hbw⟩:=HF.out _ (HX.out _ (HY.out _ HR.out.low));by_cases han:a<i
      ·obtain⟨gs,os,ps,cs,rfl,hgs,d0,hns⟩:=HG.out.cells a (by rw[HGL.out];exact han)
       rw[HSA.out a han]at d0 hns;have hle:=leads_le (pt l a).en;have HAK:Hid (prA l (b:Int) (a+1)=prA l (b:Int) a ++ prK l (b:Int) (a:Int) a (aY (pt l a).en).length):=aQ rfl;have HK0:Hid (∀ k,prK l (b:Int) (a:Int) a (k+1)=prK l (b:Int) (a:Int) a k ++ (if (aY (pt l a).en).getD k 0=(b:Int)then [(a:Int)]else [])):=aQ (λ k=>rfl);have HKZ:Hid (prK l (b:Int) (a:Int) a 0=[]):=aQ rfl;have HAL:=aQ (prA_len l (b:Int) a);have HKL:=aQ (prK_len l (b:Int) (a:Int) a);generalize prK l (b:Int) (a:Int) a=PK at *;generalize hPA1:prA l (b:Int) (a+1)=PA1 at *;generalize hPA0:prA l (b:Int) a=PA0 at *;generalize aY (pt l a).en=LE at *;obtain⟨LN,hLN⟩:∃ n,LE.length=n:=⟨_,rfl⟩;have HLN:=aQ hLN;have HPA1:=aQ hPA1;have HPA0:=aQ hPA0;rw[hLN]at d0 hle HAK;have HB6:=aQ HR.out.low
       have HNB:Hid (∀ W,Below w6.heap.size w6 W->J.NumsAt .i64 W ps LE/\W.cell? ⟨gs,os+a,none⟩=some (.slice ps LN cs)/\gs<W.heap.size):=aQ (λ W hb=>by
        obtain⟨_,_,hbw'⟩:=HF.out _ (HX.out _ (HY.out _ hb));exact⟨hns.below hbw',(hbw'.cell (p:=⟨gs,_,none⟩) hgs).trans d0,Nat.lt_of_lt_of_le hgs hbw'.size⟩)
       clear hLN hns hbw hPA1 hPA0 g0 gl d0 hgs;go_wp2_with fail
       go_loopw [13,15] (λ p v W=>∃ (k:Nat) (pq:Option Addr) (pc:Nat),k<=LN/\v=.int .i64 (k:Int)/\p=.slice pq (PA0 ++ PK k).length pc/\Hid (Rw w6 W (PA0 ++ PK k) pq pc)) (λ _ v _=>LN - (RowKit.intOf v).toNat)
       case atStart=>exact⟨0,pq,pc,Nat.zero_le _,rfl,by rw[HKZ.out,List.append_nil],by rw[HKZ.out,List.append_nil];exact HR⟩
       case round =>
        clear HR;obtain⟨k,pq,pc,hk,rfl,rfl,HR⟩:=hrel;obtain⟨hns,d0,hgs⟩:=HNB.out _ HR.out.low;by_cases hkn:k<LN
        ·obtain⟨b5,o5,rfl,hb5,e5⟩:=hns.cells k (by rw[HLN.out];exact hkn)
         have HK1:=aQ (HK0.out k);have HL1:Hid ((PA0 ++ PK k).length<=8300):=aQ (by have:=HAL.out;have:=HKL.out k;rw[List.length_append];omega);generalize LE.getD k 0=s at *;clear hns;by_cases hs:s=(b:Int)
         ·subst hs
          have HE:Hid (PA0 ++ PK (k+1)=(PA0 ++ PK k) ++ [(a:Int)]):=aQ (by rw[HK1.out,if_pos rfl,List.append_assoc]);clear HK1;generalize PA0 ++ PK k=R0 at *;go_wp2_with (at_builtin;refine aZ rfl (.tmp 118) (.tmp 120) rfl rfl w6.heap.size (some ⟨wr.heap.size,0,none⟩) [(a:Int)] R0 (.slice pq R0.length pc) 1 1 rfl rfl rfl (HR.out.next b1).own (fZ _ rfl rfl (by simp)) (by have:=HR.out.low.size;simp;omega) (by have:=HL1.out;simp;omega) ?_;intro v8 w8 ho8 hg8 hb8;obtain⟨q8,c8,rfl⟩:=aW ho8;have HP:=aQ ((HR.out.next b1).app rfl ho8 rfl hg8);clear ho8 hg8 hb8)
          go_roundw
          case rel=>exact⟨k+1,q8,c8,by omega,rfl,by rw[HE.out];simp,by rw[HE.out];exact HP⟩
          case measure=>simp[RowKit.intOf];omega
         ·have HE:Hid (PA0 ++ PK (k+1)=PA0 ++ PK k):=aQ (by rw[HK1.out,if_neg hs,List.append_nil])
          have bs:(s == (b:Int))=false:=by simpa using hs
          clear HK1 hs;go_wp2_with fail
          go_roundw
          case rel=>exact⟨k+1,pq,pc,by omega,rfl,by rw[HE.out],by rw[HE.out];exact HR⟩
          case measure=>simp[RowKit.intOf];omega
        ·obtain rfl:k=LN:=by omega
         clear hns;go_wp2_with fail
         go_roundw
         case rel=>exact⟨a+1,pq,pc,by omega,rfl,by rw[HPA1.out,HAK.out],by rw[HPA1.out,HAK.out];exact HR⟩
         case measure=>simp[RowKit.intOf];omega
      ·obtain rfl:a=i:=by omega
       have hbl:b<l.length:=by rw[HNL.out];exact hbn
       obtain⟨g,qp,cp,qf,cf,qn,cn,rfl,hgl,c0,_,_,_,_,_,_,_,_,_,n1,_⟩:=(HI.out.below hbw).at hbl;have hrr:=HRB'.out _ (HY.out _ HR.out.low);have x0:=hrr.cell b (by rw[HRL.out];exact hbn);have x1:=hrr.lt;rw[(HRI.out b hbn).2 (HO.out.reach b hbl)]at x0;have hpe:=HO.out.pred b hbl;rw[HNL.out]at hpe;rw[hpe]at c0 n1;have hpl:=prA_len l (b:Int) a;have HIE':=aQ (HIE.out pq qp pc cp (prA l (b:Int) a) wr (cA HR.out.own (by omega)) n1);have HB6:=aQ HR.out.low;generalize prA l (b:Int) a=PA0 at *;clear n1 hrr hbw hpe;go_wp2_with (go_at_call 67;(with_reducible refine HIE'.out.mono ?_);rintro e w7 ⟨rfl,hb7⟩;have HB7:=aQ (HY.out _ (HB6.out.trans (hb7.mono HB6.out.size)));clear hb7)
       go_roundw
       case rel=>exact⟨b+1,by omega,rfl,HB7⟩
       case measure=>simp[RowKit.intOf];omega
    ·obtain rfl:b=i:=by omega
     have hb0:0<l.length:=by rw[HNL.out];exact hN0
     obtain⟨g,qp,cp,qf,cf,qn,cn,rfl,hgl,c0,_⟩:=(HI.out.below hbw).at hb0;rw[HO.out.none]at c0;rw[Nat.zero_mul]at c0;have HBW:=aQ hbw;clear hbw;go_wp2_with fail
     go_ret;exact⟨rfl,HBW.out⟩
structure IrOk(l:List Pt)(V:Nat):Prop where
 pos:0<l.length
 most:l.length<=4096
 vals:V<=65536
 df:DfOk (dPt l l.length) V
 nod:∀ i,i<l.length->∀ k,k<(pt l i).nodes.length->ndOk (nd (pt l i).nodes k)
 en:EnOk l
 use:∀ i,i<l.length->PtOk l (dPt l l.length) (bF l) i
theorem rcheckF_yes(q:Option Addr)(qc:Nat)(l:List Pt)(V:Nat)(w:World)(h:PartsAt w q l)(ho:IrOk l V) :
  Calls Tryz.prog 9 #[.agg #[.slice q l.length qc,.int .i64 (V:Int)]] w λ e w'=>e=.returned (.int .i64 0)/\Below w.heap.size w w':=by
 have hN:=ho.most;have hN0:=ho.pos;have hV:=ho.vals;have HI:=aQ h;have HSU:=aQ (λ W (hb:Below w.heap.size w W)=>J.rsuccF_any q qc l V W (h.below hb) hN);have HEN:=aQ (λ q2 c2 W (hb:Below w.heap.size w W) hg=>rends_yes q q2 qc c2 l V W (h.below hb) hN hN0 hg ho.en);have HPL:=aQ (λ W (hb:Below w.heap.size w W)=>rplaces_yes q qc l V W (h.below hb) hV ho.df ho.nod);have HTA:=aQ (λ q2 c2 W hg=>J.rtable_any q2 c2 (bF l) W hg (by rw[bP];exact hN) (by have:=succF_tot l;omega));have HPA:=aQ (λ b i W hc (hi:i<l.length)=>rpart_yes b l V (dPt l l.length) (bF l) i W hc ho.df hV hi (ho.use i hi));unfold J.RowsQ at HSU;unfold PlcQ at HPL;unfold J.TableQ at HTA;have HCK:Hid (∀ W b gp p c,b<W.heap.size->Below w.heap.size w W->W.cell? ⟨b,0,none⟩=some (.slice q l.length qc)->W.cell? ⟨b,2,none⟩=some (.slice (some ⟨gp,0,none⟩) V V)->W.cell? ⟨b,4,none⟩=some (.slice p (bF l).length c)->Pl W gp V (eE (dPt l l.length))->J.TabAt W p (bF l).length (J.domR (bF l))->CkAt W b l V (dPt l l.length) (bF l)):=aQ (λ W b gp p c h1 h2 h3 h4 h5 h6 h7=>⟨h1,⟨q,qc,h3,h.below h2⟩,⟨gp,h4,h6⟩,⟨p,c,h5,h7⟩⟩);have HCN:Hid (∀ W W' b,CkAt W b l V (dPt l l.length) (bF l)->Below W.heap.size W W'->CkAt W' b l V (dPt l l.length) (bF l)):=aQ (λ W W' b h1 h2=>h1.next h2);generalize hT:dPt l l.length=T at *;rw[bP]at HSU HTA HCK;obtain⟨CK,hCK⟩:∃ P:World->Nat->Prop,(λ W b=>CkAt W b l V T (bF l))=P:=⟨_,rfl⟩;have hCK':∀ W b,CkAt W b l V T (bF l)=CK W b:=λ W b=>by rw[<- hCK]
 simp only[hCK']at HCK HCN HPA;have HSG:Hid (∀ W W' p,J.GsAt W p (bF l)->Below W.heap.size W W'->J.GsAt W' p (bF l)):=aQ (λ W W' p h1 h2=>h1.below h2);generalize bF l=SU at *;obtain⟨N,hNl⟩:∃ N,l.length=N:=⟨_,rfl⟩;rw[hNl]at hN hN0 HSU HEN HPL HPA HCK HTA ⊢;clear h ho hT hCK hCK' hNl;go_enter Tryz.func9,Tryz.ntmps9
 go_wp2_with (first
  | (go_at_call 23;(with_reducible refine(HSU.out _ b1).mono ?_);rintro e w2 ⟨ps,cs,rfl,hgs,hb2⟩;have e0:=bE hb2 (i:=0) rfl;have e1:=bE hb2 (i:=1) rfl;have l2:=one_in hb2;have HB2:=aQ (bR hb2);have HG2:=aQ hgs;clear hb2 hgs)
  | (go_at_call 24;(with_reducible refine(HEN.out _ _ _ HB2.out HG2.out).mono ?_);rintro e w3 ⟨rfl,hb3⟩;have e03:=(hb3.cell (p:=⟨w.heap.size,0,none⟩) l2).trans e0;have e13:=(hb3.cell (p:=⟨w.heap.size,1,none⟩) l2).trans e1;have l3:=Nat.lt_of_lt_of_le l2 hb3.size;have HB3:=aQ (HB2.out.trans (hb3.mono HB2.out.size));have HG3:=aQ (HSG.out _ _ _ HG2.out hb3);clear hb3)
  | (go_at_call 25;(with_reducible refine(HPL.out _ HB3.out).mono ?_);rintro e w4 ⟨gp,rfl,hp4,hb4⟩;have e04:=(hb4.cell (p:=⟨w.heap.size,0,none⟩) l3).trans e03;have e14:=(hb4.cell (p:=⟨w.heap.size,1,none⟩) l3).trans e13;have l4:=Nat.lt_of_lt_of_le l3 hb4.size;have HB4:=aQ (HB3.out.trans (hb4.mono HB3.out.size));have HG4:=aQ (HSG.out _ _ _ HG3.out hb4);have HP4:=aQ hp4;clear hb4 hp4))
 have HTA':=aQ (HTA.out ps cs w4.drew (HSG.out _ _ _ HG4.out (aD (Below.refl _ _))))
 go_cut [6] (λ s6 wx=>∃ b W,wx=W/\s6=.pointer (some ⟨b,0,none⟩)/\CK W b/\Below w.heap.size w W/\W.cell? ⟨w.heap.size,0,none⟩=some (.slice q N qc)/\w.heap.size<W.heap.size)
 case first =>
  go_region_with (go_at_call 26;(with_reducible refine HTA'.out.mono ?_);rintro e w5 ⟨pt,ct,rfl,ht5,hb5⟩;have e05:=((aD (Below.refl _ _)).trans hb5 |>.cell (p:=⟨w.heap.size,0,none⟩) l4).trans e04;have e15:=((aD (Below.refl _ _)).trans hb5 |>.cell (p:=⟨w.heap.size,1,none⟩) l4).trans e14;have l5:=Nat.lt_of_lt_of_le l4 hb5.size;have HB5:=aQ ((aD HB4.out).trans (hb5.mono HB4.out.size));have HP5:=aQ (HP4.out.next ((aD (Below.refl _ _)).trans hb5));have HT5:=aQ ht5;clear hb5 ht5)
  all_goals (go_wp2_with fail;go_meet)
  all_goals
   refine⟨w5.heap.size,_,rfl,rfl,HCK.out _ _ gp pt ct (by simp) (HB5.out.alloc HB5.out.size _) (aJ w5 rfl) (aJ w5 rfl) (aJ w5 rfl) (HP5.out.next b1) (HT5.out.below b1),HB5.out.alloc HB5.out.size _,(b1.cell (p:=⟨w.heap.size,0,none⟩) l5).trans e05,by simp;omega⟩
 case rest =>
  obtain⟨b,w5,hw5,rfl,hc,hb,f0,fl⟩:=hcut;rw[hw5];clear hw5;have HC:=aQ hc;have HB:=aQ hb;have F0:=aQ f0;have FL:=aQ fl;clear hc hb f0 fl HTA' HTA HSU HEN HPL HCK HSG HB2 HB3 HB4 HG2 HG3 HG4 HP4 e0 e1 e03 e13 e04 e14 l2 l3 l4;go_wp2_with fail
  go_loopw [7] (λ v W=>∃ (i:Nat),i<=N/\v=.int .i64 (i:Int)/\Hid (Below w5.heap.size w5 W)) (λ v _=>N - (RowKit.intOf v).toNat)
  case atStart=>exact⟨0,Nat.zero_le _,rfl,aQ (Below.refl _ _)⟩
  case round =>
   obtain⟨i,hi,rfl,HBB⟩:=hrel;have f0:=(HBB.out.cell (p:=⟨w.heap.size,0,none⟩) FL.out).trans F0.out;have fl:=Nat.lt_of_lt_of_le FL.out HBB.out.size;by_cases hin:i<N
   ·have HPA':=aQ (HPA.out b i wr (HCN.out _ _ _ HC.out HBB.out) hin)
    go_wp2_with (go_at_call 27;(with_reducible refine HPA'.out.mono ?_);rintro e w6 ⟨rfl,hb6⟩;have HBN:=aQ (HBB.out.trans (hb6.mono HBB.out.size));clear hb6)
    go_roundw
    case rel=>exact⟨i+1,by omega,rfl,HBN⟩
    case measure=>simp[RowKit.intOf];omega
   ·obtain rfl:i=N:=by omega
    have HBN:=aQ (HB.out.trans (HBB.out.mono HB.out.size));go_wp2_with fail
    go_ret;exact⟨rfl,HBN.out⟩
end Go.Proofs.YtkfahppdklecdaaGreatDoor
