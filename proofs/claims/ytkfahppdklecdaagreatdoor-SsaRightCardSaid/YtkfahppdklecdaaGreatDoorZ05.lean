import Derived.Test.YtkfahppdklecdaaGreatDoorZ04
import Derived.ProofKit
import Derived.OpenShut
import Derived.Deep.Slices
set_option maxRecDepth 100000
set_option maxHeartbeats 16000000
namespace Go.Proofs.YtkfahppdklecdaaGreatDoor
open Go.RowKit M
theorem all_no{f:Int->Bool}{xs:List Int}{i:Nat}(hi:i<xs.length)(h:f (xs.getD i 0)=false):xs.all f=false:=by
 cases hz:xs.all f
 ·rfl
 ·rw[List.all_eq_true]at hz
  have:=hz (xs.getD i 0) (by simp[hi]);rw[h]at this;cases this
theorem all_yes{f:Int->Bool}{xs:List Int}(h:∀ i,i<xs.length->f (xs.getD i 0)=true):xs.all f=true:=by
 rw[List.all_eq_true];intro x hx;obtain⟨i,hi,rfl⟩:=List.getElem_of_mem hx;have:=h i hi;simpa[hi]using this
theorem ins_v(x:In)(hx:Bd x)(w:World):Calls Tryz.prog 121 #[.agg #[.int .i64 x.op,.int .i64 x.dst,.int .i64 x.src,.int .i64 x.off,.int .i64 x.imm,.int .u64 x.wide]] w λ e w'=>e=.returned (.bool (insB x))/\Below w.heap.size w w':=ins_any x hx w
theorem may_any(q:Option Addr)(qc:Nat)(l:List In)(k:Nat)(w:World)(h:InsAt w q l)(hk:k<l.length) :
  Calls Tryz.prog 88 #[.slice q l.length qc,.int .i64 k] w λ e w'=>e=.returned (.bool (mayB l k))/\Below w.heap.size w w':=by
 have hs:=h.small;obtain⟨b,o,rfl,hbl,d0,d1,d2,d3,d4,d5⟩:=h.cells k hk;have HI:=aQ (λ W=>ins_v (l.getD k z) (h.bd k hk) W);have H:=aQ h;unfold mayB;cases hi:insB (l.getD k z)
 ·rw[Bool.false_and,Bool.false_and]
  rw[hi]at HI;generalize l.getD k z=X at *;generalize l.length=N at *;clear h hi;go_enter Tryz.func88,Tryz.ntmps88
  go_wp2_with (go_at_call 121;refine(HI.out _).mono ?_;rintro e w1 ⟨rfl,hb⟩;have B:=aQ hb;clear hb)
  go_ret;exact⟨rfl,B.out⟩
 rw[Bool.true_and];rw[hi]at HI;cases hw:eL l k
 ·rw[Bool.false_and]
  have hop:((l.getD k z).op == 24)=true/\gE l ((k:Int)+1)=false:=by
   unfold eL at hw;simpa using hw
  obtain⟨g24,hbk⟩:=hop;have HB:=aQ (λ W hW=>blank_any (some ⟨b,o,none⟩) qc l (k+1) W hW);rw[show((k+1:Nat):Int)=(k:Int)+1 by omega,hbk]at HB;generalize l.getD k z=X at *;generalize l.length=N at *;clear h hi hw hbk;go_enter Tryz.func88,Tryz.ntmps88
  go_wp2_with (first
   | (go_at_call 121;refine(HI.out _).mono ?_;rintro e w1 ⟨rfl,hb⟩;have B:=aQ hb;obtain⟨hc,hf⟩:=eG hb;clear hb)
   | (go_at_call 122;refine(HB.out _ (H.out.below B.out)).mono ?_;rintro e w2 ⟨rfl,rfl⟩))
  go_ret;exact⟨rfl,B.out⟩
 rw[Bool.true_and];have HS:=aQ (λ W hW=>succ_any (some ⟨b,o,none⟩) qc l (k:Int) W hW);have HP:=aQ (λ i W hW=>place_any (some ⟨b,o,none⟩) qc l i W hW);have HY:=aQ (λ h=>all_yes (f:=bQ l) (xs:=bG l (k:Int)) h);have HN:=aQ (λ i hi h=>all_no (f:=bQ l) (xs:=bG l (k:Int)) (i:=i) hi h);have h2:=dT l (k:Int);unfold SuccP at HS;generalize hxs:bG l (k:Int)=xs at *;clear hxs;generalize xs.all (bQ l)=v at *;have HB:=aQ (λ W hW=>blank_any (some ⟨b,o,none⟩) qc l (k+1) W hW);rw[show((k+1:Nat):Int)=(k:Int)+1 by omega]at HB
 have hcase:((l.getD k z).op == 24)=false∨(((l.getD k z).op == 24)=true/\gE l ((k:Int)+1)=true):=by
  unfold eL at hw;cases hq:(l.getD k z).op == 24
  ·exact .inl rfl
  ·rw[hq]at hw
   exact .inr ⟨rfl,by simpa using hw⟩
 generalize l.getD k z=X at *;generalize gE l ((k:Int)+1)=bb at *;obtain⟨M,hM⟩:∃ M,xs.length=M:=⟨_,rfl⟩;rw[hM]at HS HY HN h2;have HM:=aQ hM;generalize hN:l.length=N at *;clear h hi hw hN hM;rcases hcase with g24|⟨g24,rfl⟩
 all_goals
  go_enter Tryz.func88,Tryz.ntmps88
  go_wp2_with (first
   | (go_at_call 121;refine(HI.out _).mono ?_;rintro e w1 ⟨rfl,hb⟩;have B:=aQ hb;obtain⟨hc,hf⟩:=eG hb;clear hb)
   | (go_at_call 122;refine(HB.out _ (H.out.below B.out)).mono ?_;rintro e w2 ⟨rfl,rfl⟩)
   | (go_at_call 91;refine(HS.out _ (H.out.below B.out)).mono ?_;rintro e w3 ⟨p,cap,rfl,hn,hb⟩;have B3:=aQ (dG B.out hb);have N3:=aQ hn;clear hb hn hc hf))
  go_loop [32] (λ i=>∃ m:Nat,m<=M/\i=.int .i64 m/\Hid (∀ j,j<m->bQ l (xs.getD j 0)=true)) (λ i=>M - (intOf i).toNat)
  case atStart=>exact⟨0,Nat.zero_le _,rfl,aQ (λ j hj=>absurd hj (Nat.not_lt_zero _))⟩
  case round =>
   obtain⟨m,hm,rfl,hx⟩:=hrel;by_cases hlt:m<M
   ·obtain⟨bk,off,rfl,hbl2,c0⟩:=N3.out.cells m (by rw[HM.out];exact hlt)
    have HP2:=aQ (λ W hW=>HP.out (xs.getD m 0) W hW);have HV:=aQ (λ h=>HN.out m hlt h)
    have HX2:=aQ (λ (hv:bQ l (xs.getD m 0)=true) j (hj:j<m+1)=>(show bQ l (xs.getD j 0)=true by
     by_cases e:j=m
     ·rw[e];exact hv
     ·exact hx.out j (by omega)))
    generalize xs.getD m 0=Y at c0 HP2 HV HX2;cases hv:bQ l Y
    ·have HVV:=aQ (HV.out hv)
     rw[hv]at HP2;clear hv;go_wp2_with (go_at_call 123;refine(HP2.out _ (H.out.below B3.out)).mono ?_;rintro e w4 ⟨rfl,rfl⟩)
     go_ret;exact⟨by rw[HVV.out];rfl,B3.out⟩
    ·have HVV:=aQ (HX2.out hv)
     rw[hv]at HP2;clear hv;go_wp2_with (go_at_call 123;refine(HP2.out _ (H.out.below B3.out)).mono ?_;rintro e w4 ⟨rfl,rfl⟩)
     go_round
     case rel=>exact⟨m+1,by omega,by go_num,HVV⟩
     case measure=>simp[intOf];omega
   ·have hmM:m=M:=by omega
    subst hmM;have HV:=aQ (HY.out hx.out);go_wp2
    go_ret;exact⟨by rw[HV.out];rfl,B3.out⟩
def fV(l:List In)(w:World)(e:Ending)(w':World):Prop :=
 e=.returned (.tuple #[.int .i64 (aS l).1,.int .i64 (aS l).2])/\Below w.heap.size w w'
theorem badI_hole{l:List In}{k:Nat}(h:bU l k=true):badI l k=false:=by unfold badI;rw[h];rfl
theorem badI_may{l:List In}{k:Nat}(h:bU l k=false):badI l k = !mayB l k:=by unfold badI;rw[h];rfl
theorem check_any(q:Option Addr)(qc:Nat)(l:List In)(w:World)(h:InsAt w q l) :
  Calls Tryz.prog 46 #[.slice q l.length qc] w (fV l w):=by
 have hs:=h.small;have H:=aQ h;unfold fV;by_cases h1:4096<l.length
 ·have hv:aS l=(31,31)∨aS l=(0,31):=by unfold aS;rw[if_pos h1];exact .inr rfl
  have hv2:aS l=(0,31):=by unfold aS;rw[if_pos h1]
  rw[hv2];generalize l.length=N at *;clear h hv hv2;go_enter Tryz.func46,Tryz.ntmps46
  go_wp2
  go_ret2;exact⟨rfl,Below.refl _ _⟩
 by_cases h0:l.length=0
 ·have hv2:aS l=(0,40):=by unfold aS;rw[if_neg h1,if_pos h0]
  rw[hv2,h0];clear h hv2 h1 h0 hs H;go_enter Tryz.func46,Tryz.ntmps46
  go_wp2
  go_ret2;exact⟨rfl,Below.refl _ _⟩
 have HH:=aQ (λ (k:Nat) W hW=>hole_any q qc l (k:Int) W hW);have HM:=aQ (λ k W hW hk=>may_any q qc l k W hW hk);have HG:=aQ (λ hj=>check_good (l:=l) (by omega) h0 hj);have HBD:=aQ (λ k hk hb hj=>check_bad (l:=l) (k:=k) (by omega) hk hb hj);have h2:l.length<=4096:=by omega
 have h3:1<=l.length:=by omega
 generalize aS l=cs at *;generalize l.length=N at *;clear h h1 h0;have g0:((N:Int) == 0)=false:=by simp;omega
 have g1:decide ((4096:Int)<(N:Int))=false:=decide_eq_false (by omega);go_enter Tryz.func46,Tryz.ntmps46
 go_wp2
 go_loopw [13] (λ i wr=>∃ k:Nat,k<=N/\i=.int .i64 k/\Below w.heap.size w wr/\Hid (∀ j,j<k->badI l j=false)) (λ i _=>N - (intOf i).toNat)
 case atStart=>exact⟨0,Nat.zero_le _,rfl,Below.refl _ _,aQ (λ j hj=>absurd hj (Nat.not_lt_zero _))⟩
 case round =>
  obtain⟨k,hk,rfl,hb,hx⟩:=hrel;have HB:=aQ hb;clear hb;by_cases hlt:k<N
  ·have HHk:=aQ (HH.out k)
   have HMk:=aQ (λ W hW=>HM.out k W hW hlt)
   have HX2:=aQ (λ (hv:badI l k=false) j (hj:j<k+1)=>(show badI l j=false by
    by_cases e:j=k
    ·rw[e];exact hv
    ·exact hx.out j (by omega)))
   cases hh:bU l (k:Int)
   ·have HV:=aQ (badI_may hh)
    rw[hh]at HHk;cases hm:mayB l k
    ·have HF:=aQ (HBD.out k hlt (by rw[HV.out,hm];rfl) hx.out)
     rw[hm]at HMk;clear hm hh
     go_wp2_with (first
      | (go_at_call 87;refine(HHk.out _ (H.out.below HB.out)).mono ?_;rintro e w1 ⟨rfl,rfl⟩)
      | (go_at_call 88;refine(HMk.out _ (H.out.below HB.out)).mono ?_;rintro e w2 ⟨rfl,hb⟩;have HB2:=aQ (HB.out.trans (hb.mono HB.out.size));clear hb))
     go_ret2;rw[HF.out];exact⟨rfl,HB2.out⟩
    ·have HF:=aQ (HX2.out (by rw[HV.out,hm];rfl))
     rw[hm]at HMk;clear hm hh
     go_wp2_with (first
      | (go_at_call 87;refine(HHk.out _ (H.out.below HB.out)).mono ?_;rintro e w1 ⟨rfl,rfl⟩)
      | (go_at_call 88;refine(HMk.out _ (H.out.below HB.out)).mono ?_;rintro e w2 ⟨rfl,hb⟩;have HB2:=aQ (HB.out.trans (hb.mono HB.out.size));clear hb))
     go_roundw
     case rel=>exact⟨k+1,by omega,by go_num,HB2.out,HF⟩
     case measure=>simp[intOf];omega
   ·have HF:=aQ (HX2.out (badI_hole hh))
    rw[hh]at HHk;clear hh;go_wp2_with (go_at_call 87;refine(HHk.out _ (H.out.below HB.out)).mono ?_;rintro e w1 ⟨rfl,rfl⟩)
    go_roundw
    case rel=>exact⟨k+1,by omega,by go_num,HB.out,HF⟩
    case measure=>simp[intOf];omega
  ·have hkN:k=N:=by omega
   subst hkN;have HV:=aQ (HG.out hx.out);go_wp2
   go_ret2;rw[HV.out];exact⟨rfl,HB.out⟩
theorem rins_v(x:In)(hx:Bd x)(w:World):Calls Tryz.prog 21 #[.agg #[.int .i64 x.op,.int .i64 x.dst,.int .i64 x.src,.int .i64 x.off,.int .i64 x.imm,.int .u64 x.wide]] w λ e w'=>e=.returned (.bool (insB x))/\Below w.heap.size w w':=by
 rw[ins_same x hx];exact rins_any x hx w
theorem place_no{l:List In}{N:Nat}(hN:l.length=N){Y:Int}(h:bQ l Y=false):Y<0∨(N:Int)<=Y∨((0<=Y/\Y<(N:Int))/\bU l Y=true):=by
 unfold bQ at h;rw[hN]at h;by_cases h0:0<=Y
 ·by_cases h1:Y<(N:Int)
  ·rw[decide_eq_true ⟨h0,h1⟩]at h
   exact .inr (.inr ⟨⟨h0,h1⟩,by simpa using h⟩)
  ·exact .inr (.inl (by omega))
 ·exact .inl (by omega)
theorem place_yes{l:List In}{N:Nat}(hN:l.length=N){Y:Int}(h:bQ l Y=true):0<=Y/\Y<(N:Int)/\bU l Y=false:=by
 obtain⟨⟨a,b⟩,c⟩:=bT.1 h;exact⟨a,by omega,c⟩
theorem wide_no{l:List In}{k:Nat}(h:eL l k=false):((l.getD k z).op == 24)=true/\(l.length<=k+1∨(k+1<l.length/\eqB (l.getD (k+1) z) z=false)):=by
 unfold eL gE at h;rw[Bool.or_eq_false_iff]at h;refine⟨by simpa using h.1,?_⟩;by_cases hk:k+1<l.length
 ·refine .inr ⟨hk,?_⟩
  have h2:=h.2;rw[decide_eq_true (show(k:Int)+1<(l.length:Int) by omega),Bool.true_and,show((k:Int)+1).toNat=k+1 by omega]at h2;exact h2
 ·exact .inl (by omega)
theorem wide_yes{l:List In}{k:Nat}(h:eL l k=true):((l.getD k z).op == 24)=false∨(((l.getD k z).op == 24)=true/\k+1<l.length/\eqB (l.getD (k+1) z) z=true):=by
 unfold eL gE at h;cases hq:(l.getD k z).op == 24
 ·exact .inl rfl
 ·rw[hq]at h
  simp only[Bool.not_true,Bool.false_or,Bool.and_eq_true,decide_eq_true_eq]at h;refine .inr ⟨rfl,by omega,?_⟩;have h2:=h.2;rw[show((k:Int)+1).toNat=k+1 by omega]at h2;exact h2
theorem bad_ins{l:List In}{k:Nat}(hh:bU l k=false)(h:insB (l.getD k z)=false):badI l k=true:=by
 rw[badI_may hh];unfold mayB;rw[h];rfl
theorem bad_wide{l:List In}{k:Nat}(hh:bU l k=false)(h:eL l k=false):badI l k=true:=by
 rw[badI_may hh];unfold mayB;rw[h];simp
theorem bad_succ{l:List In}{k:Nat}(hh:bU l k=false){m:Nat}(hm:m<(bG l k).length)(h:bQ l ((bG l k).getD m 0)=false):badI l k=true:=by
 rw[badI_may hh];unfold mayB;rw[all_no hm h];simp
theorem bad_none{l:List In}{k:Nat}(hh:bU l k=false)(h1:insB (l.getD k z)=true)(h2:eL l k=true)(h3:∀ m,m<(bG l k).length->bQ l ((bG l k).getD m 0)=true):badI l k=false:=by
 rw[badI_may hh];unfold mayB;rw[h1,h2,all_yes h3];rfl
theorem dP(q:Option Addr)(qc:Nat)(l:List In)(w:World)(h:InsAt w q l) :
  Calls Tryz.prog 8 #[.slice q l.length qc] w (fV l w):=by
 have hs:=h.small;have H:=aQ h;unfold fV;by_cases h1:4096<l.length
 ·have hv2:aS l=(0,31):=by unfold aS;rw[if_pos h1]
  rw[hv2];generalize l.length=N at *;clear h hv2;go_enter Tryz.func8,Tryz.ntmps8
  go_wp2
  go_ret2;exact⟨rfl,Below.refl _ _⟩
 by_cases h0:l.length=0
 ·have hv2:aS l=(0,40):=by unfold aS;rw[if_neg h1,if_pos h0]
  rw[hv2,h0];clear h hv2 h1 h0 hs H;go_enter Tryz.func8,Tryz.ntmps8
  go_wp2
  go_ret2;exact⟨rfl,Below.refl _ _⟩
 have HH:=aQ (λ (k:Int) W hW=>rhole_any q qc l k W hW);have HG:=aQ (λ hj=>check_good (l:=l) (by omega) h0 hj);have HBD:=aQ (λ k hk hb hj=>check_bad (l:=l) (k:=k) (by omega) hk hb hj);have HSU:=aQ (λ (k:Nat) W hW=>rsucc_any q qc l (k:Int) W hW);have HNN:=aQ (show l.length=l.length from rfl);have h2:l.length<=4096:=by omega
 have h3:1<=l.length:=by omega
 unfold SuccP at HSU;obtain⟨N,hN⟩:∃ N,l.length=N:=⟨_,rfl⟩;rw[hN]at HH HBD HG HSU h2 h3 hs ⊢;have HN:=aQ hN;generalize aS l=cs at *;clear h h1 h0 hN HNN;have g0:((N:Int) == 0)=false:=by simp;omega
 have g1:decide ((4096:Int)<(N:Int))=false:=decide_eq_false (by omega);go_enter Tryz.func8,Tryz.ntmps8
 go_wp2
 go_loopw [4] (λ i wr=>∃ k:Nat,k<=N/\i=.int .i64 k/\Below w.heap.size w wr/\Hid (∀ j,j<k->badI l j=false)) (λ i _=>N - (intOf i).toNat)
 case atStart=>exact⟨0,Nat.zero_le _,rfl,Below.refl _ _,aQ (λ j hj=>absurd hj (Nat.not_lt_zero _))⟩
 case round =>
  obtain⟨k,hk,rfl,hb,hx⟩:=hrel;have HB:=aQ hb;clear hb;by_cases hlt:k<N
  case neg =>
   have hkN:k=N:=by omega
   subst hkN;have HV:=aQ (HG.out hx.out);go_wp2
   go_ret2;rw[HV.out];exact⟨rfl,HB.out⟩
  case pos =>
  have HHk:=aQ (λ W hW=>HH.out (k:Int) W hW)
  have HX2:=aQ (λ (hv:badI l k=false) j (hj:j<k+1)=>(show badI l j=false by
   by_cases e:j=k
   ·rw[e];exact hv
   ·exact hx.out j (by omega)))
  have HBk:=aQ (λ hb=>HBD.out k hlt hb hx.out);cases hh:bU l (k:Int)
  case true =>
   have HF:=aQ (HX2.out (badI_hole hh));rw[hh]at HHk;clear hh;go_wp2_with (go_at_call 20;refine(HHk.out _ (H.out.below HB.out)).mono ?_;rintro e w1 ⟨rfl,rfl⟩)
   go_roundw
   case rel=>exact⟨k+1,by omega,by go_num,HB.out,HF⟩
   case measure=>simp[intOf];omega
  case false =>
  rw[hh]at HHk;have HI:=aQ (λ W=>rins_v (l.getD k z) (H.out.bd k (by rw[HN.out];exact hlt)) W);obtain⟨b,o,rfl,hbl,d0,d1,d2,d3,d4,d5⟩:=(H.out.below HB.out).cells k (by rw[HN.out];exact hlt);cases hi:insB (l.getD k z)
  case false =>
   have HF:=aQ (HBk.out (bad_ins hh hi));rw[hi]at HI;generalize l.getD k z=X at *;clear hh hi
   go_wp2_with (first
    | (go_at_call 20;refine(HHk.out _ (H.out.below HB.out)).mono ?_;rintro e w1 ⟨rfl,rfl⟩)
    | (go_at_call 21;refine(HI.out _).mono ?_;rintro e w2 ⟨rfl,hb⟩;have HB2:=aQ (HB.out.trans (hb.mono HB.out.size));clear hb))
   go_ret2;rw[HF.out];exact⟨rfl,HB2.out⟩
  case true =>
  rw[hi]at HI;have hin:IntKind.i64.wrap ((k:Int)+1)=(k:Int)+1:=by rw[IntKind.wrap_i64];omega
  cases hw:eL l k
  case false =>
   have HF:=aQ (HBk.out (bad_wide hh hw));obtain⟨g24,hwhy⟩:=wide_no hw;rw[HN.out]at hwhy;rcases hwhy with hge|⟨hlt2,hne⟩
   ·generalize l.getD k z=X at *
    clear hh hi hw hin
    go_wp2_with (first
     | (go_at_call 20;refine(HHk.out _ (H.out.below HB.out)).mono ?_;rintro e w1 ⟨rfl,rfl⟩)
     | (go_at_call 21;refine(HI.out _).mono ?_;rintro e w2 ⟨rfl,hb⟩;have HB2:=aQ (HB.out.trans (hb.mono HB.out.size));obtain⟨hc,hf⟩:=eG hb;clear hb))
    go_ret2;rw[HF.out];exact⟨rfl,HB2.out⟩
   ·obtain⟨b',o',hq,hbl',n0,n1,n2,n3,n4,n5⟩:=(H.out.below HB.out).cells (k+1) (by rw[HN.out];exact hlt2)
    obtain⟨rfl,rfl⟩:b=b'/\o=o':=by injection hq with hq;injection hq with h1 h2;exact⟨h1,h2⟩
    have heq:=λ W=>eq_r (l.getD (k+1) z) W
    rw[hne]at heq;generalize l.getD (k+1) z=Y at *;generalize l.getD k z=X at *;clear hh hi hw hin hq hne
    go_wp2_with (first
     | (go_at_call 20;refine(HHk.out _ (H.out.below HB.out)).mono ?_;rintro e w1 ⟨rfl,rfl⟩)
     | (go_at_call 21;refine(HI.out _).mono ?_;rintro e w2 ⟨rfl,hb⟩;have HB2:=aQ (HB.out.trans (hb.mono HB.out.size));obtain⟨hc,hf⟩:=eG hb;clear hb))
    go_ret2;rw[HF.out];exact⟨rfl,HB2.out⟩
  case true =>
  have HYES:=aQ (λ h3=>HX2.out (bad_none hh hi hw h3));have HNO:=aQ (λ m hm h=>HBk.out (bad_succ (m:=m) hh hm h));have HSk:=aQ (HSU.out k);have hM2:=dT l (k:Int);generalize hxs:bG l (k:Int)=xs at *;clear hxs;obtain⟨M,hM⟩:∃ M,xs.length=M:=⟨_,rfl⟩;rw[hM]at HSk HYES HNO hM2;have HM:=aQ hM;clear hM;have hww:=wide_yes hw;rw[HN.out]at hww
  have hcase:((l.getD k z).op == 24)=false∨(((l.getD k z).op == 24)=true/\k+1<N/\∃ Y:In,(∀ W,(Op.equalIn 10000 65 (.agg #[.int .i64 Y.op,.int .i64 Y.dst,.int .i64 Y.src,.int .i64 Y.off,.int .i64 Y.imm,.int .u64 Y.wide]) (.agg #[.int .i64 0,.int .i64 0,.int .i64 0,.int .i64 0,.int .i64 0,.int .u64 0])).run Tryz.prog W=.ok true W) /\
    wr.cell? ⟨b,o+(k+1)*6,none⟩=some (.int .i64 Y.op)/\wr.cell? ⟨b,o+(k+1)*6+1,none⟩=some (.int .i64 Y.dst)/\wr.cell? ⟨b,o+(k+1)*6+2,none⟩=some (.int .i64 Y.src)/\wr.cell? ⟨b,o+(k+1)*6+3,none⟩=some (.int .i64 Y.off)/\wr.cell? ⟨b,o+(k+1)*6+4,none⟩=some (.int .i64 Y.imm)/\wr.cell? ⟨b,o+(k+1)*6+5,none⟩=some (.int .u64 Y.wide)):=by
   rcases hww with g|⟨g,hlt2,hz⟩
   ·exact .inl g
   ·obtain⟨b',o',hq,_,n0,n1,n2,n3,n4,n5⟩:=(H.out.below HB.out).cells (k+1) (by rw[HN.out];exact hlt2)
    obtain⟨rfl,rfl⟩:b=b'/\o=o':=by injection hq with hq;injection hq with h1 h2;exact⟨h1,h2⟩
    have heq:=λ W=>eq_r (l.getD (k+1) z) W
    rw[hz]at heq;exact .inr ⟨g,hlt2,_,heq,n0,n1,n2,n3,n4,n5⟩
  generalize l.getD k z=X at *;clear hh hi hw hww hin;rcases hcase with g24|⟨g24,hlt2,Y,heq,n0,n1,n2,n3,n4,n5⟩
  all_goals
   go_wp2_with (first
    | (go_at_call 20;refine(HHk.out _ (H.out.below HB.out)).mono ?_;rintro e w1 ⟨rfl,rfl⟩)
    | (go_at_call 21;refine(HI.out _).mono ?_;rintro e w2 ⟨rfl,hb⟩;have HB2:=aQ (HB.out.trans (hb.mono HB.out.size));obtain⟨hc,hf⟩:=eG hb;clear hb)
    | (go_at_call 22;refine(HSk.out _ (H.out.below HB2.out)).mono ?_;rintro e w3 ⟨p,cap,rfl,hn,hb⟩;have HB3:=aQ (HB2.out.trans (hb.mono HB2.out.size));have N3:=aQ hn;clear hb hn hc hf))
   go_loop [6] (λ i=>∃ m:Nat,m<=M/\i=.int .i64 m/\Hid (∀ j,j<m->bQ l (xs.getD j 0)=true)) (λ i=>M - (intOf i).toNat)
   case atStart=>exact⟨0,Nat.zero_le _,rfl,aQ (λ j hj=>absurd hj (Nat.not_lt_zero _))⟩
   case round =>
    obtain⟨m,hm,rfl,hy⟩:=hrel;by_cases hltm:m<M
    case neg =>
     have hmM:m=M:=by omega
     subst hmM;have HV:=aQ (HYES.out hy.out);go_wp2
     go_roundw
     case rel=>exact⟨k+1,by omega,by go_num,HB3.out,HV⟩
     case measure=>simp[intOf];omega
    case pos =>
    obtain⟨bk,off,rfl,hbl2,c0⟩:=N3.out.cells m (by rw[HM.out];exact hltm);have HP2:=aQ (λ W hW=>HH.out (xs.getD m 0) W hW);have HV:=aQ (λ h=>HNO.out m hltm h)
    have HX3:=aQ (λ (hv:bQ l (xs.getD m 0)=true) j (hj:j<m+1)=>(show bQ l (xs.getD j 0)=true by
     by_cases e:j=m
     ·rw[e];exact hv
     ·exact hy.out j (by omega)))
    generalize xs.getD m 0=Z at c0 HP2 HV HX3;cases hv:bQ l Z
    case false =>
     have HVV:=aQ (HV.out hv);rcases place_no HN.out hv with hneg|hbig|⟨⟨hz0,hz1⟩,hhole⟩
     ·clear hv
      go_wp2
      go_ret2;rw[HVV.out];exact⟨rfl,HB3.out⟩
     ·have hz0:¬ Z<0:=by omega
      clear hv;go_wp2
      go_ret2;rw[HVV.out];exact⟨rfl,HB3.out⟩
     ·rw[hhole]at HP2
      clear hv hhole;go_wp2_with (go_at_call 20;refine(HP2.out _ (H.out.below HB3.out)).mono ?_;rintro e w4 ⟨rfl,rfl⟩)
      go_ret2;rw[HVV.out];exact⟨rfl,HB3.out⟩
    case true =>
     have HVV:=aQ (HX3.out hv);obtain⟨hz0,hz1,hhole⟩:=place_yes HN.out hv;rw[hhole]at HP2;clear hv hhole;go_wp2_with (go_at_call 20;refine(HP2.out _ (H.out.below HB3.out)).mono ?_;rintro e w4 ⟨rfl,rfl⟩)
     go_round
     case rel=>exact⟨m+1,by omega,by go_num,HVV⟩
     case measure=>simp[intOf];omega
def cellsX(X:In):List Value:=[.int .i64 X.op,.int .i64 X.dst,.int .i64 X.src,.int .i64 X.off,.int .i64 X.imm,.int .u64 X.wide]
theorem ins_new{w:World}{l:List In}{cs:Array Value}{t:TypeId}(hs:l.length<=4096)(hc:∀ i,i<l.length->∀ j v,(cellsX (l.getD i z))[j]?=some v->cs[i*6+j]?=some v)(hb:∀ i,i<l.length->Bd (l.getD i z)) :
  InsAt (w.alloc (.cells cs t)) (some ⟨w.heap.size,0,none⟩) l :=
 ⟨by omega,λ i hi=>⟨_,_,rfl,by simp,by
  have h:=hc i hi;have f:=λ j v hj=>aJ w (t:=t) (fr:=(0,0)) (h j v hj)
  refine⟨?_,?_,?_,?_,?_,?_⟩
  ·simpa using f 0 _ rfl
  ·simpa using f 1 _ rfl
  ·simpa using f 2 _ rfl
  ·simpa using f 3 _ rfl
  ·simpa using f 4 _ rfl
  ·simpa using f 5 _ rfl⟩,hb⟩
def x5:In:=⟨183,0,0,0,5,0⟩
end Go.Proofs.YtkfahppdklecdaaGreatDoor
namespace Go.Proofs.YtkfahppdklecdaaGreatDoor
open Go.ChangeShapes Go.WideShapes Go.ChangeAt Go.RowKit M
def cellI(w:World)(a:Addr):Int:=match w.cell? a with|some (.int _ n)=>n|_=>0
theorem spot_none{w:World}{a:Addr}{v:Value}(h:w.cell? a=some v):a.spot=none/\a.block<w.heap.size:=by
 obtain⟨b,o,s⟩:=a;unfold World.cell? at h;cases hh:w.heap[b]? with
 | none=>simp[hh]at h
 | some ob =>
  refine⟨?_,(Array.getElem?_eq_some_iff.1 hh).1⟩;cases s with
  | none=>rfl
  | some x=>cases ob <;> simp[hh]at h
theorem add_plain(b o k:Nat):(⟨b,o,none⟩:Addr).add k=⟨b,o+k,none⟩:=by
 unfold Addr.add;by_cases h:k=0
 ·subst h;simp
 ·rw[if_neg h]
theorem cellsIns:Tryz.prog.cellsOf 65=6:=by kernel_rfl
theorem bytesIns:Tryz.prog.bytesOf 65=48:=by kernel_rfl
theorem oI3:Tryz.prog.cellsOf 3=1:=by kernel_rfl
theorem oIu:Tryz.prog.cellsOf 54=1:=by kernel_rfl
theorem gS{w:World}{a:Addr}{k:IntKind}{n:Int}(h:w.cell? a=some (.int k n)):cellI w a=n:=by simp[cellI,h]
def insOf(w:World)(a:Addr):In:=⟨cellI w a,cellI w (a.add 1),cellI w (a.add 2),cellI w (a.add 3),cellI w (a.add 4),cellI w (a.add 5)⟩
def listAt(w:World)(a:Addr)(n:Nat):List In:=(List.range n).map λ i=>insOf w (a.add (i*6))
section
variable {H:Type} {enc:TypeId×Value->H} {W:World}
theorem open_ins{n:Nat}{cs:List Value}{x:DataW H×List MemPlace}(h:DataW.trod enc Tryz.prog W 0 (λ _=>true) true n 65 cs=some x) :
  ∃ X:In,cs=[.int .i64 X.op,.int .i64 X.dst,.int .i64 X.src,.int .i64 X.off,.int .i64 X.imm,.int .u64 X.wide]/\Bd X:=by
 obtain⟨ys,m,_,hx,hlen,hyl,hf⟩:=DataW.trod_struct Tryz.underlying65 h;rw[cellsIns]at hlen
 match cs,hlen with
 | [c0,c1,c2,c3,c4,c5],_ =>
  match ys,hyl with
  | [y0,y1,y2,y3,y4,y5],_ =>
   have h0:DataW.trod enc Tryz.prog W 0 (λ _=>true) true m 3 (([c0,c1,c2,c3,c4,c5].drop 0).take (Tryz.prog.cellsOf 3))=some y0:=hf 0 _ rfl;have h1:DataW.trod enc Tryz.prog W 0 (λ _=>true) true m 3 (([c0,c1,c2,c3,c4,c5].drop 1).take (Tryz.prog.cellsOf 3))=some y1:=hf 1 _ rfl;have h2:DataW.trod enc Tryz.prog W 0 (λ _=>true) true m 3 (([c0,c1,c2,c3,c4,c5].drop 2).take (Tryz.prog.cellsOf 3))=some y2:=hf 2 _ rfl;have h3:DataW.trod enc Tryz.prog W 0 (λ _=>true) true m 3 (([c0,c1,c2,c3,c4,c5].drop 3).take (Tryz.prog.cellsOf 3))=some y3:=hf 3 _ rfl;have h4:DataW.trod enc Tryz.prog W 0 (λ _=>true) true m 3 (([c0,c1,c2,c3,c4,c5].drop 4).take (Tryz.prog.cellsOf 3))=some y4:=hf 4 _ rfl;have h5:DataW.trod enc Tryz.prog W 0 (λ _=>true) true m 54 (([c0,c1,c2,c3,c4,c5].drop 5).take (Tryz.prog.cellsOf 54))=some y5:=hf 5 _ rfl;rw[oI3]at h0 h1 h2 h3 h4;rw[oIu]at h5;obtain⟨n0,e0,_,w0⟩:=DataW.trod_int Tryz.underlying3 h0;obtain⟨n1,e1,_,w1⟩:=DataW.trod_int Tryz.underlying3 h1;obtain⟨n2,e2,_,w2⟩:=DataW.trod_int Tryz.underlying3 h2;obtain⟨n3,e3,_,w3⟩:=DataW.trod_int Tryz.underlying3 h3;obtain⟨n4,e4,_,w4⟩:=DataW.trod_int Tryz.underlying3 h4;obtain⟨n5,e5,_,w5⟩:=DataW.trod_int Tryz.underlying54 h5;simp at e0 e1 e2 e3 e4 e5;subst e0 e1 e2 e3 e4 e5;refine⟨⟨n0,n1,n2,n3,n4,n5⟩,rfl,?_⟩;simp[Lit.wf,IntKind.min,IntKind.max,IntKind.signed,IntKind.bits]at w0 w1 w2 w3 w4 w5;exact⟨by dsimp only;omega,by dsimp only;omega,by dsimp only;omega,by dsimp only;omega,by dsimp only;omega,by dsimp only;omega⟩
theorem open_list{v:Value}{d:DataW H}{p:List MemPlace}(hv:Value.okWide Tryz.prog W .any 0 22 v)(h:DataW.Trod enc Tryz.prog W 0 (λ _=>true) true 22 v d p)(hw:∀ k∈d.weights Tryz.prog 22,k<=140737488351232) :
  ∃ q cap l,v=.slice q l.length cap/\l.length<=cap/\InsAt W q l:=by
 obtain⟨q,len,c,rfl⟩:=okWide_slice Tryz.underlying22 hv;obtain⟨fuel,hf⟩:=h;rcases Deep.open_slice Tryz.underlying22 hf with ⟨e,_⟩|⟨a,len',cap,m,k,D,Pl,e,_,hl,_,hm,hx,hi⟩
 ·simp[Value.cells]at e
  obtain⟨rfl,rfl,rfl⟩:=e;exact⟨none,0,[],rfl,Nat.le_refl _,Nat.zero_le _,λ i hi=>absurd hi (Nat.not_lt_zero _),λ i hi=>absurd hi (Nat.not_lt_zero _)⟩
 ·simp[Value.cells]at e
  obtain⟨rfl,rfl,rfl⟩:=e;have hmc:m=c:=by simpa using hm
  simp only[Prod.mk.injEq]at hx
  have hsm:len*48<=140737488351232:=by
   have:=hw ((len+(m - len))*Tryz.prog.bytesOf 65) (by rw[hx.1];simp[DataW.weights,Tryz.underlying22]);rw[bytesIns]at this;omega
  have hlen:(listAt W a len).length=len:=by simp[listAt]
  have hrow:∀ i,i<len->∃ X:In,Bd X/\(listAt W a len).getD i z=X/\∀ j v,(cellsX X)[j]?=some v->W.cell? (a.add (i*6+j))=some v:=by
   intro i hil;obtain⟨cs',hc,ht⟩:=hi i (by omega);rw[cellsIns]at hc;obtain⟨_,_,hat⟩:=World.cells?_some hc;obtain⟨X,rfl,hX⟩:=open_ins ht
   have hcell:∀ j v,(cellsX X)[j]?=some v->W.cell? (a.add (i*6+j))=some v:=λ j v hj=>by
    have hj6:j<6:=by
     have:=(List.getElem?_eq_some_iff.1 hj).1;simpa[cellsX]using this
    have:=hat j hj6;rw[Addr.add_add]at this;rw[this];exact hj
   refine⟨X,hX,?_,hcell⟩;have e0:=gS (hcell 0 _ rfl);have e1:=gS (hcell 1 _ rfl);have e2:=gS (hcell 2 _ rfl);have e3:=gS (hcell 3 _ rfl);have e4:=gS (hcell 4 _ rfl);have e5:=gS (hcell 5 _ rfl);rw[Nat.add_zero]at e0;have:(listAt W a len).getD i z=insOf W (a.add (i*6)):=by simp[listAt,hil]
   rw[this];unfold insOf;rw[Addr.add_add,Addr.add_add,Addr.add_add,Addr.add_add,Addr.add_add,e0,e1,e2,e3,e4,e5]
  refine⟨some a,c,listAt W a len,by rw[hlen],by rw[hlen];exact hl,by rw[hlen];omega,λ i hil=>?_,λ i hil=>?_⟩
  ·rw[hlen]at hil
   have hs:a.spot=none:=by
    obtain⟨X,_,_,hc⟩:=hrow 0 (by omega);have:=hc 0 _ rfl;exact(spot_none (a:=a) (by simpa[Addr.add]using this)).1
   obtain⟨bb,off,sp⟩:=a;subst hs;obtain⟨X,_,e,hc⟩:=hrow i hil;rw[e];have f:=λ j v (hj:(cellsX X)[j]?=some v)=>by have:=hc j v hj;rw[add_plain]at this;exact this
   refine⟨bb,off,rfl,(spot_none (f 0 _ rfl)).2,?_,?_,?_,?_,?_,?_⟩
   ·simpa using f 0 _ rfl
   ·simpa[Nat.add_assoc]using f 1 _ rfl
   ·simpa[Nat.add_assoc]using f 2 _ rfl
   ·simpa[Nat.add_assoc]using f 3 _ rfl
   ·simpa[Nat.add_assoc]using f 4 _ rfl
   ·simpa[Nat.add_assoc]using f 5 _ rfl
  ·rw[hlen]at hil
   obtain⟨X,hX,e,_⟩:=hrow i hil;rw[e];exact hX
end
end Go.Proofs.YtkfahppdklecdaaGreatDoor
