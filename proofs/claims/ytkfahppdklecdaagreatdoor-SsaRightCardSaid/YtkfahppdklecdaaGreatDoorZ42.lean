import Derived.Test.YtkfahppdklecdaaGreatDoorZ41
set_option maxRecDepth 100000
set_option maxHeartbeats 16000000
namespace Go.Proofs.YtkfahppdklecdaaGreatDoor
open Go.RowKit M
open Fl
def pH:List In:=[⟨183,0,0,0,5,0⟩,⟨149,0,0,0,0,0⟩]
abbrev aRr:Obj:=.cells #[.int .i64 183,.int .i64 0,.int .i64 0,.int .i64 0,.int .i64 5,.int .u64 0,.int .i64 149,.int .i64 0,.int .i64 0,.int .i64 0,.int .i64 0,.int .u64 0] 65
abbrev zI(gp n c V:Nat):Obj:=.cells #[.slice (some ⟨gp,0,none⟩) n c,.int .i64 (V:Int)] 27
theorem iB:(aS pH).2=0:=by decide +kernel
theorem kG:(gOf pH).reach=[0,1]:=by
 have r0:(gOf pH).R 0:=.zero;have r1:(gOf pH).R 1:=.step r0 (show 1∈(gOf pH).su 0 by decide +kernel);show(List.range 2).filter (gOf pH).rB=List.range 2;rw[List.filter_eq_self];intro a ha;have:=List.mem_range.1 ha;rw[Fl.Fg.rB_iff]
 match a,this with
 | 0,_=>exact r0
 | 1,_=>exact r1
theorem gZ:aR pH=[⟨0,2,1,[],[]⟩]:=by
 rw[blocks_ok iB,Fl.blks_is,kG];decide +kernel
theorem pH_gP:gP pH=[[]]:=by
 unfold gP;rw[gZ];decide +kernel
theorem kQ{k:J.Lk}(h1:k.l=pH)(h2:k.B=aR pH)(h3:k.a=bM (aR pH)):bD k 0=[]:=by
 have hgP:bF k.L=gP pH:=by unfold J.Lk.L gP;rw[h1,h2,h3]
 cases hr:bD k 0 with
 | nil=>rfl
 | cons r rs =>
  exfalso;have hm:r∈bD k 0:=by rw[hr];exact List.mem_cons_self
  unfold bD at hm;rw[hgP]at hm;obtain⟨x,_,_,hsp⟩:=J.meetL_mem.1 hm
  have hF:∃ p t,(J.Dm.gL (gP pH)).F p t:=by
   have key:∀ q:Int,((0:Nat):Int)∈(J.Dm.frontL (gP pH)).getD q.toNat []->∃ p t,(J.Dm.gL (gP pH)).F p t:=λ q hq=>by
    unfold J.Dm.frontL at hq;rw[List.getD_eq_getElem?_getD,List.getElem?_map]at hq;cases hg:(List.range (gP pH).length)[q.toNat]? with
    | none=>rw[hg]at hq;cases hq
    | some y =>
     rw[hg]at hq;have hq':((0:Nat):Int)∈J.Dm.frontR (gP pH) y:=hq;obtain⟨t,e,hf⟩:=iI hq';exact⟨y,t,hf⟩
   cases hsp with
   | one _ h=>exact key _ h
   | more _ h=>exact key _ h
  obtain⟨p,t,hF⟩:=hF;obtain⟨x0,_,he0⟩:=hF.2.2.1;obtain⟨e1,e2,_⟩:=J.Dm.gL_e.1 he0;rw[pH_gP]at e1 e2;have e0:x0=0:=by have:x0<1:=e1;omega
  subst e0;cases e2
def pHw(u:Int):Wq:=cJ pH 0 0 (λ _=>0) u [] 0 2 1 3 false
theorem pHw_is(u:Int):(pHw u).nodes.length=4/\(nd (pHw u).nodes 0).op=1/\(nd (pHw u).nodes 1).op=2/\(nd (pHw u).nodes 2).op=3/\(nd (pHw u).nodes 3).op=1/\(nd (pHw u).nodes 0).id=u/\(nd (pHw u).nodes 1).id=u+1/\(nd (pHw u).nodes 2).id=u+1+1/\(nd (pHw u).nodes 3).id=u+1+1+1/\(nd (pHw u).nodes 3).imm=5/\(pHw u).ta=u+1+1+1/\(pHw u).v=u+1+1+1+1:=by
 refine⟨?_,?_,?_,?_,?_,?_,?_,?_,?_,?_,?_,?_⟩ <;> rfl
theorem pH_n{k:J.Lk}(h1:k.l=pH)(h2:k.B=aR pH)(h3:k.a=bM (aR pH)):k.n=1/\k.a=0/\k.E=[⟨3,0,false,0,0,0,0⟩]:=by
 have ha:k.a=0:=by rw[h3,gZ];decide +kernel
 have hE:k.E=[⟨3,0,false,0,0,0,0⟩]:=by
  unfold J.Lk.E;rw[h1,h2,ha,gZ];rfl
 refine⟨?_,ha,hE⟩;show k.E.length=1;rw[hE];rfl
theorem pH_fin{k:J.Lk}{F:Nat->Option Wq}{v:Int}{V0:Nat->Int}(h1:k.l=pH)(h2:k.B=aR pH)(h3:k.a=bM (aR pH))(hrn:Rn k (bD k) (uP pH) F V0 v)(hall:∀ x,x<k.n->F x≠none) :
  k.n=1/\(pt (finL k (bD k) F) 0).nodes.length=3+1/\(∀ j,j<3+1->(nd (pt (finL k (bD k) F) 0).nodes j).op=1∨(nd (pt (finL k (bD k) F) 0).nodes j).op=2∨(nd (pt (finL k (bD k) F) 0).nodes j).op=3) /\
  (∀ j,j<3+1->0<=(nd (pt (finL k (bD k) F) 0).nodes j).id/\(nd (pt (finL k (bD k) F) 0).nodes j).id<(v.toNat:Int))/\(pt (finL k (bD k) F) 0).en.op=3/\(pt (finL k (bD k) F) 0).en.a=(nd (pt (finL k (bD k) F) 0).nodes 3).id/\f9 (nd (pt (finL k (bD k) F) 0).nodes 3)=5:=by
 obtain⟨hn,ha,hE⟩:=pH_n h1 h2 h3;have h0:0<k.n:=by omega
 have hs:=eA (hall 0 h0);obtain⟨_,u0,_,sv,_,hc⟩:=hrn.is 0 _ hs
 have hw:sF F 0=pHw (V0 0):=by
  rcases hc with ⟨_,e⟩|⟨e,_⟩
  ·rw[e]
   unfold cN;rw[h1,h2,ha,hE,kQ h1 h2 h3,gZ];rfl
  ·exact absurd rfl e
 obtain⟨g0,g1,g2,g3,g4,g5,g6,g7,g8,g9,g10,g11⟩:=pHw_is (V0 0);rw[hw,g11]at sv;rw[dE _ _ _ h0]
 have hN:(gT k (bD k) F 0).nodes=(pHw (V0 0)).nodes:=by
  show(sF F 0).nodes=_;rw[hw]
 have hA:(gT k (bD k) F 0).en.a=(pHw (V0 0)).ta:=by
  show(sF F 0).ta=_;rw[hw]
 have hO:(gT k (bD k) F 0).en.op=3:=by
  show(k.E.getD 0 Te.z).op=3;rw[hE];rfl
 rw[hN];refine⟨hn,g0,λ j hj=>?_,λ j hj=>?_,hO,hA.trans (g10.trans g8.symm),?_⟩
 ·have:j=0∨j=1∨j=2∨j=3:=by omega
  rcases this with rfl|rfl|rfl|rfl
  ·exact .inl g1
  ·exact .inr (.inl g2)
  ·exact .inr (.inr g3)
  ·exact .inl g4
 ·have:j=0∨j=1∨j=2∨j=3:=by omega
  rcases this with rfl|rfl|rfl|rfl
  ·rw[g5];omega
  ·rw[g6];omega
  ·rw[g7];omega
  ·rw[g8];omega
 ·unfold f9
  rw[if_pos g4,g9]
end Go.Proofs.YtkfahppdklecdaaGreatDoor
namespace Go.Proofs.YtkfahppdklecdaaGreatDoor
open Go.RowKit M
theorem pH_new(w:World):InsAt (w.alloc aRr) (some ⟨w.heap.size,0,none⟩) pH :=
 ins_new (by decide) (λ i hi j v h=>by
  have hi':i<2:=hi
  match i,hi' with
  | 0,_=>match j,h with
   | 0,h|1,h|2,h|3,h|4,h|5,h=>exact h
  | 1,_=>match j,h with
   | 0,h|1,h|2,h|3,h|4,h|5,h=>exact h) (λ i hi=>by
  have hi':i<2:=hi
  match i,hi' with
  | 0,_|1,_=>exact⟨by decide,by decide,by decide,by decide,by decide,by decide⟩)
structure HeadL(L:List Pt)(V:Nat):Prop where
 ir:IrOk L V
 one:L.length=1
 four:(pt L 0).nodes.length=3+1
 ops:∀ j,j<3+1->(nd (pt L 0).nodes j).op=1∨(nd (pt L 0).nodes j).op=2∨(nd (pt L 0).nodes j).op=3
 ids:∀ j,j<3+1->0<=(nd (pt L 0).nodes j).id/\(nd (pt L 0).nodes j).id<(V:Int)
 en:(pt L 0).en.op=3
 ea:(pt L 0).en.a=(nd (pt L 0).nodes 3).id
 five:f9 (nd (pt L 0).nodes 3)=5
theorem kO(q:Option Addr)(qc:Nat)(w:World)(h:InsAt w q pH)(hqc:2<=qc)(hld:LdA w):Calls Tryz.prog 7 #[.slice q 2 qc] w λ e X=>∃ gp c V L,e=.returned (.tuple #[.agg #[.slice (some ⟨gp,0,none⟩) 1 c,.int .i64 ((V:Nat):Int)],.int .i64 0])/\Hid (PartsAt X (some ⟨gp,0,none⟩) L/\HeadL L V)/\Below w.heap.size w X:=by
 refine(sbuild_yes q qc pH (uP pH) (rkP pH) ((gP pH).length+1) w h hqc hld iB (λ k h1 h2 h3=>iG iB (by decide) k h1 h2 h3)).mono ?_;rintro e X ⟨k,F,v,V0,h1,h2,h3,rfl,hp,hrn,hall,hb⟩;obtain⟨g0,g1,g2,g3,g4,g5,g6⟩:=pH_fin h1 h2 h3 hrn hall;have hir:=kM iB (by decide) h1 h2 h3 hrn hall;have hv:((v.toNat:Nat):Int)=v:=Int.toNat_of_nonneg hrn.v0;refine⟨k.gp,k.cap,v.toNat,finL k (bD k) F,by rw[hv,g0],aQ ⟨hp,hir,by rw[bL];exact g0,g1,g2,g3,g4,g5,g6⟩,hb⟩
theorem jW(w:World):Calls Tryz.prog 7 #[.slice none 0 0] w λ e X=>e=.returned (.tuple #[.agg #[.slice none 0 0,.int .i64 0],.int .i64 40])/\Below w.heap.size w X :=
 sbuild_no none 0 [] w ⟨Nat.zero_le _,λ i hi=>absurd hi (Nat.not_lt_zero _),λ i hi=>absurd hi (Nat.not_lt_zero _)⟩ (by decide)
structure HeadM(W:World)(mp:Option Addr)(MQ:Nat->Option Addr)(MC:Nat->Nat)(MM:List (List Int)):Prop where
 at':K.MemAt W mp MQ MC MM
 may:K.mayB 0 [] 0 MM=true
 two:MM.length=2
theorem kS(w:World):Calls Tryz.prog 14 #[.agg #[.int .i64 0,.bool false,.slice none 0 0]] w λ e X=>∃ g c MQ MC MM,e=.returned (.tuple #[.slice (some ⟨g,0,none⟩) 2 c,.int .i64 0])/\Hid (HeadM X (some ⟨g,0,none⟩) MQ MC MM)/\Below w.heap.size w X:=by
 refine(K.rfresh_ok (λ _=>⟨0,0,none⟩) 0 false none 0 0 [] w trivial ⟨rfl,by omega,λ i hi=>absurd hi (Nat.not_lt_zero _)⟩ (by decide)).mono ?_;rintro e X ⟨g,c,Q,rfl,hm,hb⟩;exact⟨g,c,Q,_,_,rfl,aQ ⟨hm,K.may_fresh (c:=0) (ms:=[]) (len:=0) rfl (by decide),by simp[K.fN]⟩,hb⟩
theorem run_pH{w:World}{gp c V mp mc:Nat}{MQ:Nat->Option Addr}{MC:Nat->Nat}{MM:List (List Int)}{L:List Pt}(h:PartsAt w (some ⟨gp,0,none⟩) L)(hl:HeadL L V)(hm:HeadM w (some ⟨mp,0,none⟩) MQ MC MM) :
  Calls Tryz.prog 12 #[.agg #[.int .i64 0,.bool false,.slice none 0 0],.agg #[.slice (some ⟨gp,0,none⟩) 1 c,.int .i64 (V:Int)],.slice (some ⟨mp,0,none⟩) 2 mc,.slice none 0 0,.int .i64 100] w λ e w'=>(∃ x1 x2 x3 px nx cx,e=.returned (.tuple #[.agg #[.int .i64 1,.int .u64 5,.int .i64 x1,.int .i64 x2,.int .i64 x3,.slice none 0 0,.slice px nx cx],.int .i64 0]))/\Below w.heap.size w w':=by
 have:=jP L V 3 _ c _ mc MQ MC MM w h hl.ir hl.one hl.four (by omega) hl.ops hl.ids hl.en hl.ea hm.at' hm.may;rw[hl.five,hm.two]at this;exact this
theorem LdA.below{w W:World}(h:LdA w)(hb:Below w.heap.size w W):LdA W:=⟨Nat.lt_of_lt_of_le h.1 hb.size,λ i hi=>(hb.cell (p:=⟨0,i,none⟩) h.1).trans (h.2 i hi)⟩
theorem gX(w:World)(hld:LdA w):Calls Tryz.prog 6 #[] w λ e w'=>e=.returned (.bool true)/\Below w.heap.size w w':=by
 have HP:=aQ (kO _ 2 _ (pH_new w) (Nat.le_refl _) (hld.below b1));have HPB:Hid (∀ X,Below (w.alloc aRr).heap.size (w.alloc aRr) X->Below w.heap.size w X):=aQ (λ X hb=>(b1:Below w.heap.size w (w.alloc aRr)).trans (hb.mono (by rw[World.size_alloc];omega)));go_enter Tryz.func6,Tryz.ntmps6
 go_wp2_with (first
  | (go_at_call 7;(with_reducible refine HP.out.mono ?_);rintro e w1 ⟨gp,c,V,L,rfl,H1,hb⟩;have HB:=aQ (HPB.out _ hb);have HBX:Hid ((w1.alloc (zI gp 1 c V)).cell? ⟨w1.heap.size,0,none⟩=some (.slice (some ⟨gp,0,none⟩) 1 c)/\(w1.alloc (zI gp 1 c V)).cell? ⟨w1.heap.size,1,none⟩=some (.int .i64 (V:Int))/\w1.heap.size<(w1.alloc (zI gp 1 c V)).heap.size):=aQ ⟨aJ w1 rfl,aJ w1 rfl,by rw[World.size_alloc];omega⟩;have HBW:Hid (Below w1.heap.size w1 (w1.alloc (zI gp 1 c V))):=aQ b1;clear hb)
  | (go_at_call 7;(with_reducible refine(jW _).mono ?_);rintro e w2 ⟨rfl,hb⟩;have H2:=aQ hb;clear hb)
  | (go_at_call 14;(with_reducible refine(kS _).mono ?_);rintro e w3 ⟨g,c3,MQ,MC,MM,rfl,H3,hb⟩;have HX:Hid (Below _ _ w3):=aQ (H2.out.trans ((b1.trans (hb.mono (by rw[World.size_alloc];omega))).mono H2.out.size));have f0:=(HX.out.cell (p:=⟨w1.heap.size,0,none⟩) HBX.out.2.2).trans HBX.out.1;have f1:=(HX.out.cell (p:=⟨w1.heap.size,1,none⟩) HBX.out.2.2).trans HBX.out.2.1;have fl:=Nat.lt_of_lt_of_le HBX.out.2.2 HX.out.size;have HY:=aQ (HBW.out.trans (HX.out.mono HBW.out.size));clear hb)
  | (go_at_call 12;(with_reducible refine(run_pH (H1.out.1.below HY.out) H1.out.2 H3.out).mono ?_);rintro e w4 ⟨⟨x1,x2,x3,px,nx,cx,rfl⟩,hb⟩;have H4:=aQ (HB.out.trans ((HY.out.trans (hb.mono HY.out.size)).mono HB.out.size));clear hb))
 go_ret;exact⟨rfl,H4.out.trans (b1.mono H4.out.size)⟩
theorem gW(q:Option Addr)(n c:Nat)(w:World):Calls Tryz.prog 5 #[.slice q n c] w λ e w'=>e=.returned (.bool (decide ((n:Int)<=200)))/\w=w':=by
 go_enter Tryz.func5,Tryz.ntmps5
 go_wp2_with fail
 go_ret;exact⟨rfl,rfl⟩
theorem jS(q:Option Addr)(qc:Nat)(l:List In)(w:World)(hld:LdA w)(hl:¬ l.length<=200):Calls Tryz.prog 3 #[.slice q l.length qc] w λ e w'=>e=.returned (.bool true)/\Below w.heap.size w w':=by
 have HS:=aQ (gW q l.length qc);have HH:=aQ (gX w hld);have hd:decide ((l.length:Int)<=200)=false:=by simp;omega
 rw[hd]at HS;generalize l.length=N at *;go_enter Tryz.func3,Tryz.ntmps3
 go_wp2_with (first
  | (go_at_call 5;(with_reducible refine(HS.out _).mono ?_);rintro e w1 ⟨rfl,rfl⟩)
  | (go_at_call 6;(with_reducible refine HH.out.mono ?_);rintro e w2 ⟨rfl,hb⟩;have B2:=aQ hb;clear hb))
 go_ret;exact⟨rfl,B2.out⟩
theorem kF(q:Option Addr)(qc:Nat)(l:List In)(w:World)(h:InsAt w q l)(hld:LdA w)(hl:l.length<=200)(hc:¬ (aS l).2=0):Calls Tryz.prog 3 #[.slice q l.length qc] w λ e w'=>e=.returned (.bool true)/\Below w.heap.size w w':=by
 have HS:=aQ (gW q l.length qc);have HH:=aQ (λ W (hb:Below w.heap.size w W)=>gX W (hld.below hb));have HB:=aQ (sbuild_no q qc l w h hc);have HC:=aQ (λ W (hb:Below w.heap.size w W)=>dP q qc l W (h.below hb));have hd:decide ((l.length:Int)<=200)=true:=by simp;omega
 rw[hd]at HS;generalize l.length=N at *;have hc':((aS l).2 != 0)=true:=by simpa using hc
 go_enter Tryz.func3,Tryz.ntmps3
 go_wp2_with (first
  | (go_at_call 5;(with_reducible refine(HS.out _).mono ?_);rintro e w1 ⟨rfl,rfl⟩)
  | (go_at_call 7;(with_reducible refine HB.out.mono ?_);rintro e w2 ⟨rfl,hb⟩;have B2:=aQ hb;have HBX:Hid (Below w.heap.size w (w2.alloc (.cells #[.slice none 0 0,.int .i64 0] 27))/\(w2.alloc (.cells #[.slice none 0 0,.int .i64 0] 27)).cell? ⟨w2.heap.size,0,none⟩=some (.slice none 0 0)/\w2.heap.size<(w2.alloc (.cells #[.slice none 0 0,.int .i64 0] 27)).heap.size):=aQ ⟨hb.trans (b1.mono hb.size),aJ w2 rfl,by rw[World.size_alloc];omega⟩;clear hb)
  | (go_at_call 8;(with_reducible refine(HC.out _ HBX.out.1).mono ?_);rintro e w3 ⟨rfl,hb⟩;have f0:=(hb.cell (p:=⟨w2.heap.size,0,none⟩) HBX.out.2.2).trans HBX.out.2.1;have fl:=Nat.lt_of_lt_of_le HBX.out.2.2 hb.size;have B3:=aQ (HBX.out.1.trans (hb.mono HBX.out.1.size));clear hb)
  | (go_at_call 6;(with_reducible refine(HH.out _ B3.out).mono ?_);rintro e w4 ⟨rfl,hb⟩;have B4:=aQ (B3.out.trans (hb.mono B3.out.size));clear hb))
 go_ret;exact⟨rfl,B4.out⟩
structure kP(l:List In)(L:List Pt)(V:Nat):Prop where
 ir:IrOk L V
 one:∀ i,i<L.length->(pt L i).pred.length=1->(pt L i).phis.length=0
 len:L.length=(aR l).length∨L.length=(aR l).length+1
 big:L.length<=999
theorem iY(q:Option Addr)(qc:Nat)(l:List In)(w:World)(h:InsAt w q l)(hqc:l.length<=qc)(hld:LdA w)(hl:l.length<=200)(hc:(aS l).2=0):Calls Tryz.prog 7 #[.slice q l.length qc] w λ e X=>∃ gp c V L,e=.returned (.tuple #[.agg #[.slice (some ⟨gp,0,none⟩) L.length c,.int .i64 ((V:Nat):Int)],.int .i64 0])/\Hid (PartsAt X (some ⟨gp,0,none⟩) L/\kP l L V)/\Below w.heap.size w X:=by
 refine(sbuild_yes q qc l (uP l) (rkP l) ((gP l).length+1) w h hqc hld hc (λ k h1 h2 h3=>iG hc hl k h1 h2 h3)).mono ?_;rintro e X ⟨k,F,v,V0,h1,h2,h3,rfl,hp,hrn,hall,hb⟩;have hir:=kM hc hl h1 h2 h3 hrn hall;have hg:=(iG hc hl k h1 h2 h3).gd;have hv:((v.toNat:Nat):Int)=v:=Int.toNat_of_nonneg hrn.v0;refine⟨k.gp,k.cap,v.toNat,finL k (bD k) F,by rw[hv,bL],aQ ⟨hp,hir,λ i hi h=>?_,?_,by rw[bL];exact hg.nN⟩,hb⟩
 ·rw[bL]at hi
  rw[dE _ _ _ hi]at h ⊢;have hr:=kT hc h1 h2 h3 hi h;show(finPh k (bD k) F i).length=0;unfold finPh;rw[hr];rfl
 ·have:=hg.nB
  have:=hg.a1;rw[bL,<- h2];omega
theorem jR(q:Option Addr)(qc:Nat)(l:List In)(w:World)(h:InsAt w q l)(hqc:l.length<=qc)(hld:LdA w)(hl:l.length<=200)(hc:(aS l).2=0):Calls Tryz.prog 3 #[.slice q l.length qc] w λ e w'=>e=.returned (.bool true)/\Below w.heap.size w w':=by
 have HS:=aQ (gW q l.length qc);have HH:=aQ (λ W (hb:Below w.heap.size w W)=>gX W (hld.below hb));have HB:=aQ (iY q qc l w h hqc hld hl hc);have HC:=aQ (λ W (hb:Below w.heap.size w W)=>dP q qc l W (h.below hb));have HK:=aQ (λ W (hb:Below w.heap.size w W)=>rblocks_any q qc l W (h.below hb));have HF:=aQ (λ (g c V:Nat) L W (hp:PartsAt W (some ⟨g,0,none⟩) L) (hr:kP l L V)=>rcheckF_yes (some ⟨g,0,none⟩) c L V W hp hr.ir);have hd:decide ((l.length:Int)<=200)=true:=by simp;omega
 rw[hd]at HS;unfold fV at HC;rw[hc]at HC HK;clear hc h hd hl hqc;go_enter Tryz.func3,Tryz.ntmps3
 obtain⟨N,hN⟩:∃ N,l.length=N:=⟨_,rfl⟩;rw[hN]at HS HB HC HK ⊢
 go_wp2_with (first
  | (go_at_call 5;(with_reducible refine(HS.out _).mono ?_);rintro e w1 ⟨rfl,rfl⟩)
  | (go_at_call 7;(with_reducible refine HB.out.mono ?_);rintro e w2 ⟨gp,c,V,L,rfl,H2,hb⟩;obtain⟨n,hn⟩:∃ n,L.length=n:=⟨_,rfl⟩;rw[hn];have HN:=aQ hn;clear hn;have HBX:Hid (Below w.heap.size w (w2.alloc (zI gp n c V))/\(w2.alloc (zI gp n c V)).cell? ⟨w2.heap.size,0,none⟩=some (.slice (some ⟨gp,0,none⟩) n c)/\(w2.alloc (zI gp n c V)).cell? ⟨w2.heap.size,1,none⟩=some (.int .i64 (V:Int))/\w2.heap.size<(w2.alloc (zI gp n c V)).heap.size):=aQ ⟨hb.trans (b1.mono hb.size),aJ w2 rfl,aJ w2 rfl,by rw[World.size_alloc];omega⟩;have HBW:Hid (Below w2.heap.size w2 (w2.alloc (zI gp n c V))):=aQ b1;clear hb)
  | (go_at_call 8;(with_reducible refine(HC.out _ HBX.out.1).mono ?_);rintro e w3 ⟨rfl,hb⟩;have f0:=(hb.cell (p:=⟨w2.heap.size,0,none⟩) HBX.out.2.2.2).trans HBX.out.2.1;have f1:=(hb.cell (p:=⟨w2.heap.size,1,none⟩) HBX.out.2.2.2).trans HBX.out.2.2.1;have fl:=Nat.lt_of_lt_of_le HBX.out.2.2.2 hb.size;have B3:=aQ (HBX.out.1.trans (hb.mono HBX.out.1.size));have P3:=aQ (H2.out.1.below (HBW.out.trans (hb.mono HBW.out.size)));clear hb)
  | (go_at_call 9;(with_reducible refine(HN.out ▸ HF.out gp c V L _ P3.out H2.out.2).mono ?_);rintro e w4 ⟨rfl,hb⟩;replace f0:=(hb.cell (p:=⟨w2.heap.size,0,none⟩) fl).trans f0;clear f1;replace fl:=Nat.lt_of_lt_of_le fl hb.size;have B4:=aQ (B3.out.trans (hb.mono B3.out.size));have P4:=aQ (P3.out.below hb);clear hb))
 have hn9:n<=999:=by have:=HN.out;have:=H2.out.2.big;omega
 have HW4:=aQ (λ W (hb:Below w4.heap.size w4 W)=>And.intro ((hb.cell (p:=⟨w2.heap.size,0,none⟩) fl).trans f0) (And.intro (Nat.lt_of_lt_of_le fl hb.size) (B4.out.trans (hb.mono B4.out.size))));clear f0 fl
 go_loopw [7] (λ i wr=>∃ k:Nat,k<=n/\i=.int .i64 (k:Int)/\Hid (Below w4.heap.size w4 wr)) (λ i _=>n - (intOf i).toNat)
 case atStart=>exact⟨0,Nat.zero_le _,rfl,aQ (Below.refl _ _)⟩
 case round =>
  obtain⟨k,hk,rfl,HR⟩:=hrel;obtain⟨f0,fl,_⟩:=HW4.out _ HR.out;by_cases hkn:k<n
  ·obtain⟨g,qp,cp,qf,cf,qn,cn,hq,hgl,c0,c1,-⟩:=(P4.out.below HR.out).at (i:=k) (by rw[HN.out];exact hkn)
   obtain rfl:gp=g:=by injection hq with hq;injection hq
   have hone:=H2.out.2.one k (by rw[HN.out];exact hkn);generalize (pt L k).pred.length=a at *;generalize (pt L k).phis.length=b at *;have hkI:(k:Int)<(n:Int):=by omega
   by_cases ha:a=1
   ·obtain rfl:=hone ha
    subst ha;go_wp2_with fail
    go_roundw
    all_goals first
     | exact⟨k+1,by omega,rfl,HR⟩
     | ((simp[intOf]) <;> omega)
   ·have ha':((a:Int) == 1)=false:=by simp;omega
    go_wp2_with fail
    go_roundw
    all_goals first
     | exact⟨k+1,by omega,rfl,HR⟩
     | ((simp[intOf]) <;> omega)
  ·obtain rfl:k=n:=by omega
   have hle:k=(aR l).length∨k=(aR l).length+1:=by have:=HN.out;have:=H2.out.2.len;omega
   generalize (aR l).length=nb at *;rcases hle with rfl|rfl
   all_goals go_wp2_with (first
    | (go_at_call 10;(with_reducible refine(HK.out _ (HW4.out _ HR.out).2.2).mono ?_);rintro e w5 ⟨p5,c5,rfl,-,hb⟩;have B5:=aQ ((HW4.out _ HR.out).2.2.trans (hb.mono (HW4.out _ HR.out).2.2.size));replace f0:=(hb.cell (p:=⟨w2.heap.size,0,none⟩) fl).trans f0;replace fl:=Nat.lt_of_lt_of_le fl hb.size;clear hb)
    | (go_at_call 6;(with_reducible refine(HH.out _ B5.out).mono ?_);rintro e w6 ⟨rfl,hb⟩;have B6:=aQ (B5.out.trans (hb.mono B5.out.size));clear hb))
   all_goals go_ret
   all_goals exact⟨rfl,B6.out⟩
theorem jT(q:Option Addr)(qc:Nat)(l:List In)(w:World)(h:InsAt w q l)(hqc:l.length<=qc)(hld:LdA w):Calls Tryz.prog 3 #[.slice q l.length qc] w λ e w'=>e=.returned (.bool true)/\Below w.heap.size w w':=by
 by_cases hl:l.length<=200
 ·by_cases hc:(aS l).2=0
  ·exact jR q qc l w h hqc hld hl hc
  ·exact kF q qc l w h hld hl hc
 ·exact jS q qc l w hld hl
end Go.Proofs.YtkfahppdklecdaaGreatDoor
