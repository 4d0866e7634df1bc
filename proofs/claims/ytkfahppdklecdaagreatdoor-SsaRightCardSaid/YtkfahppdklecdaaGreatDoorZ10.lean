import Derived.Test.YtkfahppdklecdaaGreatDoorZ09
set_option maxRecDepth 100000
set_option maxHeartbeats 16000000
namespace Go.Proofs.YtkfahppdklecdaaGreatDoor.J
open Go.RowKit
open Dm
theorem av_r{G:Dg}{b:Nat}:G.Av (outS (-1)) b↔G.R b :=
 ⟨λ h=>Dg.Av.mono (λ _ c=>c.elim) h,λ h=>Dg.Av.mono (λ x c=>by unfold outS at c;omega) h⟩
theorem av_w{G:Dg}{a b:Nat}:G.Av (outS (a:Int)) b↔G.W a b :=
 ⟨λ h=>Dg.Av.mono (λ x c=>by unfold outS;omega) h,λ h=>Dg.Av.mono (λ x c=>by unfold outS at c;omega) h⟩
def ReachQ(g:List (List Int))(w:World)(e:Ending)(w':World):Prop :=
 ∃ gb L,e=.returned (.slice (some ⟨gb,0,none⟩) g.length g.length)/\w.heap.size<=gb/\Rb w' gb L/\L.length=g.length/\(∀ b,b<g.length->(L.getD b false=true↔(gL g).R b))/\Below w.heap.size w w'
theorem rgreach_any(q:Option Addr)(qc:Nat)(g:List (List Int))(w:World)(h:GsAt w q g)(hN:g.length<=4096)(hT:tot g<=1048576):Calls Tryz.prog 66 #[.slice q g.length qc] w (ReachQ g w):=by
 have HW:=aQ (rwalk_any q qc g (-1) w h hN hT);have HQ:Hid (∀ e w',WalkQ g (-1) w e w'->ReachQ g w e w'):=aQ (λ e w' ⟨gb,L,h1,h2,h3,h4,h5,h6⟩=>⟨gb,L,h1,h2,h3,h4,λ b hb=>(h5 b hb).trans av_r,h6⟩);unfold WalkQ at HW HQ;generalize ReachQ g w=Q at *;generalize g.length=N at *;clear h;go_enter Tryz.func66,Tryz.ntmps66
 go_wp2_with (go_at_call 70;(with_reducible refine HW.out.mono ?_);rintro e w1 hq;have HQ1:=aQ (HQ.out _ _ hq);obtain⟨gb,L,rfl,_⟩:=hq)
 exact HQ1.out
noncomputable def domR(g:List (List Int))(a:Nat):List Bool:=(List.range g.length).map λ b:Nat=>domB g (a:Int) (b:Int)
theorem domR_len(g:List (List Int))(a:Nat):(domR g a).length=g.length:=by simp[domR]
theorem domR_at{g:List (List Int)}{a b:Nat}(h:b<g.length):(domR g a).getD b false=domB g (a:Int) (b:Int):=by
 unfold domR;rw[List.getD_eq_getElem?_getD,List.getElem?_map,List.getElem?_range h];rfl
theorem domB_val{g:List (List Int)}{a b:Nat}{ra rb wb:Bool}(h1:ra=true↔(gL g).R a)(h2:rb=true↔(gL g).R b)(h3:wb=true↔(gL g).W a b):domB g (a:Int) (b:Int)=(ra && (rb && (decide (a=b) || !wb))):=by
 rw[Bool.eq_iff_iff,domB_iff,Bool.and_eq_true,Bool.and_eq_true,Bool.or_eq_true,decide_eq_true_eq,h1,h2,Bool.not_eq_true',<- Bool.not_eq_true,h3];exact Iff.rfl
structure TabAt(w:World)(q:Option Addr)(N:Nat)(D:Nat->List Bool):Prop where
 cells:∀ a,a<N->∃ b off gb,q=some ⟨b,off,none⟩/\b<w.heap.size/\w.cell? ⟨b,off+a,none⟩=some (.slice (some ⟨gb,0,none⟩) N N)/\Rb w gb (D a)/\(D a).length=N
theorem TabAt.below{w w':World}{q:Option Addr}{N:Nat}{D:Nat->List Bool}(h:TabAt w q N D)(hb:Below w.heap.size w w'):TabAt w' q N D :=
 ⟨λ a ha=>by
  obtain⟨b,off,gb,hq,hl,h0,hr,hd⟩:=h.cells a ha;exact⟨b,off,gb,hq,Nat.lt_of_lt_of_le hl hb.size,(hb.cell (p:=⟨b,_,none⟩) hl).trans h0,hr.next hb,hd⟩⟩
theorem infoRow:(Tryz.prog.info? 91).map (λ i=>(i.zero,i.size,i.bytes))=some (some (.slice none 0 0),1,24):=by kernel_rfl
theorem wpList_app_row{w:World}{ops:Array Oper}{rest:List Oper}{o:Oper}{a:Act}{Q:Exit->Act->World->Prop}(hg:o.guard=none)(s x:Operand)(hop:o.op=Op.call { callee:=Callee.builtin Builtin.append,args:=#[s,x],argTypes:=#[85,85] })(hty:o.type=85)
  (base:Nat) (ad:Addr) (u:Value) (xs:List Value) (v:Value) (n c:Nat) (hs:a.eval s=v) (hx:a.eval x=.slice (some ad) 1 c) (h1:w.ownsRow base 91 1 v n xs) (hN:∀ j u',[u][j]?=some u'->w.cell? (ad.add j)=some u') (h1c:u.oneCell'=true) (hb:base<=w.heap.size) (hm:n<=4096)
  (hK:∀ v' w',w'.ownsRow base 91 1 v' (n+1) (xs ++ [u])->w.grownBy w' v.ownBlock->(v'.ownBlock=v.ownBlock∨v'.ownBlock=some w.heap.size)->wpList Tryz.prog ops Q rest (a.put o.dst v') w') :
  wpList Tryz.prog ops Q (o :: rest) a w:=by
 refine wpList_plain hg λ K hK'=>?_
 obtain⟨i5,h5,g5,s5,b5⟩:=info_parts infoRow;obtain⟨v',w',hrun,r1,r2,_,r4⟩:=run_append_own_at (P:=Tryz.prog) w base 85 85 91 i5 _ 1 24 Tryz.underlying85 h5 g5 s5 b5 rfl (by decide) v n xs h1 ad 1 c [u] rfl hN (λ u' hu=>by rw[List.mem_singleton.1 hu];exact h1c) (by simp only[maxLen];omega) (by omega) hb;unfold Oper.wp;simp[execOp,hop,resolve,invoke,builtin,hs,hx,hty,hrun,Result.andThen];exact hK' _ _ (hK v' w' r1 r2 r4)
structure Tb(w W:World)(N k:Nat)(G:Nat->Nat)(D:Nat->List Bool)(q:Option Addr)(c:Nat):Prop where
 low:Below w.heap.size w W
 own:W.ownsRow w.heap.size 91 1 (.slice q k c) k ((List.range k).map λ a=>.slice (some ⟨G a,0,none⟩) N N)
 row:∀ a,a<k->w.heap.size<=G a/\Rb W (G a) (D a)/\(D a).length=N
 ne:∀ a,a<k->q.map Addr.block≠some (G a)
theorem Tb.next{w W W':World}{N k:Nat}{G:Nat->Nat}{D:Nat->List Bool}{q:Option Addr}{c:Nat}(h:Tb w W N k G D q c)(hb:Below W.heap.size W W'):Tb w W' N k G D q c :=
 ⟨h.low.trans (hb.mono h.low.size),own_below h.own hb,λ a ha=>⟨(h.row a ha).1,(h.row a ha).2.1.next hb,(h.row a ha).2.2⟩,h.ne⟩
structure Ti(w W:World)(N k:Nat)(G:Nat->Nat)(D:Nat->List Bool)(q:Option Addr)(c gk:Nat)(L:List Bool):Prop where
 tb:Tb w W N k G D q c
 gb:w.heap.size<=gk
 rb:Rb W gk L
 ng:∀ a,a<k->G a≠gk
 nq:q.map Addr.block≠some gk
theorem Ti.start{w W:World}{N k:Nat}{G:Nat->Nat}{D:Nat->List Bool}{q:Option Addr}{c:Nat}(h:Tb w W N k G D q c)(n:Nat):Ti w (W.alloc (.cells (madeCells #[.bool false] n) 4)) N k G D q c W.heap.size (List.replicate n false):=by
 refine⟨h.next ((Below.refl _ _).alloc (Nat.le_refl _) _),h.low.size,rb_new W n,λ a ha=>?_,λ e=>?_⟩
 ·have:=(h.row a ha).2.1.lt;omega
 ·have:=(h.own.lt _ (by rw[aH];exact e)).2;omega
theorem Ti.next{w W W':World}{N k:Nat}{G:Nat->Nat}{D:Nat->List Bool}{q:Option Addr}{c gk:Nat}{L:List Bool}(h:Ti w W N k G D q c gk L)(hb:Below W.heap.size W W'):Ti w W' N k G D q c gk L :=
 ⟨h.tb.next hb,h.gb,h.rb.next hb,h.ng,h.nq⟩
theorem getD_set_v(L:List Bool)(s j:Nat)(v:Bool)(hs:s<L.length):(L.set s v).getD j false=if j=s then v else L.getD j false:=by
 rw[List.getD_eq_getElem?_getD,List.getElem?_set,List.getD_eq_getElem?_getD];by_cases e:s=j
 ·subst e
  simp[hs]
 ·rw[if_neg e,if_neg (λ h=>e h.symm)]
theorem Rb.setV{W:World}{g k:Nat}{l:List Bool}{v:Bool}(h:Rb W g l)(hk:k<l.length):Rb (W.setCell ⟨g,k,none⟩ (.bool v)) g (l.set k v):=by
 refine⟨by simpa[World.setCell]using h.lt,λ i hi=>?_,λ j=>(World.frozen?_setCell ..).trans (h.fr j)⟩;rw[List.length_set]at hi;rw[getD_set_v _ _ _ _ hk];by_cases e:i=k
 ·subst e
  rw[if_pos rfl];exact World.cell?_setCell_same _ _ _ (h.cell i hi)
 ·rw[if_neg e]
  exact(World.cell?_setCell_other _ _ _ _ (λ e'=>e (congrArg Addr.off e').symm)).trans (h.cell i hi)
theorem Ti.set{w W:World}{N k:Nat}{G:Nat->Nat}{D:Nat->List Bool}{q:Option Addr}{c gk m:Nat}{L:List Bool}{v:Bool}(h:Ti w W N k G D q c gk L)(hm:m<L.length):Ti w (W.setCell ⟨gk,m,none⟩ (.bool v)) N k G D q c gk (L.set m v):=by
 refine⟨⟨h.tb.low.setCell (p:=⟨gk,m,none⟩) h.gb _,aP (a:=⟨gk,m,none⟩) h.tb.own (by rw[aH];exact h.nq),λ a ha=>⟨(h.tb.row a ha).1,(h.tb.row a ha).2.1.other (a:=⟨gk,m,none⟩) (λ e=>h.ng a ha e.symm) _,(h.tb.row a ha).2.2⟩,h.tb.ne⟩,h.gb,h.rb.setV hm,h.ng,h.nq⟩
theorem Tb.put{w W W':World}{N k:Nat}{G:Nat->Nat}{D:Nat->List Bool}{q q':Option Addr}{c c' gk:Nat}{L:List Bool}(h:Ti w W N k G D q c gk L)(hL:L=D k)(hl:L.length=N)
  (ho:W'.ownsRow w.heap.size 91 1 (.slice q' (k+1) c') (k+1) (((List.range k).map λ a=>.slice (some ⟨G a,0,none⟩) N N) ++ [.slice (some ⟨gk,0,none⟩) N N])) (hg:W.grownBy W' (Value.slice q k c).ownBlock) (hb:(Value.slice q' (k+1) c').ownBlock=(Value.slice q k c).ownBlock∨(Value.slice q' (k+1) c').ownBlock=some W.heap.size) :
  Tb w W' N (k+1) (λ a=>if a=k then gk else G a) D q' c':=by
 rw[aH]at hg;rw[aH,aH]at hb;have hlow:Below w.heap.size w W':=h.tb.low.grown hg h.tb.low.size (λ j hj=>(h.tb.own.lt j (by rw[aH];exact hj)).1);refine⟨hlow,?_,λ a ha=>?_,λ a ha=>?_⟩
 ·have e:(List.range (k+1)).map (λ a=>Value.slice (some ⟨if a=k then gk else G a,0,none⟩) N N)=((List.range k).map λ a=>.slice (some ⟨G a,0,none⟩) N N) ++ [.slice (some ⟨gk,0,none⟩) N N]:=by
   rw[List.range_succ,List.map_append];congr 1
   ·refine List.map_congr_left λ a ha=>?_
    have:=List.mem_range.1 ha;rw[if_neg (by omega)]
   ·simp
  rw[e];exact ho
 ·by_cases e:a=k
  ·subst e
   rw[if_pos rfl];exact⟨h.gb,hL ▸ h.rb.grown hg h.nq,hL ▸ hl⟩
  ·rw[if_neg e]
   obtain⟨r1,r2,r3⟩:=h.tb.row a (by omega);exact⟨r1,r2.grown hg (h.tb.ne a (by omega)),r3⟩
 ·by_cases e:a=k
  ·subst e
   rw[if_pos rfl];rcases hb with e2|e2
   ·rw[e2];exact h.nq
   ·rw[e2];intro e3;injection e3 with e3;have:=h.rb.lt;omega
  ·rw[if_neg e]
   rcases hb with e2|e2
   ·rw[e2];exact h.tb.ne a (by omega)
   ·rw[e2];intro e3;injection e3 with e3;have:=(h.tb.row a (by omega)).2.1.lt;omega
theorem Tb.tab{w W:World}{N:Nat}{G:Nat->Nat}{D:Nat->List Bool}{q:Option Addr}{c:Nat}(h:Tb w W N N G D q c):TabAt W q N D:=by
 refine⟨λ a ha=>?_⟩;obtain⟨gq,cap,e,_,hl⟩:=dZ h.own (by omega);injection e with e1 e2 e3
 subst e1 e3;obtain⟨_,r2,r3⟩:=h.row a ha;refine⟨gq,0,G a,rfl,hl,?_,r2,r3⟩;rw[Nat.zero_add,h.own.cellAt a (by omega)];simp[ha]
def TableQ(g:List (List Int))(w:World)(e:Ending)(w':World):Prop :=
 ∃ p c,e=.returned (.slice p g.length c)/\TabAt w' p g.length (domR g)/\Below w.heap.size w w'
theorem rtable_any(q:Option Addr)(qc:Nat)(g:List (List Int))(w:World)(h:GsAt w q g)(hN:g.length<=4096)(hT:tot g<=1048576):Calls Tryz.prog 26 #[.slice q g.length qc] w (TableQ g w):=by
 have HI:=aQ h;have HR:=aQ (rgreach_any q qc g w h hN hT);have HW:=aQ (λ (a:Int) (W:World) (hW:Below w.heap.size w W)=>rwalk_any q qc g a W (HI.out.below hW) hN hT);have HQ:Hid (∀ p c W,TabAt W p g.length (domR g)->Below w.heap.size w W->TableQ g w (.returned (.slice p g.length c)) W):=aQ (λ p c W h1 h2=>⟨p,c,rfl,h1,h2⟩);have HDL:=aQ (domR_len g);have HDA:=aQ (λ a b (hb:b<g.length)=>domR_at (g:=g) (a:=a) hb);have HV:=aQ (λ a b ra rb wb h1 h2 h3=>domB_val (g:=g) (a:=a) (b:=b) (ra:=ra) (rb:=rb) (wb:=wb) h1 h2 h3);unfold ReachQ at HR;unfold WalkQ at HW;generalize TableQ g w=Q at *;generalize domR g=D at *;obtain⟨N,hNl⟩:∃ N,g.length=N:=⟨_,rfl⟩;rw[hNl]at hN HR HW HQ HDL HDA ⊢;clear h hNl;have hmk:=λ W=>run_make_row' (P:=Tryz.prog) 91 4 (.bool false) 1 Tryz.underlying91 eX rfl .i64 .i64 N (by omega) (by omega) W
 go_enter Tryz.func26,Tryz.ntmps26
 go_wp2_with (go_at_call 66;(with_reducible refine HR.out.mono ?_);rintro e w1 ⟨gr,LR,rfl,hgr,hrr,hlr,hdr,hbr⟩;have HB1:=aQ hbr;have HR1:=aQ hrr;have HL1:=aQ hlr;have HD1:=aQ hdr;clear hgr hrr hlr hdr hbr)
 go_loopw [4,5] (λ o v wr=>∃ (k:Nat) (G:Nat->Nat) (p:Option Addr) (c:Nat),k<=N/\v=.int .i64 (k:Int)/\o=.slice p k c/\Tb w1 wr N k G D p c) (λ _ v _=>N - (intOf v).toNat)
 case atStart=>exact⟨0,λ _=>0,none,0,Nat.zero_le _,rfl,rfl,Below.refl _ _,World.ownsRow_nil _ _ _ _,λ a ha=>absurd ha (Nat.not_lt_zero _),λ a ha=>absurd ha (Nat.not_lt_zero _)⟩
 case round =>
  clear HR;obtain⟨k,G,p,c,hk,rfl,rfl,htb⟩:=hrel;have HT:=aQ htb;by_cases hlt:k<N
  ·clear htb
   go_wp2_with (go_at_call 70;(with_reducible refine(HW.out _ _ (HB1.out.trans (HT.out.low.mono HB1.out.size))).mono ?_);rintro e w2 ⟨gw,LW,rfl,hgw,hrw,hlw,hdw,hbw⟩;have HT2:=aQ (HT.out.next hbw);have HW2:=aQ hrw;have HLW:=aQ hlw;have HDW:=aQ hdw;clear hgw hrw hlw hdw hbw)
   go_loopw [8] (λ v wr2=>∃ (m:Nat) (L:List Bool),m<=N/\v=.int .i64 (m:Int)/\Hid (L.length=N)/\Hid (∀ b,b<m->L.getD b false=(D k).getD b false)/\Ti w1 wr2 N k G D p c w2.heap.size L/\Rb wr2 gw LW) (λ v _=>N - (intOf v).toNat)
   case atStart=>exact⟨0,List.replicate N false,Nat.zero_le _,rfl,aQ (by simp),aQ (λ b hb=>absurd hb (Nat.not_lt_zero _)),Ti.start HT2.out N,HW2.out.next ((Below.refl _ _).alloc (Nat.le_refl _) _)⟩
   case round =>
    clear HT;obtain⟨m,L,hm,rfl,HLL,HLD,hti,hrw⟩:=hrel;have HTI:=aQ hti;have HRW:=aQ hrw;by_cases hmN:m<N
    ·have rk:=(HR1.out.next hti.tb.low).cell k (by rw[HL1.out];exact hlt)
     have rm:=(HR1.out.next hti.tb.low).cell m (by rw[HL1.out];exact hmN);have rl:=(HR1.out.next hti.tb.low).lt;have wm:=hrw.cell m (by rw[HLW.out];exact hmN);have wl:=hrw.lt;have xm:=hti.rb.cell m (by rw[HLL.out];exact hmN);have xl:=hti.rb.lt;have xf:=hti.rb.fr m;have HVAL:=aQ ((HDA.out k m hmN).trans (HV.out k m (LR.getD k false) (LR.getD m false) (LW.getD m false) (HD1.out k hlt) (HD1.out m hmN) ((HDW.out m hmN).trans av_w)));generalize LR.getD k false=ra at *;generalize LR.getD m false=rb at *;generalize LW.getD m false=wb at *;clear hti hrw;cases ra with
     | false =>
      have HE:=aQ (HVAL.out.trans (show _=false by simp));clear HVAL;have HX:=aQ (HTI.out.set (m:=m) (v:=false) (by rw[HLL.out];exact hmN));have HY:=aQ (HRW.out.other (a:=⟨w2.heap.size,m,none⟩) (λ e=>by have:=HW2.out.lt;simp at e;omega) (.bool false));go_wp2_with fail
      go_roundw
      case rel=>exact⟨m+1,L.set m false,by omega,rfl,aQ (by rw[List.length_set];exact HLL.out),aQ (λ b hb=>by
        rw[getD_set_v _ _ _ _ (by rw[HLL.out];exact hmN)];by_cases e:b=m
        ·rw[if_pos e,e];exact HE.out.symm
        ·rw[if_neg e];exact HLD.out b (by omega)),HX.out,HY.out⟩
      case measure=>simp[intOf];omega
     | true =>
      cases rb with
      | false =>
       have HE:=aQ (HVAL.out.trans (show _=false by simp));clear HVAL;have HX:=aQ (HTI.out.set (m:=m) (v:=false) (by rw[HLL.out];exact hmN));have HY:=aQ (HRW.out.other (a:=⟨w2.heap.size,m,none⟩) (λ e=>by have:=HW2.out.lt;simp at e;omega) (.bool false));go_wp2_with fail
       go_roundw
       case rel=>exact⟨m+1,L.set m false,by omega,rfl,aQ (by rw[List.length_set];exact HLL.out),aQ (λ b hb=>by
         rw[getD_set_v _ _ _ _ (by rw[HLL.out];exact hmN)];by_cases e:b=m
         ·rw[if_pos e,e];exact HE.out.symm
         ·rw[if_neg e];exact HLD.out b (by omega)),HX.out,HY.out⟩
       case measure=>simp[intOf];omega
      | true =>
       by_cases hkm:k=m
       ·have hb:((k:Int) == (m:Int))=true:=by simp[hkm]
        have HE:=aQ (HVAL.out.trans (show _=true by simp[hkm]));clear HVAL;have HX:=aQ (HTI.out.set (m:=m) (v:=true) (by rw[HLL.out];exact hmN));have HY:=aQ (HRW.out.other (a:=⟨w2.heap.size,m,none⟩) (λ e=>by have:=HW2.out.lt;simp at e;omega) (.bool true));go_wp2_with fail
        go_roundw
        case rel=>exact⟨m+1,L.set m true,by omega,rfl,aQ (by rw[List.length_set];exact HLL.out),aQ (λ b hb=>by
          rw[getD_set_v _ _ _ _ (by rw[HLL.out];exact hmN)];by_cases e:b=m
          ·rw[if_pos e,e];exact HE.out.symm
          ·rw[if_neg e];exact HLD.out b (by omega)),HX.out,HY.out⟩
        case measure=>simp[intOf];omega
       ·have hb:((k:Int) == (m:Int))=false:=by simp;omega
        cases wb with
        | false =>
         have HE:=aQ (HVAL.out.trans (show _=true by simp));clear HVAL;have HX:=aQ (HTI.out.set (m:=m) (v:=true) (by rw[HLL.out];exact hmN));have HY:=aQ (HRW.out.other (a:=⟨w2.heap.size,m,none⟩) (λ e=>by have:=HW2.out.lt;simp at e;omega) (.bool true));go_wp2_with fail
         go_roundw
         case rel=>exact⟨m+1,L.set m true,by omega,rfl,aQ (by rw[List.length_set];exact HLL.out),aQ (λ b hb=>by
           rw[getD_set_v _ _ _ _ (by rw[HLL.out];exact hmN)];by_cases e:b=m
           ·rw[if_pos e,e];exact HE.out.symm
           ·rw[if_neg e];exact HLD.out b (by omega)),HX.out,HY.out⟩
         case measure=>simp[intOf];omega
        | true =>
         have HE:=aQ (HVAL.out.trans (show _=false by simp[hkm]));clear HVAL;have HX:=aQ (HTI.out.set (m:=m) (v:=false) (by rw[HLL.out];exact hmN));have HY:=aQ (HRW.out.other (a:=⟨w2.heap.size,m,none⟩) (λ e=>by have:=HW2.out.lt;simp at e;omega) (.bool false));go_wp2_with fail
         go_roundw
         case rel=>exact⟨m+1,L.set m false,by omega,rfl,aQ (by rw[List.length_set];exact HLL.out),aQ (λ b hb=>by
           rw[getD_set_v _ _ _ _ (by rw[HLL.out];exact hmN)];by_cases e:b=m
           ·rw[if_pos e,e];exact HE.out.symm
           ·rw[if_neg e];exact HLD.out b (by omega)),HX.out,HY.out⟩
         case measure=>simp[intOf];omega
    ·obtain rfl:m=N:=by omega
     have hL:L=D k:=bools_ext (by rw[HLL.out,HDL.out]) (λ i hi=>HLD.out i (by rw[HLL.out]at hi;exact hi));have HLK:=aQ hL;clear hti hrw hL;go_wp2_with (at_builtin;refine wpList_app_row rfl (.tmp 54) (.tmp 56) rfl rfl w1.heap.size ⟨wr.heap.size,0,none⟩ (.slice (some ⟨w2.heap.size,0,none⟩) m m) ((List.range k).map λ a=>.slice (some ⟨G a,0,none⟩) m m) (.slice p k c) k 1 rfl rfl (own_below HTI.out.tb.own ((Below.refl _ _).alloc (Nat.le_refl _) _)) (dQ _ _ _) rfl (by have:=HTI.out.tb.low.size;simp;omega) (by omega) ?_;intro v8 w8 ho8 hg8 hb8;obtain⟨q8,c8,rfl⟩:=aW ho8;have HP:=aQ (Tb.put (HTI.out.next ((Below.refl _ _).alloc (Nat.le_refl _) _)) HLK.out HLL.out ho8 hg8 hb8);clear ho8 hg8 hb8)
     go_roundw
     case rel=>exact⟨k+1,_,q8,c8,by omega,rfl,rfl,HP.out⟩
     case measure=>simp[intOf];omega
  ·obtain rfl:k=N:=by omega
   have HD:=aQ (HQ.out p c _ HT.out.tab (HB1.out.trans (HT.out.low.mono HB1.out.size)));clear htb;go_wp2_with fail
   exact HD.out
structure Ri(w W:World)(l:List Int)(q:Option Addr)(c:Nat):Prop where
 low:Below w.heap.size w W
 own:W.ownsRow w.heap.size 3 1 (.slice q l.length c) l.length (aX l)
theorem Ri.nil(w:World):Ri w w [] none 0:=⟨Below.refl _ _,World.ownsRow_nil _ _ _ _⟩
theorem Ri.next{w W W':World}{l:List Int}{q:Option Addr}{c:Nat}(h:Ri w W l q c)(hb:Below W.heap.size W W'):Ri w W' l q c :=
 ⟨h.low.trans (hb.mono h.low.size),own_below h.own hb⟩
theorem Ri.app{w W W':World}{l xs:List Int}{q q':Option Addr}{c c' n m:Nat}(h:Ri w W l q c)(hn:l.length=n)(ho:W'.ownsRow w.heap.size 3 1 (.slice q' m c') (l ++ xs).length (aX (l ++ xs)))(hm:(l ++ xs).length=m)(hg:W.grownBy W' (Value.slice q n c).ownBlock):Ri w W' (l ++ xs) q' c':=by
 subst hn hm;rw[aH]at hg;exact⟨h.low.grown hg h.low.size (λ k hk=>(h.own.lt k (by rw[aH];exact hk)).1),ho⟩
theorem take_one{l:List Int}{k:Nat}(hk:k<l.length):l.take (k+1)=l.take k ++ [l.getD k 0]:=by
 rw[List.take_add_one,List.getD_eq_getElem?_getD,List.getElem?_eq_getElem hk];rfl
theorem NumsAt.grown{k:IntKind}{w w':World}{q:Option Addr}{l:List Int}{row:Option Nat}(h:NumsAt k w q l)(hg:w.grownBy w' row)(hn:∀ ad,q=some ad->row≠some ad.block):NumsAt k w' q l :=
 ⟨h.small,λ i hi=>by
  obtain⟨b,o,hq,hb,hc⟩:=h.cells i hi;exact⟨b,o,hq,Nat.lt_of_lt_of_le hb hg.size,(World.cell?_of_block (a:=⟨b,o+i,none⟩) (hg.block b hb (λ e=>hn _ hq e.symm))).trans hc⟩⟩
theorem infoRowI:(Tryz.prog.info? 34).map (λ i=>(i.zero,i.size,i.bytes))=some (some (.slice none 0 0),1,24):=by kernel_rfl
theorem eZ{w:World}{ops:Array Oper}{rest:List Oper}{o:Oper}{a:Act}{Q:Exit->Act->World->Prop}(hg:o.guard=none)(s x:Operand)(hop:o.op=Op.call { callee:=Callee.builtin Builtin.append,args:=#[s,x],argTypes:=#[72,72] })(hty:o.type=72)
  (base:Nat) (ad:Addr) (u:Value) (xs:List Value) (v:Value) (n c:Nat) (hs:a.eval s=v) (hx:a.eval x=.slice (some ad) 1 c) (h1:w.ownsRow base 34 1 v n xs) (hN:∀ j u',[u][j]?=some u'->w.cell? (ad.add j)=some u') (h1c:u.oneCell'=true) (hb:base<=w.heap.size) (hm:n<=4096)
  (hK:∀ v' w',w'.ownsRow base 34 1 v' (n+1) (xs ++ [u])->w.grownBy w' v.ownBlock->(v'.ownBlock=v.ownBlock∨v'.ownBlock=some w.heap.size)->wpList Tryz.prog ops Q rest (a.put o.dst v') w') :
  wpList Tryz.prog ops Q (o :: rest) a w:=by
 refine wpList_plain hg λ K hK'=>?_
 obtain⟨i5,h5,g5,s5,b5⟩:=info_parts infoRowI;obtain⟨v',w',hrun,r1,r2,_,r4⟩:=run_append_own_at (P:=Tryz.prog) w base 72 72 34 i5 _ 1 24 Tryz.underlying72 h5 g5 s5 b5 rfl (by decide) v n xs h1 ad 1 c [u] rfl hN (λ u' hu=>by rw[List.mem_singleton.1 hu];exact h1c) (by simp only[maxLen];omega) (by omega) hb;unfold Oper.wp;simp[execOp,hop,resolve,invoke,builtin,hs,hx,hty,hrun,Result.andThen];exact hK' _ _ (hK v' w' r1 r2 r4)
structure Fb(w W:World)(k:Nat)(P:Nat->Option Addr)(C:Nat->Nat)(L:Nat->List Int)(q:Option Addr)(c:Nat):Prop where
 low:Below w.heap.size w W
 own:W.ownsRow w.heap.size 34 1 (.slice q k c) k ((List.range k).map λ a=>.slice (P a) (L a).length (C a))
 row:∀ a,a<k->NumsAt .i64 W (P a) (L a)
 lt:∀ a,a<k->∀ ad,P a=some ad->ad.block<W.heap.size
 ne:∀ a,a<k->∀ ad,P a=some ad->q.map Addr.block≠some ad.block
theorem Fb.next{w W W':World}{k:Nat}{P:Nat->Option Addr}{C:Nat->Nat}{L:Nat->List Int}{q:Option Addr}{c:Nat}(h:Fb w W k P C L q c)(hb:Below W.heap.size W W'):Fb w W' k P C L q c :=
 ⟨h.low.trans (hb.mono h.low.size),own_below h.own hb,λ a ha=>(h.row a ha).below hb,λ a ha ad e=>Nat.lt_of_lt_of_le (h.lt a ha ad e) hb.size,h.ne⟩
theorem Fb.put{w W0 W W':World}{k:Nat}{P:Nat->Option Addr}{C:Nat->Nat}{L:Nat->List Int}{q q' pr:Option Addr}{c c' cr:Nat}{l:List Int}(h0:Fb w W0 k P C L q c)(hr:Ri W0 W l pr cr)(hL:l=L k)(hl:l.length<=4096)
  (ho:W'.ownsRow w.heap.size 34 1 (.slice q' (k+1) c') (k+1) (((List.range k).map λ a=>.slice (P a) (L a).length (C a)) ++ [.slice pr l.length cr])) (hg:W.grownBy W' (Value.slice q k c).ownBlock) (hb:(Value.slice q' (k+1) c').ownBlock=(Value.slice q k c).ownBlock∨(Value.slice q' (k+1) c').ownBlock=some W.heap.size) :
  Fb w W' (k+1) (λ a=>if a=k then pr else P a) (λ a=>if a=k then cr else C a) L q' c':=by
 subst hL;have h:=h0.next hr.low;rw[aH]at hg;rw[aH,aH]at hb;have hlow:Below w.heap.size w W':=h.low.grown hg h.low.size (λ j hj=>(h.own.lt j (by rw[aH];exact hj)).1);have hpr:∀ ad,pr=some ad->W0.heap.size<=ad.block/\ad.block<W.heap.size:=λ ad e=>hr.own.lt ad.block (by rw[aH,e];rfl)
 have hqp:∀ ad,pr=some ad->q.map Addr.block≠some ad.block:=λ ad e e2=>by
  have:=(h0.own.lt ad.block (by rw[aH];exact e2)).2;have:=(hpr ad e).1;omega
 refine⟨hlow,?_,λ a ha=>?_,λ a ha ad e=>?_,λ a ha ad e=>?_⟩
 ·have e:(List.range (k+1)).map (λ a=>Value.slice (if a=k then pr else P a) (L a).length (if a=k then cr else C a))=((List.range k).map λ a=>.slice (P a) (L a).length (C a)) ++ [.slice pr (L k).length cr]:=by
   rw[List.range_succ,List.map_append];congr 1
   ·refine List.map_congr_left λ a ha=>?_
    have:=List.mem_range.1 ha;rw[if_neg (by omega),if_neg (by omega)]
   ·simp
  rw[e];exact ho
 ·by_cases e:a=k
  ·subst e
   rw[if_pos rfl];exact(cA hr.own (by omega)).grown hg hqp
  ·rw[if_neg e]
   exact(h.row a (by omega)).grown hg (h.ne a (by omega))
 ·by_cases e2:a=k
  ·subst e2
   rw[if_pos rfl]at e;exact Nat.lt_of_lt_of_le (hpr ad e).2 hg.size
  ·rw[if_neg e2]at e
   exact Nat.lt_of_lt_of_le (h.lt a (by omega) ad e) hg.size
 ·by_cases e2:a=k
  ·subst e2
   rw[if_pos rfl]at e;rcases hb with e3|e3
   ·rw[e3];exact hqp ad e
   ·rw[e3];intro e4;injection e4 with e4;have:=(hpr ad e).2;omega
  ·rw[if_neg e2]at e
   rcases hb with e3|e3
   ·rw[e3];exact h.ne a (by omega) ad e
   ·rw[e3];intro e4;injection e4 with e4;have:=h.lt a (by omega) ad e;omega
theorem Fb.gs{w W:World}{N:Nat}{P:Nat->Option Addr}{C:Nat->Nat}{L:Nat->List Int}{q:Option Addr}{c:Nat}(h:Fb w W N P C L q c):GsAt W q ((List.range N).map L):=by
 refine⟨λ a ha=>?_⟩;have ha':a<N:=by simpa using ha
 obtain⟨gq,cap,e,_,hl⟩:=dZ h.own (by omega);injection e with e1 e2 e3
 subst e1 e3;rw[dN L [] N a ha'];refine⟨gq,0,P a,C a,rfl,hl,?_,h.row a ha'⟩;rw[Nat.zero_add,h.own.cellAt a (by omega)];simp[ha']
def RowsQ(l:List (List Int))(w:World)(e:Ending)(w':World):Prop :=
 ∃ p c,e=.returned (.slice p l.length c)/\GsAt w' p l/\Below w.heap.size w w'
end Go.Proofs.YtkfahppdklecdaaGreatDoor.J
