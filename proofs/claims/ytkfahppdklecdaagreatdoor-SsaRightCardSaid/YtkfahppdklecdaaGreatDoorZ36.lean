import Derived.Test.YtkfahppdklecdaaGreatDoorZ35
set_option maxRecDepth 100000
set_option maxHeartbeats 16000000
namespace Go.Proofs.YtkfahppdklecdaaGreatDoor
open Go.RowKit M
structure Fx(z W X:World)(k:J.Lk)(F1:Nat->Option Wq)(s:Wq)(c:Nat)(f:Int->Int->Option Int)(lo hi:Nat->Nat):Prop where
 rv:Rv z X k F1 s.v c f lo hi
 cell:∀ j,j<11->X.cell? ⟨W.heap.size,j,none⟩=some (.int .i64 (s.now j))
 fz:∀ j,X.frozen? ⟨W.heap.size,j,none⟩=false
 lt:W.heap.size<X.heap.size
 old:∀ b,z.heap.size<=b->b<W.heap.size->X.heap[b]?=W.heap[b]?
theorem Fx.put{z W X X':World}{k:J.Lk}{F1:Nat->Option Wq}{s:Wq}{c:Nat}{f:Int->Int->Option Int}{lo hi:Nat->Nat}(h:Fx z W X k F1 s c f lo hi)(hz:k.bb<z.heap.size/\k.gp<z.heap.size/\k.mb<z.heap.size/\k.bb≠k.mb/\k.gp≠k.mb)(hw:z.heap.size<=W.heap.size){c':Nat}{f':Int->Int->Option Int}(hm:Ms X' k.mb c' f')(hg:X.grownBy X' (some k.mb)):Fx z W X' k F1 s c' f' lo hi:=by
 have hbk:∀ b,b<X.heap.size->z.heap.size<=b->X'.heap[b]?=X.heap[b]?:=λ b h1 h2=>hg.block b h1 (λ e=>by have:=Option.some.inj e;omega)
 have hlt:=h.lt;exact⟨h.rv.put hz hm hg,λ j hj=>(World.cell?_of_block (a:=⟨W.heap.size,j,none⟩) (hbk _ hlt hw)).trans (h.cell j hj),λ j=>(World.frozen?_of_block (a:=⟨W.heap.size,j,none⟩) (hbk _ hlt hw)).trans (h.fz j),Nat.lt_of_lt_of_le hlt hg.size,λ b h1 h2=>(hbk b (by omega) h1).trans (h.old b h1 h2)⟩
theorem Fx.start{z W w2:World}{k:J.Lk}{F:Nat->Option Wq}{s:Wq}{v:Int}{c:Nat}{f:Int->Int->Option Int}{lo hi:Nat->Nat}{cs:Array Value}{part wb:Nat}(h:Rv z W k F v c f lo hi)(hz:k.bb<z.heap.size/\k.gp<z.heap.size/\k.mb<z.heap.size/\k.bb≠k.mb/\k.gp≠k.mb/\k.bb≠k.gp)(hp:part<k.n)(hF:F part=none)(hcs:∀ j,j<11->∃ u,cs[j]?=some u)
  (hw:Wa (W.alloc (.cells cs 137)) w2 ⟨k.bb,k.gp,part*10,wb⟩ s (λ _=>False)):∃ lo' hi',Fx z W (putN' w2 W.heap.size s.now 11) k (updF F part s) s c f lo' hi':=by
 have hb1:Below W.heap.size W (W.alloc (.cells cs 137)):=b1;have hs1:(W.alloc (.cells cs 137)).heap.size=W.heap.size+1:=by simp
 have h1:=h.next ⟨hz.1,hz.2.1⟩ hb1;have h2:=h1.write hz hp hF hw;have hsz:=h.size
 have hwo:∀ b,b<W.heap.size+1->z.heap.size<=b->w2.heap[b]?=(W.alloc (.cells cs 137)).heap[b]?:=λ b h3 h4=>by
  obtain⟨_,_,_,_,_,hw,_⟩:=hw;refine hw.old b (by omega) ?_ ?_
  ·show b≠k.bb;omega
  ·show b≠k.gp;omega
 have hws:W.heap.size+1<=w2.heap.size:=by
  obtain⟨_,_,_,_,_,hw,_⟩:=hw;have:=hw.size;omega
 obtain⟨o1,o2,o3⟩:=putN'_oth w2 W.heap.size s.now 11
 have hc0:∀ j,j<11->∃ u,w2.cell? ⟨W.heap.size,j,none⟩=some u:=λ j hj=>by
  obtain⟨u,hu⟩:=hcs j hj;exact⟨u,(World.cell?_of_block (a:=⟨W.heap.size,j,none⟩) (hwo W.heap.size (by omega) hsz)).trans (aJ W hu)⟩
 refine⟨_,_,h2.putN' ⟨hz.1,hz.2.1,hz.2.2.1⟩ hsz (λ i hi' hne=>?_) s.now 11,(putN'_cell hc0 11 (Nat.le_refl _)).1,λ j=>?_,by omega,λ b h3 h4=>?_⟩
 ·by_cases e:i=part
  ·subst e;rw[upN_at];exact .inl (by omega)
  ·rw[cO _ _ _ e]at hne
   rw[gB _ _ _ e,gB _ _ _ e];obtain⟨t,ht⟩:=Option.ne_none_iff_exists'.1 hne;exact .inr (h.pa i hi' t ht).2.2.1
 ·rw[o3]
  refine(World.frozen?_of_block (a:=⟨W.heap.size,j,none⟩) (hwo W.heap.size (by omega) hsz)).trans (World.frozen?_alloc_new _ _ _ j)
 ·exact(o2 b (by omega)).trans ((hwo b (by omega) h3).trans (hb1.block b h4))
structure Gx(z W X3 X:World)(k:J.Lk)(regs:Nat->List Int)(U:Nat->Nat)(F1 F2:Nat->Option Wq)(ch:List Nat)(j:Nat):Prop where
 vx:Vx z X k regs U F2
 met:∀ x,F2 x≠none↔F1 x≠none∨∃ i,i<j/\Dn U k.n (ch.getD i 0) x
 kept:∀ x s,F1 x=some s->F2 x=some s
 size:X3.heap.size<=X.heap.size
 old:∀ b,z.heap.size<=b->b<X3.heap.size->X.heap[b]?=X3.heap[b]?
theorem svisitR_step{z:World}{k:J.Lk}{gh base:Nat}{regs:Nat->List Int}{P:Nat->Option Addr}{C:Nat->Nat}{U rk:Nat->Nat}{xb xl xv gl lo M:Nat}{BL:List (List Int)}{ch:Nat->List Nat}(hs:Sv z k gh base regs P C)(hg:Gd k regs)(he:Ve z k xb xl xv gl lo U BL ch)(hr:∀ x,x≠0->x<k.n->rk (U x)<rk x)(hrM:∀ x,x<k.n->rk x<M)(m:Nat)(IH:∀ r,m=r+1->VisR z k regs U rk xb xl xv M r):VisR z k regs U rk xb xl xv M m:=by
 intro part now W F hp hM hV hn hFn;obtain⟨v,c,f,lo0,hi0,V0,hrv,hrn,hfm,hcc⟩:=hV;have hF:F part=none:=hFn part .here;have hbg:=hs.bg;have hmb:=hs.mb;have hgl:=hs.gpl;have hz:k.bb<z.heap.size/\k.gp<z.heap.size/\k.mb<z.heap.size/\k.bb≠k.mb/\k.gp≠k.mb/\k.bb≠k.gp:=by omega
 have hzW:=hrv.size;have hrv1:=hrv.next (W':=W.alloc (.cells #[.int .i64 (now 0),.int .i64 (now 1),.int .i64 (now 2),.int .i64 (now 3),.int .i64 (now 4),.int .i64 (now 5),.int .i64 (now 6),.int .i64 (now 7),.int .i64 (now 8),.int .i64 (now 9),.int .i64 (now 10)] 137)) ⟨hz.1,hz.2.1⟩ b1;have hv16:=hrn.le hg;have hv0:=hrn.v0
 have HW:=aQ (by
  obtain⟨hwz,hzp,hwb,c3,c5⟩:=hs.write hg hrv1 hp hF;obtain⟨d1,d2,d3,d4,d5⟩:=hg.bks _ (hg.blk hp);have hdd:=hg.dk _ (hg.blk hp);have:=swrite_any now (k.E.getD part Te.z).op (k.E.getD part Te.z).wide _ hwz hzp hwb (by have:=hg.nN;omega) hg.lN (by omega) (by omega) (by omega) hv0 (by omega) (λ i h1 h2=>(hdd i (by omega) (by omega)).1) (λ i h1 h2=>(hdd i (by omega) (by omega)).2.2.2) (hg.ri _ (hg.blk hp)) c3 c5;exact this)
 have HVX:Hid (Rn k regs U (updF F part (cN k regs part now v)) (upV V0 part v) (cN k regs part now v).v/\Fm (updF F part (cN k regs part now v)) (fReg f part (cN k regs part now v).now 11)/\c+11<=11*sumF (λ _=>1) (updF F part (cN k regs part now v)) k.n/\∀ r,r<11->0<=(cN k regs part now v).now r/\(cN k regs part now v).now r<=65536):=aQ (by
  have hrn2:=hrn.add hg hp hF hn;have hle2:=hrn2.le hg;refine⟨hrn2,hfm.add hF,by rw[sumF_upd _ _ _ _ hF _ hp];omega,λ r hr11=>?_⟩;have hx:=(hrn2.is part _ (fC ..)).2.2.2.2.1 r hr11;omega)
 have HSQ:Hid (∀ x,cJ k.l part k.a now v (regs part) (bk k.B (part - k.a)).fr.toNat (bk k.B (part - k.a)).to.toNat (bk k.B (part - k.a)).la.toNat (k.E.getD part Te.z).op (k.E.getD part Te.z).wide=x->cN k regs part now v=x):=aQ (λ x e=>e);obtain⟨s,hsd⟩:∃ s,cJ k.l part k.a now v (regs part) (bk k.B (part - k.a)).fr.toNat (bk k.B (part - k.a)).to.toNat (bk k.B (part - k.a)).la.toNat (k.E.getD part Te.z).op (k.E.getD part Te.z).wide=s:=⟨_,rfl⟩;rw[HSQ.out _ hsd]at HVX;rw[hsd]at HW
 have HFX:Hid (∀ w2 wb,Wa (W.alloc (.cells #[.int .i64 (now 0),.int .i64 (now 1),.int .i64 (now 2),.int .i64 (now 3),.int .i64 (now 4),.int .i64 (now 5),.int .i64 (now 6),.int .i64 (now 7),.int .i64 (now 8),.int .i64 (now 9),.int .i64 (now 10)] 137)) w2 ⟨k.bb,k.gp,part*10,wb⟩ s (λ _=>False)->(∃ lo' hi',Fx z W (putN' w2 W.heap.size s.now 11) k (updF F part s) s c f lo' hi')/\(∀ j,j<11->∃ u,w2.cell? ⟨W.heap.size,j,none⟩=some u)/\(∀ j,w2.frozen? ⟨W.heap.size,j,none⟩=false)/\W.heap.size<w2.heap.size):=aQ (λ w2 wb hw=>by
  have hb1:Below W.heap.size W (W.alloc (.cells #[.int .i64 (now 0),.int .i64 (now 1),.int .i64 (now 2),.int .i64 (now 3),.int .i64 (now 4),.int .i64 (now 5),.int .i64 (now 6),.int .i64 (now 7),.int .i64 (now 8),.int .i64 (now 9),.int .i64 (now 10)] 137)):=b1;have hcs:∀ j,j<11->∃ u,(#[.int .i64 (now 0),.int .i64 (now 1),.int .i64 (now 2),.int .i64 (now 3),.int .i64 (now 4),.int .i64 (now 5),.int .i64 (now 6),.int .i64 (now 7),.int .i64 (now 8),.int .i64 (now 9),.int .i64 (now 10)]:Array Value)[j]?=some u:=λ j hj=>⟨_,Array.getElem?_eq_getElem (by simpa using hj)⟩
  refine⟨Fx.start hrv hz hp hF hcs hw,?_,?_,?_⟩;all_goals obtain⟨_,_,_,_,_,hw,_⟩:=hw
  ·intro j hj
   obtain⟨u,hu⟩:=hcs j hj;exact⟨u,(World.cell?_of_block (a:=⟨W.heap.size,j,none⟩) (hw.old W.heap.size (by simp) (by show W.heap.size≠k.bb;omega) (by show W.heap.size≠k.gp;omega))).trans (aJ W hu)⟩
  ·intro j
   exact(World.frozen?_of_block (a:=⟨W.heap.size,j,none⟩) (hw.old W.heap.size (by simp) (by show W.heap.size≠k.bb;omega) (by show W.heap.size≠k.gp;omega))).trans (World.frozen?_alloc_new _ _ _ j)
  ·have:=hw.size
   have:(W.alloc (.cells #[.int .i64 (now 0),.int .i64 (now 1),.int .i64 (now 2),.int .i64 (now 3),.int .i64 (now 4),.int .i64 (now 5),.int .i64 (now 6),.int .i64 (now 7),.int .i64 (now 8),.int .i64 (now 9),.int .i64 (now 10)] 137)).heap.size=W.heap.size+1:=by simp
   omega)
 have HENV:Hid (∀ X F2 v2 c2 f2 lo2 hi2,Rv z X k F2 v2 c2 f2 lo2 hi2->X.cell? ⟨xb,0,none⟩=some (.pointer (some ⟨k.bb,0,none⟩))/\X.cell? ⟨xl,0,none⟩=some (.slice (some ⟨gl,0,none⟩) k.n k.n)/\X.cell? ⟨xv,0,none⟩=some (.func (.func 57) #[] #[.pointer (some ⟨xb,0,none⟩),.pointer (some ⟨xl,0,none⟩),.pointer (some ⟨xv,0,none⟩)])/\X.cell? ⟨k.bb,7,none⟩=some (.map (some k.mb))/\k.bb<X.heap.size/\xb<X.heap.size/\xl<X.heap.size/\xv<X.heap.size/\J.GsB lo X (some ⟨gl,0,none⟩) BL):=aQ (λ X F2 v2 c2 f2 lo2 hi2 h=>by
  obtain⟨x1,x2⟩:=he.xbl;obtain⟨x3,x4⟩:=he.xll;obtain⟨x5,x6⟩:=he.xvl;have hlg:=he.lg;have hold:∀ b,b<z.heap.size->k.gp<b->X.cell? ⟨b,0,none⟩=z.cell? ⟨b,0,none⟩:=λ b h1 h2=>World.cell?_of_block (a:=⟨b,0,none⟩) (h.old b h1 (by omega) (by omega) (by omega))
  have hsz:=h.size;exact⟨(hold _ x1 x2).trans he.b,(hold _ x3 x4).trans he.l,(hold _ x5 x6).trans he.v,(h.ob 7 (by decide)).trans hs.c7,by omega,by omega,by omega,by omega,(he.rows.move hsz (λ b h1 h2=>h.old b h2 (by omega) (by omega) (by omega))).gsB⟩)
 obtain⟨e0,e1,e2,e3,e4,e5,e6,e7,_⟩:=HENV.out _ _ _ _ _ _ _ hrv1;obtain⟨i0,_,_,_,_,i5,_⟩:=HENV.out _ _ _ _ _ _ _ hrv;obtain⟨bb,hbb⟩:∃ b,k.bb=b:=⟨_,rfl⟩;obtain⟨nn,hnn⟩:∃ b,k.n=b:=⟨_,rfl⟩;unfold regsV;unfold regsV at HW;rw[hbb]at HW i0 e0 e3 e4;clear hrv hrv1 hrn hfm hcc hv16;go_enter Tryz.func57,Tryz.ntmps57
 go_upto_region 1 with fail
 go_cut [] from 11 (λ wx=>∃ X lo' hi',wx=X/\Hid (Fx z W X k (updF F part s) s c f lo' hi'))
 case first =>
  go_wp2_with (go_at_call 58;(with_reducible refine HW.out.mono ?_);rintro e w2 ⟨rfl,wb,_,hwa⟩;have HA:=aQ (HFX.out w2 wb (hbb ▸ hwa));obtain⟨_,g,fz,gl2⟩:=HA.out;obtain⟨u0,g0⟩:=g 0 (by omega);obtain⟨u1,g1⟩:=g 1 (by omega);obtain⟨u2,g2⟩:=g 2 (by omega);obtain⟨u3,g3⟩:=g 3 (by omega);obtain⟨u4,g4⟩:=g 4 (by omega);obtain⟨u5,g5⟩:=g 5 (by omega);obtain⟨u6,g6⟩:=g 6 (by omega);obtain⟨u7,g7⟩:=g 7 (by omega);obtain⟨u8,g8⟩:=g 8 (by omega);obtain⟨u9,g9⟩:=g 9 (by omega);obtain⟨u10,g10⟩:=g 10 (by omega);have z0:=fz 0;have z1:=fz 1;have z2:=fz 2;have z3:=fz 3;have z4:=fz 4;have z5:=fz 5;have z6:=fz 6;have z7:=fz 7;have z8:=fz 8;have z9:=fz 9;have z10:=fz 10;clear g fz hwa)
  go_meet
  obtain⟨lo',hi',hx⟩:=HA.out.1;exact⟨_,lo',hi',rfl,aQ hx⟩
 case rest =>
  obtain⟨X,lo',hi',rfl,HX0⟩:=hcut;clear HW HFX e0 e1 e2 e3 e4 e5 e6 e7 i0 i5;obtain⟨xn,hxn⟩:∃ b,W.heap.size=b:=⟨_,rfl⟩;rw[hxn];have HXN:=aQ hxn;have hzx:z.heap.size<=xn:=by omega
  have hc11:c+11<=1048000:=by
   have h1:=HVX.out.2.2.1;have h2:=sumF_le (λ _=>1) (updF F part s) k.n
   have h3:∀ n,sumA (λ _=>1) n=n:=λ n=>by induction n with
    | zero=>rfl
    | succ n ih=>show sumA _ n+1=_;rw[ih]
   have:=hg.nN;rw[h3]at h2;omega
  have HC11:=aQ hc11
  have HFC:Hid (∀ X c' f',Fx z W X k (updF F part s) s c' f' lo' hi'->X.cell? ⟨xn,0,none⟩=some (.int .i64 (s.now 0))/\X.cell? ⟨xn,1,none⟩=some (.int .i64 (s.now 1))/\X.cell? ⟨xn,2,none⟩=some (.int .i64 (s.now 2))/\X.cell? ⟨xn,3,none⟩=some (.int .i64 (s.now 3))/\X.cell? ⟨xn,4,none⟩=some (.int .i64 (s.now 4))/\X.cell? ⟨xn,5,none⟩=some (.int .i64 (s.now 5))/\X.cell? ⟨xn,6,none⟩=some (.int .i64 (s.now 6))/\X.cell? ⟨xn,7,none⟩=some (.int .i64 (s.now 7))/\X.cell? ⟨xn,8,none⟩=some (.int .i64 (s.now 8))/\X.cell? ⟨xn,9,none⟩=some (.int .i64 (s.now 9))/\X.cell? ⟨xn,10,none⟩=some (.int .i64 (s.now 10))/\xn<X.heap.size):=aQ (λ X c' f' h=>by
   have hc:=h.cell;have hl:=h.lt;rw[hxn]at hc hl;exact⟨hc 0 (by omega),hc 1 (by omega),hc 2 (by omega),hc 3 (by omega),hc 4 (by omega),hc 5 (by omega),hc 6 (by omega),hc 7 (by omega),hc 8 (by omega),hc 9 (by omega),hc 10 (by omega),hl⟩)
  obtain⟨g0,g1,g2,g3,g4,g5,g6,g7,g8,g9,g10,gl11⟩:=HFC.out _ _ _ HX0.out;have HX00:Hid (Fx z W wc k (updF F part s) s (c+0) (fReg f part s.now 0) lo' hi'):=aQ (by rw[fReg_0];exact HX0.out);clear HX0 hxn;go_wp2_with fail
  go_loopw [16] (λ v X=>∃ r:Nat,r<=11/\v=.int .i64 (r:Int)/\Hid (Fx z W X k (updF F part s) s (c+r) (fReg f part s.now r) lo' hi')) (λ v _=>11 - (intOf v).toNat)
  case atStart=>exact⟨0,Nat.zero_le _,rfl,HX00⟩
  case round =>
   clear HX00 g0 g1 g2 g3 g4 g5 g6 g7 g8 g9 g10 gl11;obtain⟨r,hr11,rfl,HX⟩:=hrel;by_cases hrl:r<11
   ·have hix:=λ X=>index_now s.now r hrl X
    unfold regsV at hix;obtain⟨e0,_,_,e3,e4,e5,_⟩:=HENV.out _ _ _ _ _ _ _ HX.out.rv;have hrI:(r:Int)<11:=by omega
    have HPX:Hid (∀ X',Ms X' k.mb (c+r+1) (sput (fReg f part s.now r) (part:Int) (r:Int) (s.now r))->wr.grownBy X' (some k.mb)->Hid (Fx z W X' k (updF F part s) s (c+(r+1)) (fReg f part s.now (r+1)) lo' hi')):=aQ (λ X' h1 h2=>aQ (by
     rw[fReg_next]at h1;exact HX.out.put ⟨hz.1,hz.2.1,hz.2.2.1,hz.2.2.2.1,hz.2.2.2.2.1⟩ hzW h1 h2))
    have hsr:=HVX.out.2.2.2 r hrl;have HSR:Hid ((lit (part:Int)).wf=true/\(lit (r:Int)).wf=true/\(lit (s.now r)).wf=true):=aQ ⟨dK (by omega) (by have:=hg.nN;omega),dK (by omega) (by omega),dK (by omega) (by omega)⟩;have HMS:=aQ HX.out.rv.ms;have hcr:c+r<1048576:=by have:=HC11.out;omega
    rw[hbb]at e0 e3 e4;clear hsr;go_wp2_with (refine wpList_ms_put rfl (.tmp 23) (.tmp 26) (.tmp 27) rfl k.mb (c+r) (fReg f part s.now r) (part:Int) (r:Int) (s.now r) rfl rfl rfl HMS.out hcr HSR.out.1 HSR.out.2.1 HSR.out.2.2 ?_;intro w7 h7 hg7;have H7:=HPX.out w7 h7 hg7;clear h7 hg7)
    go_roundw
    case rel=>exact⟨r+1,by omega,rfl,H7⟩
    case measure=>simp[intOf];omega
   ·have hre:r=11:=by omega
    have HX2:Hid (Fx z W wr k (updF F part s) s (c+11) (fReg f part s.now 11) lo' hi'):=aQ (by rw[<- hre];exact HX.out);clear hre;have hrI:¬ (r:Int)<11:=by omega
    clear HX;have HX:=HX2;clear HX2;obtain⟨e0,e1,e2,e3,e4,e5,e6,e7,_⟩:=HENV.out _ _ _ _ _ _ _ HX.out.rv;obtain⟨row,hrow⟩:∃ row,BL.getD part []=row:=⟨_,rfl⟩;have hrw:=he.row part hp;rw[hrow]at hrw;obtain⟨CH,hCH⟩:∃ l,ch part=l:=⟨_,rfl⟩;rw[hCH]at hrw;obtain⟨bg2,p,cc,hq2,hlo2,hl2,hc2,hn2,hp2⟩:=he.rows.gsB.cells part (by rw[he.len];exact hp);obtain rfl:gl=bg2:=by injection hq2 with h;injection h
    rw[hrow]at hc2 hn2;obtain⟨ml,hml⟩:∃ m,row.length=m:=⟨_,rfl⟩;rw[hml]at hc2;have hlg:=he.lg;have hmls:ml<=140737488351232:=by rw[<- hml];exact hn2.small
    have HROW:Hid (∀ X F2 v2 c2 f2 lo2 hi2,Rv z X k F2 v2 c2 f2 lo2 hi2->X.cell? ⟨gl,part,none⟩=some (.slice p ml cc)/\gl<X.heap.size/\NumsAt .i64 X p row):=aQ (λ X F2 v2 c2 f2 lo2 hi2 h=>by
     refine⟨(World.cell?_of_block (a:=⟨gl,part,none⟩) (h.old gl hl2 (by omega) (by omega) (by omega))).trans hc2,Nat.lt_of_lt_of_le hl2 h.size,⟨hn2.small,λ i hi=>?_⟩⟩;obtain⟨b,o,e,hb,hcc2⟩:=hn2.cells i hi;have h9:lo<=b:=hp2 _ e;exact⟨b,o,e,Nat.lt_of_lt_of_le hb h.size,(World.cell?_of_block (a:=⟨b,o+i,none⟩) (h.old b hb (by omega) (by omega) (by omega))).trans hcc2⟩)
    have HML:Hid (row.length=ml/\CH.length=ml):=aQ ⟨hml,by rw[<- hml,hrw,List.length_map]⟩
    have HCHI:Hid (∀ j,j<ml->row.getD j 0=((CH.getD j 0:Nat):Int)/\CH.getD j 0≠0/\CH.getD j 0<k.n/\U (CH.getD j 0)=part):=aQ (λ j hj=>by
     have hjc:j<CH.length:=by rw[HML.out.2];exact hj
     have hm:CH.getD j 0∈CH:=by rw[List.getD_eq_getElem?_getD,List.getElem?_eq_getElem hjc];exact List.getElem_mem hjc
     have h3:=(he.ch part hp (CH.getD j 0)).1 (by rw[hCH];exact hm);refine⟨?_,h3⟩;rw[hrw,List.getD_eq_getElem?_getD,List.getD_eq_getElem?_getD,List.getElem?_map,List.getElem?_eq_getElem hjc];rfl)
    have hnd:=he.nd part hp;rw[hCH]at hnd
    have HND:Hid (∀ i j,i<ml->j<ml->CH.getD i 0=CH.getD j 0->i=j):=aQ (λ i j hi hj e=>by
     have hic:i<CH.length:=by rw[HML.out.2];exact hi
     have hjc:j<CH.length:=by rw[HML.out.2];exact hj
     exact J.Dm.nodup_getD hnd hic hjc e)
    have HG0:Hid (Gx z W wr wr k regs U (updF F part s) (updF F part s) CH 0):=aQ ⟨⟨s.v,c+11,_,lo',hi',_,HX.out.rv,HVX.out.1,HVX.out.2.1,HVX.out.2.2.1⟩,λ x=>⟨.inl,λ h=>h.elim id (λ ⟨i,h,_⟩=>absurd h (Nat.not_lt_zero _))⟩,λ _ _ h=>h,Nat.le_refl _,λ _ _ _=>rfl⟩;obtain⟨g0,g1,g2,g3,g4,g5,g6,g7,g8,g9,g10,gl11⟩:=HFC.out _ _ _ HX.out;obtain⟨r0,r1,_⟩:=HROW.out _ _ _ _ _ _ _ HX.out.rv;have HKN:Hid (part<k.n):=aQ hp;have hpI:(part:Int)<(k.n:Int):=by omega
    have HXO:=aQ HX.out.old
    have HXC:Hid (∀ X:World,wr.heap.size<=X.heap.size->(∀ b,z.heap.size<=b->b<wr.heap.size->X.heap[b]?=wr.heap[b]?)->X.cell? ⟨xn,0,none⟩=some (.int .i64 (s.now 0))/\X.cell? ⟨xn,1,none⟩=some (.int .i64 (s.now 1))/\X.cell? ⟨xn,2,none⟩=some (.int .i64 (s.now 2))/\X.cell? ⟨xn,3,none⟩=some (.int .i64 (s.now 3))/\X.cell? ⟨xn,4,none⟩=some (.int .i64 (s.now 4))/\X.cell? ⟨xn,5,none⟩=some (.int .i64 (s.now 5))/\X.cell? ⟨xn,6,none⟩=some (.int .i64 (s.now 6))/\X.cell? ⟨xn,7,none⟩=some (.int .i64 (s.now 7))/\X.cell? ⟨xn,8,none⟩=some (.int .i64 (s.now 8))/\X.cell? ⟨xn,9,none⟩=some (.int .i64 (s.now 9))/\X.cell? ⟨xn,10,none⟩=some (.int .i64 (s.now 10))/\xn<X.heap.size):=aQ (λ X h1 h2=>by
     have hc:∀ o,X.cell? ⟨xn,o,none⟩=wr.cell? ⟨xn,o,none⟩:=λ o=>World.cell?_of_block (a:=⟨xn,o,none⟩) (h2 xn hzx gl11)
     exact⟨(hc _).trans g0,(hc _).trans g1,(hc _).trans g2,(hc _).trans g3,(hc _).trans g4,(hc _).trans g5,(hc _).trans g6,(hc _).trans g7,(hc _).trans g8,(hc _).trans g9,(hc _).trans g10,Nat.lt_of_lt_of_le gl11 h1⟩)
    have HCALL:Hid (∀ X F2 j,j<ml->Gx z W wr X k regs U (updF F part s) F2 CH j->Calls Tryz.prog 57 #[.int .i64 ((CH.getD j 0:Nat):Int),.agg #[.int .i64 (s.now 0),.int .i64 (s.now 1),.int .i64 (s.now 2),.int .i64 (s.now 3),.int .i64 (s.now 4),.int .i64 (s.now 5),.int .i64 (s.now 6),.int .i64 (s.now 7),.int .i64 (s.now 8),.int .i64 (s.now 9),.int .i64 (s.now 10)],.pointer (some ⟨xb,0,none⟩),.pointer (some ⟨xl,0,none⟩),.pointer (some ⟨xv,0,none⟩)] X λ e X'=>e=.returned (.tuple #[])/\∃ F3,Gx z W wr X' k regs U (updF F part s) F3 CH (j+1)):=aQ (λ X F2 j hj h=>by
     obtain⟨_,c1,c2,c3⟩:=HCHI.out j hj;have hrk:=hr _ c1 c2;rw[c3]at hrk;have hm0:m≠0:=λ e=>by have:=hrM part hp;omega
     obtain⟨r,rfl⟩:∃ r,m=r+1:=⟨m - 1,by omega⟩;have hdp:Dn U k.n part (CH.getD j 0):=.down (by rw[c3];exact .here) c1 c2
     have hnone:∀ x,Dn U k.n (CH.getD j 0) x->F2 x=none:=λ x hx=>by
      cases hF2:F2 x with
      | none=>rfl
      | some t =>
       exfalso;rcases(h.met x).1 (by rw[hF2];simp)with h1|⟨i,h1,h2⟩
       ·by_cases e:x=part
        ·subst e
         have:=hx.rank hr;omega
        ·rw[cO _ _ _ e]at h1
         exact h1 (hFn x (hdp.trans hx))
       ·obtain⟨_,d1,d2,d3⟩:=HCHI.out i (by omega)
        have:=HND.out i j (by omega) hj (Dn.apart hr ⟨d1,d2,d3⟩ ⟨c1,c2,c3⟩ h2 hx);omega
     refine(IH r rfl (CH.getD j 0) s.now X F2 c2 (by omega) h.vx (.inr ⟨c1,s,by rw[c3];exact h.kept part s (fC ..),rfl⟩) hnone).mono ?_;rintro e X' ⟨rfl,F3,h1,h2,h3,h4,h5⟩;refine⟨rfl,F3,h1,λ x=>?_,λ x t ht=>h3 x t (h.kept x t ht),Nat.le_trans h.size h4,λ b hb1 hb2=>(h5 b hb1 (Nat.lt_of_lt_of_le hb2 h.size)).trans (h.old b hb1 hb2)⟩;rw[h2 x,h.met x];constructor
     ·rintro((h6|⟨i,h6,h7⟩)|h6)
      ·exact .inl h6
      ·exact .inr ⟨i,by omega,h7⟩
      ·exact .inr ⟨j,Nat.lt_succ_self _,h6⟩
     ·rintro(h6|⟨i,h6,h7⟩)
      ·exact .inl (.inl h6)
      ·by_cases e:i=j
       ·subst e;exact .inr h7
       ·exact .inl (.inr ⟨i,by omega,h7⟩))
    have HEND:Hid (∀ X F2,Gx z W wr X k regs U (updF F part s) F2 CH ml->∃ F',Vx z X k regs U F'/\(∀ x,F' x≠none↔F x≠none∨Dn U k.n part x)/\(∀ x s,F x=some s->F' x=some s)/\W.heap.size<=X.heap.size/\∀ b,z.heap.size<=b->b<W.heap.size->X.heap[b]?=W.heap[b]?):=aQ (λ X F2 h=>by
     refine⟨F2,h.vx,λ x=>?_,λ x t ht=>h.kept x t ?_,?_,λ b h1 h2=>(h.old b h1 ?_).trans (HXO.out b h1 h2)⟩
     ·rw[h.met x]
      constructor
      ·rintro(h1|⟨i,h1,h2⟩)
       ·by_cases e:x=part
        ·subst e;exact .inr .here
        ·rw[cO _ _ _ e]at h1;exact .inl h1
       ·obtain⟨_,d1,d2,d3⟩:=HCHI.out i h1
        exact .inr (Dn.trans (.down (by rw[d3];exact .here) d1 d2) h2)
      ·rintro(h1|h1)
       ·by_cases e:x=part
        ·subst e;exact absurd hF h1
        ·rw[<- cO F part s e]at h1;exact .inl h1
       ·rcases h1.cases' with e|⟨c1,d1,d2,d3,d4⟩
        ·subst e;exact .inl (by rw[fC];simp)
        ·have hm:=(he.ch part hp c1).2 ⟨d1,d2,d3⟩
         rw[hCH]at hm;obtain⟨i,hi,e⟩:=List.getElem_of_mem hm;exact .inr ⟨i,by rw[<- HML.out.2];exact hi,by rw[List.getD_eq_getElem?_getD,List.getElem?_eq_getElem hi];simpa[e]using d4⟩
     ·by_cases e:x=part
      ·subst e;rw[hF]at ht;cases ht
      ·rw[cO _ _ _ e];exact ht
     ·have:=h.size;have:=HXN.out;omega
     ·have:=HXN.out;omega)
    clear hc2 hn2 hp2 hq2 hl2 hrw hrow hCH hml hnd HVX HFC HX;go_wp2_with fail
    go_loopw [34] (λ v X=>∃ (j:Nat) (F2:Nat->Option Wq),j<=ml/\v=.int .i64 (j:Int)/\Hid (Gx z W wr X k regs U (updF F part s) F2 CH j)) (λ v _=>ml - (intOf v).toNat)
    case atStart=>exact⟨0,_,Nat.zero_le _,rfl,HG0⟩
    case round =>
     clear HG0 g0 g1 g2 g3 g4 g5 g6 g7 g8 g9 g10 gl11 e0 e1 e2 e3 e4 e5 e6 e7 r0 r1;obtain⟨j,F2,hj,rfl,HGX⟩:=hrel;by_cases hjm:j<ml
     ·have HC:=aQ (HCALL.out _ _ j hjm HGX.out)
      have hjI:(j:Int)<(ml:Int):=by omega
      obtain⟨g0,g1,g2,g3,g4,g5,g6,g7,g8,g9,g10,gl11⟩:=HXC.out _ HGX.out.size HGX.out.old;obtain⟨v2,c2,f2,lo2,hi2,V2,hrv2,_⟩:=HGX.out.vx;obtain⟨_,_,e2,_,_,_,_,e7,_⟩:=HENV.out _ _ _ _ _ _ _ hrv2;obtain⟨_,_,hnr⟩:=HROW.out _ _ _ _ _ _ _ hrv2;obtain⟨b6,o6,rfl,hl6,e6⟩:=hnr.cells j (by rw[HML.out.1];exact hjm);rw[(HCHI.out j hjm).1]at e6;clear hrv2 hnr;generalize CH.getD j 0=c0 at *;go_wp2_with (go_at_call 57;(with_reducible refine HC.out.mono ?_);rintro e w7 ⟨rfl,F3,h3⟩;have H3:=aQ h3;clear h3)
      go_roundw
      case rel=>exact⟨j+1,F3,by omega,rfl,H3⟩
      case measure=>simp[intOf];omega
     ·obtain rfl:j=ml:=by omega
      have HF:=aQ (HEND.out _ _ HGX.out);go_wp2_with fail
      go_end0
      exact⟨rfl,HF.out⟩
end Go.Proofs.YtkfahppdklecdaaGreatDoor
namespace Go.Proofs.YtkfahppdklecdaaGreatDoor.J
open Go.RowKit
open Dm M
theorem svisitR_any{z:World}{k:Lk}{gh base:Nat}{regs:Nat->List Int}{P:Nat->Option Addr}{C:Nat->Nat}{U rk:Nat->Nat}{xb xl xv gl lo M:Nat}{BL:List (List Int)}{ch:Nat->List Nat}(hs:Sv z k gh base regs P C)(hg:Gd k regs)(he:Ve z k xb xl xv gl lo U BL ch)(hr:∀ x,x≠0->x<k.n->rk (U x)<rk x)(hrM:∀ x,x<k.n->rk x<M):∀ m,VisR z k regs U rk xb xl xv M m
 | 0=>svisitR_step hs hg he hr hrM 0 (λ r e=>by cases e)
 | m+1=>svisitR_step hs hg he hr hrM (m+1) (λ r e=>by
   obtain rfl:m=r:=by omega
   exact svisitR_any hs hg he hr hrM m)
theorem _root_.Go.Proofs.YtkfahppdklecdaaGreatDoor.Sv.next{z z':World}{k:Lk}{gh base:Nat}{regs:Nat->List Int}{P:Nat->Option Addr}{C:Nat->Nat}(h:Sv z k gh base regs P C)(hb:Below z.heap.size z z'):Sv z' k gh base regs P C:=by
 have hgl:=h.gpl;have hbl:k.bb<z.heap.size:=by have:=h.bg;omega
 have hc:∀ o,z'.cell? ⟨k.bb,o,none⟩=z.cell? ⟨k.bb,o,none⟩:=λ o=>hb.cell (p:=⟨k.bb,o,none⟩) hbl
 obtain⟨w0,h1,h2,h3,h4⟩:=h.wo
 exact⟨⟨Nat.lt_of_lt_of_le h.ld.1 hb.size,λ i hi=>(hb.cell (p:=⟨0,i,none⟩) h.ld.1).trans (h.ld.2 i hi)⟩,h.b0,h.g0,h.m0,h.bg,h.mb,Nat.lt_of_lt_of_le hgl hb.size,λ j=>(hb.frozen (p:=⟨k.bb,j,none⟩) hbl).trans (h.fb j),λ j=>(hb.frozen (p:=⟨k.gp,j,none⟩) hgl).trans (h.fg j),
  (hc 0).trans h.c0,(hc 1).trans h.c1,(hc 2).trans h.c2,(hc 3).trans h.c3,(hc 4).trans h.c4,(hc 6).trans h.c6,(hc 7).trans h.c7,h.ms.next hb,⟨w0,h1.trans (hb.mono h1.size),h2,h3,h4⟩,h.sr.next hb,h.gb,h.ghb,λ i e he j hj1 hj2 v hv=>(hb.cell (p:=⟨k.gp,_,none⟩) hgl).trans (h.cl i e he j hj1 hj2 v hv)⟩
def chK(U:Nat->Nat)(k p:Nat):List Nat:=(List.range k).filter λ c=>decide (c≠0) && decide (U c=p)
theorem chK_mem{U:Nat->Nat}{k p c:Nat}:c∈chK U k p↔c≠0/\c<k/\U c=p:=by
 unfold chK;rw[List.mem_filter,List.mem_range,Bool.and_eq_true,decide_eq_true_iff,decide_eq_true_iff];exact⟨λ h=>⟨h.2.1,h.1,h.2.2⟩,λ h=>⟨h.2.1,h.1,h.2.2⟩⟩
theorem chK_nd(U:Nat->Nat)(k p:Nat):(chK U k p).Nodup:=List.Pairwise.filter _ List.nodup_range
def belR(U:Nat->Nat)(k:Nat):Nat->List Int:=λ p=>(chK U k p).map Int.ofNat
theorem belR_0(U:Nat->Nat):belR U 0=λ _=>[]:=rfl
theorem belR_1(U:Nat->Nat):belR U (0+1)=belR U 0:=rfl
theorem belR_next(U:Nat->Nat)(k:Nat)(hk:k≠0):belR U (k+1)=up1 (belR U k) (U k) (belR U k (U k) ++ [(k:Int)]):=by
 funext p
 unfold belR chK;rw[List.range_succ,List.filter_append,List.map_append];by_cases e:p=U k
 ·subst e
  rw[cC];simp[hk]
 ·rw[bW _ _ _ e]
  have:¬ U k=p:=λ c=>e c.symm
  simp[this]
theorem belR_len(U:Nat->Nat)(k p:Nat):(belR U k p).length<=k:=by
 unfold belR chK;rw[List.length_map];exact Nat.le_trans (List.length_filter_le ..) (by simp)
def RnQ(k:Lk)(gh base:Nat)(regs:Nat->List Int)(P:Nat->Option Addr)(C:Nat->Nat)(U:Nat->Nat)(W:World)(e:Ending)(W':World):Prop :=
 e=.returned (.tuple #[])/\∃ z F,Below W.heap.size W z/\Sv z k gh base regs P C/\Vx z W' k regs U F/\∀ x,x<k.n->F x≠none
structure Bw(w2 W:World)(gl n:Nat)(r:Nat->List Int)(P:Nat->Option Addr)(C:Nat->Nat):Prop where
 sr:Sr w2.heap.size W gl (List.range n) r P C
 ch:Chg w2.heap.size (λ b=>b=gl) w2 W
theorem Bw.app{w2 W W':World}{gl n u m m' c':Nat}{r:Nat->List Int}{P:Nat->Option Addr}{C:Nat->Nat}{q':Option Addr}{l:List Int}(h:Bw w2 W gl n r P C)(hu:u<n)(ho:W'.ownsRow w2.heap.size 3 1 (.slice q' m c') l.length (aX l))(hm:m=l.length)
  (hg:W.grownBy W' (Value.slice (P u) m' (C u)).ownBlock) (hb:(Value.slice q' m c').ownBlock=(Value.slice (P u) m' (C u)).ownBlock∨(Value.slice q' m c').ownBlock=some W.heap.size):Bw w2 (W'.setCell ⟨gl,u,none⟩ (.slice q' m c')) gl n (up1 r u l) (up1 P u q') (up1 C u c') :=
 ⟨h.sr.app (List.mem_range.2 hu) ho hm hg hb,app_chg h.sr (List.mem_range.2 hu) hg h.ch h.ch.size (λ _ hk=>.inl hk) (.inr rfl) _⟩
theorem brename_any(k:Lk)(gh base:Nat)(regs:Nat->List Int)(P0:Nat->Option Addr)(C0:Nat->Nat)(U rk:Nat->Nat)(g:List (List Int))(gs:Nat)(W:World)(hs:Sv W k gh base regs P0 C0)(hg:Gd k regs)(h5:W.cell? ⟨k.bb,5,none⟩=some (.slice (some ⟨gs,0,none⟩) k.n k.n))(hgs:GsAt W (some ⟨gs,0,none⟩) g)(hgn:g.length=k.n)(hT:tot g<=4096)(hWd:Wd g)
  (hU:∀ x,x≠0->x<k.n->(idomL g).getD x 0=((U x:Nat):Int)/\U x<k.n/\rk (U x)<rk x) (M:Nat) (hM:∀ x,x<k.n->rk x<M) :
  Calls Tryz.prog 18 #[.pointer (some ⟨k.bb,0,none⟩)] W (RnQ k gh base regs P0 C0 U W):=by
 have hn0:0<k.n:=by have:=hg.nB;have:=hg.B0;omega
 have hnN:=hg.nN;have HQ:Hid (∀ z W' F,Below W.heap.size W z->Sv z k gh base regs P0 C0->Vx z W' k regs U F->(∀ x,x<k.n->F x≠none)->RnQ k gh base regs P0 C0 U W (.returned (.tuple #[])) W'):=aQ (λ z W' F h1 h2 h3 h4=>⟨rfl,z,F,h1,h2,h3,h4⟩);generalize RnQ k gh base regs P0 C0 U W=Q at *;have hbl:k.bb<W.heap.size:=by have:=hs.bg;have:=hs.gpl;omega
 have c3:=hs.c3;have HID:=aQ (λ W' (hb:Below W.heap.size W W')=>(hgn ▸ sidom_any (some ⟨gs,0,none⟩) g.length g W' (hgs.below hb) (by omega) hT hWd:Calls Tryz.prog 56 #[.slice (some ⟨gs,0,none⟩) k.n k.n] W' (OwnQ (idomL g) W')));have HIL:Hid ((idomL g).length=k.n):=aQ (by rw[idomL_len,hgn]);have HSV:=aQ hs;have HU:=aQ hU;obtain⟨n,hn⟩:∃ n,k.n=n:=⟨_,rfl⟩;obtain⟨bb,hbb⟩:∃ b,k.bb=b:=⟨_,rfl⟩;obtain⟨I,hI⟩:∃ I,idomL g=I:=⟨_,rfl⟩;unfold OwnQ at HID;rw[hn]at hn0 hnN c3 h5 HID HIL HU hM;rw[hbb]at hbl c3 h5 ⊢;rw[hI]at HID HIL HU;rw[HIL.out]at HID;have hmk:=λ W=>run_make_row' (P:=Tryz.prog) 72 34 (.slice none 0 0) 24 Tryz.underlying72 infoInts rfl .i64 .i64 n (by omega) (by omega) W
 have HNE:=aQ (And.intro hn hbb);clear hs hU hgs hgn hT hWd hn hbb hI;go_enter Tryz.func18,Tryz.ntmps18
 go_upto_region 2 with fail
 obtain⟨w1,hw1⟩:∃ X,((W.alloc (.cells #[.pointer (some ⟨bb,0,none⟩)] 70)).alloc (.cells (madeCells #[.slice none 0 0] n) 34)).alloc (.cells #[.slice (some ⟨W.heap.size+1,0,none⟩) n n] 72)=X:=⟨_,rfl⟩;rw[hw1];have hb01:Below W.heap.size W w1:=by rw[<- hw1];exact((b1).alloc (by simp) _).alloc (by simp;omega) _
 have hs1:w1.heap.size=W.heap.size+3:=by rw[<- hw1];simp
 have hcb:w1.cell? ⟨W.heap.size,0,none⟩=some (.pointer (some ⟨bb,0,none⟩)):=by
  rw[<- hw1];exact((((Below.refl _ _).alloc (Nat.le_refl _) _).alloc (by simp) _).cell (p:=⟨W.heap.size,0,none⟩) (by simp)).trans (aJ W rfl)
 have hcl:w1.cell? ⟨W.heap.size+1+1,0,none⟩=some (.slice (some ⟨W.heap.size+1,0,none⟩) n n):=by
  rw[<- hw1];have e:W.heap.size+1+1=((W.alloc (.cells #[.pointer (some ⟨bb,0,none⟩)] 70)).alloc (.cells (madeCells #[.slice none 0 0] n) 34)).heap.size:=by simp
  rw[e];exact aJ _ rfl
 have HSR1:Hid (∀ b,Sr b w1 (W.heap.size+1) (List.range n) (λ _=>[]) (λ _=>none) (λ _=>0)):=aQ (λ b=>by
  rw[<- hw1];have:=Sr.rows b (W.alloc (.cells #[.pointer (some ⟨bb,0,none⟩)] 70)) n;rw[World.size_alloc]at this;exact this.next b1)
 obtain⟨xb,hxb⟩:∃ x,W.heap.size=x:=⟨_,rfl⟩;rw[hxb]at hcb hcl HSR1 hs1 ⊢;obtain⟨gl,hgl⟩:∃ x,xb+1=x:=⟨_,rfl⟩;rw[hgl]at hcl HSR1 ⊢;obtain⟨xl,hxl⟩:∃ x,gl+1=x:=⟨_,rfl⟩;rw[hxl]at hcl ⊢;have h5':w1.cell? ⟨bb,5,none⟩=some (.slice (some ⟨gs,0,none⟩) n n):=(hb01.cell (p:=⟨bb,5,none⟩) hbl).trans h5;have hbl1:bb<w1.heap.size:=by omega
 have hxb1:xb<w1.heap.size:=by omega
 have HI1:=aQ (HID.out w1 hb01);have HB01:=aQ hb01;clear hw1 hb01 hmk c3 h5 HID;go_wp2_with (go_at_call 56;(with_reducible refine HI1.out.mono ?_);rintro e w2 ⟨gi,rfl,hown,hb2⟩;have HOW:=aQ hown;have HB2:=aQ hb2;clear hown hb2)
 have hs2:=HB2.out.size;have HR0:Hid (Bw w2 w2 gl n (belR U 0) (λ _=>none) (λ _=>0)):=aQ ⟨by rw[belR_0];exact(HSR1.out _).next HB2.out,Chg.refl _ _ _⟩;have HGI:=aQ (HOW.out.lt gi (by rw[aH];rfl))
 have HST:Hid (∀ W' r P C,Bw w2 W' gl n r P C->W'.cell? ⟨xl,0,none⟩=some (.slice (some ⟨gl,0,none⟩) n n)/\W'.cell? ⟨xb,0,none⟩=some (.pointer (some ⟨bb,0,none⟩))/\(∀ i,i<n->W'.cell? ⟨gi,i,none⟩=some (.int .i64 (I.getD i 0)))/\xl<W'.heap.size/\xb<W'.heap.size/\gi<W'.heap.size/\gl<W'.heap.size):=aQ (λ W' r P C h=>by
  have hgi:=HGI.out;have hsz:=h.ch.size;have hc:∀ b o,b<w2.heap.size->b≠gl->W'.cell? ⟨b,o,none⟩=w2.cell? ⟨b,o,none⟩:=λ b o h1 h2=>h.ch.cell h1 h2 o
  refine⟨(hc xl 0 (by omega) (by omega)).trans ((HB2.out.cell (p:=⟨xl,0,none⟩) (by show xl<_;omega)).trans hcl),(hc xb 0 (by omega) (by omega)).trans ((HB2.out.cell (p:=⟨xb,0,none⟩) (by show xb<_;omega)).trans hcb),λ i hi=>(hc gi i (by omega) (by omega)).trans ?_,by omega,by omega,by omega,by omega⟩;have ho:=HOW.out;rw[HOW.out.cellAt i (by omega)];exact cD (by rw[HIL.out];exact hi))
 have HFI:Hid (∀ W' P C (xv:Nat) (z:World),Bw w2 W' gl n (belR U n) P C->W'.heap.size=xv->Below W'.heap.size W' z->z.heap.size=xv+1->z.cell? ⟨xv,0,none⟩=some (.func (.func 57) #[] #[.pointer (some ⟨xb,0,none⟩),.pointer (some ⟨xl,0,none⟩),.pointer (some ⟨xv,0,none⟩)])->Calls Tryz.prog 57 #[.int .i64 0,.agg #[.int .i64 0,.int .i64 0,.int .i64 0,.int .i64 0,.int .i64 0,.int .i64 0,.int .i64 0,.int .i64 0,.int .i64 0,.int .i64 0,.int .i64 0],.pointer (some ⟨xb,0,none⟩),.pointer (some ⟨xl,0,none⟩),.pointer (some ⟨xv,0,none⟩)] z λ e X=>e=.returned (.tuple #[])/\Q (.returned (.tuple #[])) X):=aQ (λ W' P C xv z h hxv hbz hzs hfv=>by
  obtain⟨k1,k2,_⟩:=HST.out _ _ _ _ h;obtain⟨hnn,hbbk⟩:=HNE.out;have hsz:=h.ch.size
  have hbWz:Below W.heap.size W z:=by
   have h1:=HB01.out.trans (HB2.out.mono HB01.out.size);have h2:Below W.heap.size w2 W':=h.ch.below (by omega) (λ b e=>by have:b=gl:=e;omega);exact(h1.trans h2).trans (hbz.mono (by omega))
  have hsv:=HSV.out.next hbWz
  have hgs:GsF (xb+1) z.heap.size z (some ⟨gl,0,none⟩) (wt n (belR U n)):=by
   have h1:=(h.sr.gsB (B:=xb+1) (λ j=>Nat.le_trans (belR_len U n j) (by omega)) (by omega) (by omega)).gsF;obtain⟨W0,e1,e2,e3,e4⟩:=h1;have h2:GsF (xb+1) W'.heap.size z (some ⟨gl,0,none⟩) (wt n (belR U n)):=⟨W0,e1,e2,by omega,λ b h3 h4=>(hbz.block b h4).trans (e4 b h3 h4)⟩;exact h2.gsB.gsF
  have hve:Ve z k xb xl xv gl (xb+1) U (wt n (belR U n)) (chK U n):=by
   have hgp:=HSV.out.gpl;refine⟨(hbz.cell (p:=⟨xb,0,none⟩) (by show xb<_;omega)).trans (by rw[hbbk];exact k2),(hbz.cell (p:=⟨xl,0,none⟩) (by show xl<_;omega)).trans (by rw[hnn];exact k1),hfv,by omega,by omega,by omega,by omega,hgs,by rw[hnn];simp[wt],λ p hp=>?_,λ p _=>chK_nd U n p,λ p _ c=>by rw[hnn];exact chK_mem⟩;rw[hnn]at hp;rw[wt_get hp];rfl
  have hrk:∀ x,x≠0->x<k.n->rk (U x)<rk x:=λ x h1 h2=>(HU.out x h1 (hnn ▸ h2)).2.2
  have hV0:Vx z z k regs U (λ _=>none):=⟨0,0,λ _ _=>none,λ _=>0,λ _=>0,λ _=>0,⟨rfl,rfl,rfl,Nat.le_refl _,λ _ _ _ _ _=>rfl,λ _ _=>rfl,λ _ _=>rfl,hsv.fb,hsv.fg,hsv.c4,hsv.ms,λ _ _ _ h=>(by cases h),λ _ _ _ _ _ h=>absurd rfl h⟩,Rn.none k regs U,λ _ _ h=>(by cases h),Nat.zero_le _⟩;have:=svisitR_any hsv hg hve hrk (M:=M) (λ x hx=>hM x (hnn ▸ hx)) M 0 (λ _=>0) z (λ _=>none) (by omega) (by omega) hV0 (.inl ⟨rfl,rfl⟩) (λ _ _=>rfl);refine this.mono ?_;rintro e X ⟨rfl,F',h1,h2,h3,_⟩;refine⟨rfl,HQ.out z X F' hbWz hsv h1 (λ x hx=>(h2 x).2 (.inr ?_))⟩
  have key:∀ m x,x<k.n->rk x<m->Dn U k.n 0 x:=λ m=>by
   induction m with
   | zero=>intro x _ h;exact absurd h (Nat.not_lt_zero _)
   | succ m ih =>
    intro x hx hm;by_cases e:x=0
    ·subst e;exact .here
    ·obtain⟨_,u1,u2⟩:=HU.out x e (hnn ▸ hx)
     exact .down (ih (U x) (by omega) (by omega)) e hx
  exact key (rk x+1) x hx (Nat.lt_succ_self _))
 have HN9:Hid (∀ (x:Int) (W:World) k (e:k=W.heap.size),NumsAt .i64 (W.alloc (.cells #[.int .i64 x] 3)).drew (some ⟨k,0,none⟩) [x]):=aQ (λ x W k e=>by subst e;exact(bH (k:=.i64) W 3 [x] #[.int .i64 x] rfl (by simp)).below (aD (Below.refl _ _)));go_wp2_with fail
 go_loopw [19] (λ v W'=>∃ (x:Nat) (P:Nat->Option Addr) (C:Nat->Nat),x<=n/\v=.int .i64 (x:Int)/\Hid (Bw w2 W' gl n (belR U x) P C)) (λ v _=>n - (intOf v).toNat)
 case atStart=>exact⟨0,_,_,Nat.zero_le _,rfl,HR0⟩
 case round =>
  clear HR0 hcb hcl h5' hbl1 hxb1;obtain⟨x,P,C,hx,rfl,HR⟩:=hrel;obtain⟨k1,k2,k3,k4,k5,k6,k7⟩:=HST.out _ _ _ _ HR.out;by_cases hxn:x<n
  ·have k0:=k3 x hxn
   have hxI:(x:Int)<(n:Int):=by omega
   by_cases hx0:x=0
   ·subst hx0
    generalize I.getD 0 0=uu at *;clear HFI;go_wp2_with fail
    go_roundw
    case rel=>exact⟨0+1,P,C,by omega,rfl,by rw[belR_1];exact HR⟩
    case measure=>simp[intOf];omega
   ·obtain⟨u0,hun,_⟩:=HU.out x hx0 hxn
    rw[u0]at k0;obtain⟨u,hu⟩:∃ u,U x=u:=⟨_,rfl⟩;have HRS:Hid (belR U (x+1)=up1 (belR U x) u (belR U x u ++ [(x:Int)])):=aQ (by rw[<- hu];exact belR_next U x hx0);rw[hu]at k0 hun;have hx0I:(0:Int)<(x:Int):=by omega
    have huI:(u:Int)<(n:Int):=by omega
    have hu0:(0:Int)<=(u:Int):=by omega
    have hln:=belR_len U x u;obtain⟨y,hy⟩:∃ y,belR U x u=y:=⟨_,rfl⟩;obtain⟨zl,hz⟩:∃ z,y.length=z:=⟨_,rfl⟩;have hmem:u∈List.range n:=List.mem_range.2 hun;have HLN:Hid (y.length=zl/\(y ++ [(x:Int)]).length=zl+1/\y.length+[(x:Int)].length<=1099511627776):=aQ ⟨hz,by simp[hz],by rw[hy]at hln;simp;omega⟩;have HEN:Hid (u∈List.range n/\belR U x u=y):=aQ ⟨hmem,hy⟩;have HBN:Hid (Bw w2 (wr.alloc (.cells #[.int .i64 (x:Int)] 3)).drew gl n (belR U x) P C):=aQ ⟨HR.out.sr.next (aD b1),HR.out.ch.grown (below_grown (aD b1)) HR.out.ch.size (λ _ e=>by cases e)⟩;have HSM:Hid (Sr w2.heap.size (wr.alloc (.cells #[.int .i64 (x:Int)] 3)).drew gl (List.range n) (belR U x) P C/\Chg w2.heap.size (λ b=>b=gl) w2 (wr.alloc (.cells #[.int .i64 (x:Int)] 3)).drew):=aQ ⟨HBN.out.sr,HBN.out.ch⟩;have S0:=k1;have S1:wr.drew.cell? ⟨xl,0,none⟩=some (.slice (some ⟨gl,0,none⟩) n n):=S0;obtain⟨S6,_,_,l6,_⟩:=HST.out _ _ _ _ HBN.out;have S7:(wr.alloc (.cells #[.int .i64 (x:Int)] 3)).cell? ⟨xl,0,none⟩=some (.slice (some ⟨gl,0,none⟩) n n):=S6;have HS9:Hid (∀ W' r P C,Bw w2 W' gl n r P C->W'.cell? ⟨xl,0,none⟩=some (.slice (some ⟨gl,0,none⟩) n n)):=aQ (λ W' r P C h=>(HST.out W' r P C h).1);have hxlw:xl<w2.heap.size:=by omega
    have HAPP:Hid (∀ (w8:World) (q8:Option Addr) (c8 m8:Nat),w8.ownsRow w2.heap.size 3 1 (.slice q8 m8 c8) (zl+1) (aX (y ++ [(x:Int)]))->((wr.alloc (.cells #[.int .i64 (x:Int)] 3)).drew).grownBy w8 (Value.slice (P u) zl (C u)).ownBlock->((Value.slice q8 m8 c8).ownBlock=(Value.slice (P u) zl (C u)).ownBlock∨(Value.slice q8 m8 c8).ownBlock=some ((wr.alloc (.cells #[.int .i64 (x:Int)] 3)).drew).heap.size)->w8.cell? ⟨xl,0,none⟩=some (.slice (some ⟨gl,0,none⟩) n n)/\Bw w2 (w8.setCell ⟨gl,u,none⟩ (.slice q8 (zl+1) c8)) gl n (up1 (belR U x) u (y ++ [(x:Int)])) (up1 P u q8) (up1 C u c8)):=aQ (λ w8 q8 c8 m8 ho hg8 hb8=>by
     have hm:m8=zl+1:=by
      rcases ho.2 with ⟨_,e⟩|⟨g,cap,cur,e,_⟩
      ·omega
      ·injection e
     subst hm;refine⟨hg8.cell S6 (λ e=>?_),HBN.out.app (m':=zl) hun (by rw[HLN.out.2.1];exact ho) HLN.out.2.1.symm hg8 hb8⟩;have:=(HBN.out.sr.blk hmem (k:=xl) ((aH (P u) zl (C u)).symm.trans e.symm)).1;omega)
    have e50:=(HR.out.sr.next (aD (Below.refl _ _))).clE (j:=u) hmem hy rfl rfl hz;have e51:=HSM.out.1.clE (j:=u) hmem hy rfl rfl hz;have e52:(wr.alloc (.cells #[.int .i64 (x:Int)] 3)).cell? ⟨gl,u,none⟩=some (.slice (P u) zl (C u)):=e51;have e53:wr.cell? ⟨gl,u,none⟩=some (.slice (P u) zl (C u)):=e50;clear hln hy hz hmem u0 hu HFI hxlw hs2 k3 k2 k5;go_wp2_with fail
    refine wp_region_held_drew (S:=(λ W'=>W'.cell? ⟨xl,0,none⟩=some (.slice (some ⟨gl,0,none⟩) n n))) (by kernel_rfl) ?_ (λ hHeld=>?_)
    ·(try dsimp only);first|exact S0|exact S1|exact S6|exact S7|exact S8|exact S9
    refine aT 0 rfl (h:=aT 1 rfl (h:=aT 2 rfl (h:=aT 3 rfl (h:=aT 4 rfl (h:=?_)))));try simp only[Act.put,aA,aB,aC]
    refine aT 6 rfl (h:=?_);try simp only[Act.put,aA,aB,aC]
    refine bY 5 7 (by kernel_rfl) rfl rfl (λ K hK=>?_) (λ K hK=>?_)
    ·
     go_simp
     refine hK.out _ _ ?_ (λ hHeld=>?_)
     ·(try dsimp only);first|exact S0|exact S1|exact S6|exact S7|exact S8|exact S9
     clear hK K;try simp only[Act.put,aA,aB,aC]
     refine aK 7 (by kernel_rfl) rfl (λ K hK=>?_);go_simp
     refine hK.out _ _ ?_ (λ hHeld=>?_)
     ·(try dsimp only);first|exact S0|exact S1|exact S6|exact S7|exact S8|exact S9
     clear hK K;try simp only[Act.put,aA,aB,aC]
     refine aK 8 (by kernel_rfl) rfl (λ K hK=>?_)
     (refine bI rfl (.tmp 31) (.tmp 33) rfl rfl w2.heap.size _ [(x:Int)] y (.slice (P u) zl (C u)) 1 1 rfl (by simp[Act.eval]) (by simp[Act.eval];rfl) (HSM.out.1.ownE (j:=u) HEN.out.1 HEN.out.2 rfl rfl HLN.out.1.symm) (HN9.out _ _ _ (by first|rfl|simp)) HSM.out.2.size HLN.out.2.2 ?_;intro v8 w8 ho8 hg8 hb8;rw[HLN.out.2.1]at ho8;obtain⟨q8,c8,rfl⟩:=aW ho8;obtain⟨e8,fz8,bl8⟩:=HSM.out.1.mid (j:=u) HEN.out.1 hg8;rw[HEN.out.2,HLN.out.1]at e8;have HX0:=HAPP.out _ _ _ _ ho8 hg8 hb8;have HX:=aQ HX0.2;have S8:=HX0.1;have S9:=HS9.out _ _ _ _ HX0.2;clear ho8 hg8 hb8 HX0)
     refine hK.out _ _ ?_ (λ hHeld=>?_)
     ·(try dsimp only);first|exact S0|exact S1|exact S6|exact S7|exact S8|exact S9
     clear hK K;try simp only[Act.put,aA,aB,aC]
     refine aT 9 rfl (h:=?_);try simp only[Act.put,aA,aB,aC]
     refine aK 10 (by kernel_rfl) rfl (λ K hK=>?_);go_simp
     refine hK.out _ _ ?_ (λ hHeld=>?_)
     ·(try dsimp only);first|exact S0|exact S1|exact S6|exact S7|exact S8|exact S9
     clear hK K;try simp only[Act.put,aA,aB,aC]
     refine wpAnyH_done (by kernel_rfl) ?_ _;go_wp2_with fail
     go_roundw
     all_goals first
      | exact⟨x+1,up1 P u q8,up1 C u c8,by omega,rfl,by rw[HRS.out,HEN.out.2];exact HX⟩
      | ((simp[intOf]) <;> omega)
    ·
     go_simp
     refine hK.out _ _ ?_ (λ hHeld=>?_)
     ·(try dsimp only);first|exact S0|exact S1|exact S6|exact S7|exact S8|exact S9
     clear hK K;try simp only[Act.put,aA,aB,aC]
     refine aK 5 (by kernel_rfl) rfl (λ K hK=>?_);go_simp
     refine hK.out _ _ ?_ (λ hHeld=>?_)
     ·(try dsimp only);first|exact S0|exact S1|exact S6|exact S7|exact S8|exact S9
     clear hK K;try simp only[Act.put,aA,aB,aC]
     refine aK 8 (by kernel_rfl) rfl (λ K hK=>?_)
     (refine bI rfl (.tmp 31) (.tmp 33) rfl rfl w2.heap.size _ [(x:Int)] y (.slice (P u) zl (C u)) 1 1 rfl (by simp[Act.eval]) (by simp[Act.eval];rfl) (HSM.out.1.ownE (j:=u) HEN.out.1 HEN.out.2 rfl rfl HLN.out.1.symm) (HN9.out _ _ _ (by first|rfl|simp)) HSM.out.2.size HLN.out.2.2 ?_;intro v8 w8 ho8 hg8 hb8;rw[HLN.out.2.1]at ho8;obtain⟨q8,c8,rfl⟩:=aW ho8;obtain⟨e8,fz8,bl8⟩:=HSM.out.1.mid (j:=u) HEN.out.1 hg8;rw[HEN.out.2,HLN.out.1]at e8;have HX0:=HAPP.out _ _ _ _ ho8 hg8 hb8;have HX:=aQ HX0.2;have S8:=HX0.1;have S9:=HS9.out _ _ _ _ HX0.2;clear ho8 hg8 hb8 HX0)
     refine hK.out _ _ ?_ (λ hHeld=>?_)
     ·(try dsimp only);first|exact S0|exact S1|exact S6|exact S7|exact S8|exact S9
     clear hK K;try simp only[Act.put,aA,aB,aC]
     refine aT 9 rfl (h:=?_);try simp only[Act.put,aA,aB,aC]
     refine aK 10 (by kernel_rfl) rfl (λ K hK=>?_);go_simp
     refine hK.out _ _ ?_ (λ hHeld=>?_)
     ·(try dsimp only);first|exact S0|exact S1|exact S6|exact S7|exact S8|exact S9
     clear hK K;try simp only[Act.put,aA,aB,aC]
     refine wpAnyH_done (by kernel_rfl) ?_ _;go_wp2_with fail
     go_roundw
     all_goals first
      | exact⟨x+1,up1 P u q8,up1 C u c8,by omega,rfl,by rw[HRS.out,HEN.out.2];exact HX⟩
      | ((simp[intOf]) <;> omega)
  ·obtain rfl:x=n:=by omega
   have HF:=aQ (λ xv z=>HFI.out wr P C xv z HR.out);clear HFI k3;go_wp2_with (go_at_call 57;(with_reducible refine(HF.out _ _ rfl b1 (by simp) (aJ _ rfl)).mono ?_);rintro e X ⟨rfl,hq⟩)
   go_end0
   exact hq
end Go.Proofs.YtkfahppdklecdaaGreatDoor.J
namespace Go.Proofs.YtkfahppdklecdaaGreatDoor
open Go.RowKit M
def sF(F:Nat->Option Wq)(i:Nat):Wq:=(F i).getD (cG (λ _=>0) 0)
theorem eA{F:Nat->Option Wq}{i:Nat}(h:F i≠none):F i=some (sF F i):=by
 obtain⟨t,ht⟩:=Option.ne_none_iff_exists'.1 h;unfold sF;rw[ht];rfl
def bK(k:J.Lk)(i:Nat):List Int:=prA k.L (i:Int) k.n
def eB(F:Nat->Option Wq)(pred:List Int)(r:Int):List Int:=pred.map λ p=>(sF F p.toNat).now r.toNat
def finPh(k:J.Lk)(regs:Nat->List Int)(F:Nat->Option Wq)(i:Nat):List Ph:=(List.range (regs i).length).map λ j=>⟨(sF F i).phis.getD j 0,eB F (bK k i) ((regs i).getD j 0)⟩
def gT(k:J.Lk)(regs:Nat->List Int)(F:Nat->Option Wq)(i:Nat):Pt:=⟨bK k i,finPh k regs F i,(sF F i).nodes,⟨(k.E.getD i Te.z).op,(k.E.getD i Te.z).cond,(k.E.getD i Te.z).wide,(sF F i).ta,(sF F i).tb,(k.E.getD i Te.z).to',(k.E.getD i Te.z).els⟩⟩
def finL(k:J.Lk)(regs:Nat->List Int)(F:Nat->Option Wq):List Pt:=(List.range k.n).map (gT k regs F)
theorem bL(k:J.Lk)(regs:Nat->List Int)(F:Nat->Option Wq):(finL k regs F).length=k.n:=by simp[finL]
theorem dE(k:J.Lk)(regs:Nat->List Int)(F:Nat->Option Wq){i:Nat}(h:i<k.n):pt (finL k regs F) i=gT k regs F i:=by
 unfold pt finL;rw[List.getD_eq_getElem?_getD,List.getElem?_map,List.getElem?_range h];rfl
structure PhN(m:Nat)(b:Nat)(s:Wq):Prop where
 ph:s.phis.length=m
theorem PhN.cl(m b:Nat):Cl (PhN m b):=⟨λ _ _ h=>⟨h.ph⟩,λ s s' h _ _ e=>⟨by rw[e];exact h.ph⟩⟩
theorem phis_len:∀ (l:List Int) (s:Wq),(fL s l).phis.length=s.phis.length+l.length
 | [],_=>rfl
 | r :: l,s=>by
  show(fL (phiS s r) l).phis.length=_;rw[phis_len l (phiS s r)];show(s.phis ++ [s.v]).length+_=_;simp;omega
theorem partS_phis(k:J.Lk)(regs:Nat->List Int)(i:Nat)(now:Nat->Int)(v:Int):(cN k regs i now v).phis.length=(regs i).length:=by
 have h0:PhN (regs i).length 0 (bZ i now v (regs i)):=⟨by
  unfold bZ;rw[phis_len];split
  ·exact Nat.zero_add _
  ·exact Nat.zero_add _⟩
 unfold cN cJ;split
 ·exact((PhN.cl _ 0).block h0 ..).ph
 ·exact h0.ph
theorem nodes_opd(s:Wq)(x:In)(wide:Bool):(opdS s x wide).nodes.length<=s.nodes.length+1:=by
 unfold opdS;split
 ·omega
 ·show(s.nodes ++ [_]).length<=_;simp
theorem eN(s:Wq)(n:Nd):(putS s n).nodes.length=s.nodes.length+1:=by
 show(s.nodes ++ [_]).length=_;simp
theorem nodes_step(s:Wq)(x:In):(eC s x).nodes.length<=s.nodes.length+2:=by
 have hd:(doS s x).nodes.length<=s.nodes.length+2:=by
  have hm:∀ op wide,(aluM s x op wide).nodes.length<=s.nodes.length+1:=λ op wide=>by
   unfold aluM;split
   ·omega
   ·exact nodes_opd ..
  unfold doS;split
  ·unfold aluS
   split
   ·have:=hm (x.op - x.op % 16) (decide (x.op % 8=7));omega
   ·rw[eN];have:=hm (x.op - x.op % 16) (decide (x.op % 8=7));omega
  ·split
   ·unfold numS;rw[eN];omega
   ·split
    ·rw[eN];omega
    ·split
     ·unfold accS
      split
      ·rw[eN];omega
      ·split
       ·rw[eN];omega
       ·unfold numS;rw[eN,eN];omega
     ·omega
 unfold eC;split <;> exact hd
theorem nodes_blk(p:List In)(f:Nat)(s:Wq):∀ k:Nat,(blkS p f k s).nodes.length<=s.nodes.length+2*k
 | 0=>Nat.le_refl _
 | k+1=>by
  have h1:=nodes_blk p f s k;have h2:=nodes_step (blkS p f k s) (p.getD (f+k) z);show(eC (blkS p f k s) (p.getD (f+k) z)).nodes.length<=_;omega
theorem nodes_phis:∀ (l:List Int) (s:Wq),(fL s l).nodes=s.nodes
 | [],_=>rfl
 | r :: l,s=>by
  show(fL (phiS s r) l).nodes=_;rw[nodes_phis l (phiS s r)];rfl
theorem partS_nodes(k:J.Lk)(regs:Nat->List Int)(i:Nat)(now:Nat->Int)(v:Int):(cN k regs i now v).nodes.length<=4+2*((bk k.B (i - k.a)).to.toNat - (bk k.B (i - k.a)).fr.toNat):=by
 have h0:(bZ i now v (regs i)).nodes.length<=3:=by
  unfold bZ;rw[nodes_phis];split
  ·exact Nat.le_refl 3
  ·exact Nat.zero_le _
 unfold cN cJ;split
 ·unfold cY askS
  have h1:=nodes_blk k.l (bk k.B (i - k.a)).fr.toNat (bZ i now v (regs i)) ((bk k.B (i - k.a)).to.toNat - (bk k.B (i - k.a)).fr.toNat);split
  ·have:=nodes_opd { blkS k.l (bk k.B (i - k.a)).fr.toNat ((bk k.B (i - k.a)).to.toNat - (bk k.B (i - k.a)).fr.toNat) (bZ i now v (regs i))with at':=((bk k.B (i - k.a)).la.toNat:Int) } (k.l.getD (bk k.B (i - k.a)).la.toNat z) (k.E.getD i Te.z).wide
   have h2:({ blkS k.l (bk k.B (i - k.a)).fr.toNat ((bk k.B (i - k.a)).to.toNat - (bk k.B (i - k.a)).fr.toNat) (bZ i now v (regs i))with at':=((bk k.B (i - k.a)).la.toNat:Int) }:Wq).nodes.length=(blkS k.l (bk k.B (i - k.a)).fr.toNat ((bk k.B (i - k.a)).to.toNat - (bk k.B (i - k.a)).fr.toNat) (bZ i now v (regs i))).nodes.length:=rfl;show(opdS _ _ _).nodes.length<=_;omega
  ·split
   ·show(blkS _ _ _ _).nodes.length<=_;omega
   ·show(blkS _ _ _ _).nodes.length<=_;omega
 ·omega
theorem nodes_own{W:World}{base n c:Nat}{q:Option Addr}{L:List NdP}(ho:W.ownsRow base 111 12 (.slice q n c) n (ndsV L))(hn:L.length=n)(hs:n<=4294967296)(ha:∀ x∈L,x.1.args=[]∨NumsAt .i64 W x.2.1 x.1.args):NodesAt W q (L.map Prod.fst):=by
 refine⟨by rw[List.length_map,hn];exact hs,λ i hi=>?_⟩;rw[List.length_map,hn]at hi
 obtain⟨g,rfl⟩:∃ g,q=some ⟨g,0,none⟩:=by
  rcases ho.2 with ⟨_,h0⟩|⟨g,cap,cur,e,_⟩
  ·omega
  ·injection e with e1;exact⟨g,e1⟩
 have hl:=(ho.lt g (by rw[aH];rfl)).2;obtain⟨x,hx⟩:∃ x,L[i]?=some x:=⟨_,List.getElem?_eq_getElem (by omega)⟩
 have hp:nd (L.map Prod.fst) i=x.1:=by
  unfold nd;rw[List.getD_eq_getElem?_getD,List.getElem?_map,hx];rfl
 rw[hp];refine⟨g,x.2.1,x.2.2,rfl,hl,λ j v hv=>?_,?_⟩
 ·have hj:j<12:=by
   rcases Nat.lt_or_ge j 12 with h|h
   ·exact h
   ·rw[List.getElem?_eq_none (by simpa[ndV]using h)]at hv;cases hv
  rw[ho.cellAt (i*12+j) (by omega)];exact(flat_get (λ x:NdP=>ndV x.1 x.2.1 x.2.2) 12 (λ _=>rfl) L i j x hx hj).trans hv
 ·rcases ha x (List.mem_of_getElem? hx)with h|h
  ·rw[h];exact⟨by simp,λ i hi=>absurd hi (Nat.not_lt_zero _)⟩
  ·exact h
theorem phs_own{W:World}{base n c g:Nat}{l:List Int}(ho:W.ownsRow base 142 2 (.slice (some ⟨g,0,none⟩) n c) n (phsV l))(hn:l.length=n){i:Nat}(hi:i<n):W.cell? ⟨g,i*2,none⟩=some (.int .i64 (l.getD i 0))/\W.cell? ⟨g,i*2+1,none⟩=some (.slice none 0 0):=by
 have hx:l[i]?=some (l.getD i 0):=by rw[List.getD_eq_getElem?_getD,List.getElem?_eq_getElem (by omega)];rfl
 have h0:=ho.cellAt (i*2+0) (by omega);have h1:=ho.cellAt (i*2+1) (by omega);have f0:(phsV l)[i*2+0]?=_:=flat_get (λ i:Int=>[Value.int .i64 i,.slice none 0 0]) 2 (λ _=>rfl) l i 0 _ hx (by omega);have f1:(phsV l)[i*2+1]?=_:=flat_get (λ i:Int=>[Value.int .i64 i,.slice none 0 0]) 2 (λ _=>rfl) l i 1 _ hx (by omega);exact⟨h0.trans f0,h1.trans f1⟩
structure Cs(z W:World)(k:J.Lk)(gh:Nat)(regs:Nat->List Int)(F:Nat->Option Wq)(f:Int->Int->Option Int)(c:Nat)(Q:Nat->Option Addr)(CF:Nat->Nat)(PP:Nat->Option Addr)(PC:Nat->Nat)(RP:Nat->Option Addr)(RC:Nat->Nat):Prop where
 zW:z.heap.size<=W.heap.size
 bz:k.bb<z.heap.size
 gz:k.gp<z.heap.size
 mz:k.mb<z.heap.size
 hz:gh<z.heap.size
 c3:W.cell? ⟨k.bb,3,none⟩=some (.slice (some ⟨k.gp,0,none⟩) k.n k.cap)
 c6:W.cell? ⟨k.bb,6,none⟩=some (.slice (some ⟨gh,0,none⟩) k.n k.n)
 c7:W.cell? ⟨k.bb,7,none⟩=some (.map (some k.mb))
 pc:∀ i,i<k.n->W.cell? ⟨k.gp,i*10,none⟩=some (.slice (PP i) (bK k i).length (PC i))
 pn:∀ i,i<k.n->NumsAt .i64 W (PP i) (bK k i)
 pb:∀ i,i<k.n->∀ ad,PP i=some ad->k.gp<ad.block/\ad.block<z.heap.size
 fc:∀ i,i<k.n->W.cell? ⟨k.gp,i*10+1,none⟩=some (.slice (Q i) (regs i).length (CF i))
 qs:∀ i,i<k.n->0<(regs i).length->∃ g,Q i=some ⟨g,0,none⟩
 qb:∀ i,i<k.n->∀ b,(Q i).map Addr.block=some b->z.heap.size<=b/\b<W.heap.size
 qd:∀ i j,i<k.n->j<k.n->i≠j->∀ b,(Q i).map Addr.block=some b->(Q j).map Addr.block≠some b
 qz:∀ i,i<k.n->∀ g,Q i=some ⟨g,0,none⟩->∀ o,W.frozen? ⟨g,o,none⟩=false
 qv:∀ i,i<k.n->∀ g,Q i=some ⟨g,0,none⟩->∀ j,j<(regs i).length->W.cell? ⟨g,j*2+1,none⟩=some (.slice none 0 0)
 rc:∀ i,i<k.n->W.cell? ⟨gh,i,none⟩=some (.slice (RP i) (regs i).length (RC i))
 rn:∀ i,i<k.n->NumsAt .i64 W (RP i) (regs i)
 rb:∀ i,i<k.n->∀ ad,RP i=some ad->ad.block<z.heap.size
 ms:Ms W k.mb c f
 fm:Fm F f
 all:∀ x,x<k.n->F x≠none
 nN:k.n<=999
 pl:∀ i,i<k.n->(bK k i).length<=4096/\∀ p∈bK k i,0<=p/\p<(k.n:Int)
 rg:∀ i,i<k.n->(∀ r∈regs i,0<=r/\r<=10)/\(regs i).length<=11
def dnB(i0 j0 i j:Nat):Prop:=i<i0∨(i=i0/\j<j0)
structure Cx(W X:World)(k:J.Lk)(regs:Nat->List Int)(F:Nat->Option Wq)(Q:Nat->Option Addr)(i0 j0 B:Nat)(PF:Nat->Nat->Option Addr):Prop where
 os:X.os=W.os
 tape:X.tape=W.tape
 output:X.output=W.output
 size:W.heap.size<=X.heap.size
 bX:B<=X.heap.size
 old:∀ b,b<W.heap.size->(∀ i,i<k.n->(Q i).map Addr.block≠some b)->X.heap[b]?=W.heap[b]?
 qc:∀ i,i<k.n->∀ g,Q i=some ⟨g,0,none⟩->∀ o,(∀ j,dnB i0 j0 i j->j<(regs i).length->o≠j*2+1)->X.cell? ⟨g,o,none⟩=W.cell? ⟨g,o,none⟩
 qz:∀ i,i<k.n->∀ g,Q i=some ⟨g,0,none⟩->∀ o,X.frozen? ⟨g,o,none⟩=false
 dn:∀ i,i<k.n->∀ j,j<(regs i).length->dnB i0 j0 i j->∀ g,Q i=some ⟨g,0,none⟩->X.cell? ⟨g,j*2+1,none⟩=some (.slice (PF i j) (bK k i).length (bK k i).length)/\NumsAt .i64 X (PF i j) (eB F (bK k i) ((regs i).getD j 0))/\∀ ad,PF i j=some ad->W.heap.size<=ad.block/\ad.block<B
section
variable {z W X X':World} {k:J.Lk} {gh:Nat} {regs:Nat->List Int} {F:Nat->Option Wq} {f:Int->Int->Option Int} {c:Nat} {Q:Nat->Option Addr} {CF:Nat->Nat} {PP:Nat->Option Addr} {PC:Nat->Nat} {RP:Nat->Option Addr} {RC:Nat->Nat} {i0 j0 B:Nat} {PF:Nat->Nat->Option Addr}
theorem Cx.start(hc:Cs z W k gh regs F f c Q CF PP PC RP RC)(PF:Nat->Nat->Option Addr):Cx W W k regs F Q 0 0 W.heap.size PF :=
 ⟨rfl,rfl,rfl,Nat.le_refl _,Nat.le_refl _,λ _ _ _=>rfl,λ _ _ _ _ _ _=>rfl,hc.qz,λ i _ j _ h=>by rcases h with h|⟨_,h⟩ <;> exact absurd h (Nat.not_lt_zero _)⟩
theorem Cx.at(h:Cx W X k regs F Q i0 j0 B PF)(hc:Cs z W k gh regs F f c Q CF PP PC RP RC):X.cell? ⟨k.bb,3,none⟩=some (.slice (some ⟨k.gp,0,none⟩) k.n k.cap)/\X.cell? ⟨k.bb,6,none⟩=some (.slice (some ⟨gh,0,none⟩) k.n k.n)/\X.cell? ⟨k.bb,7,none⟩=some (.map (some k.mb))/\k.bb<X.heap.size/\k.gp<X.heap.size/\gh<X.heap.size/\Ms X k.mb c f /\
  (∀ i,i<k.n->X.cell? ⟨k.gp,i*10,none⟩=some (.slice (PP i) (bK k i).length (PC i))/\X.cell? ⟨k.gp,i*10+1,none⟩=some (.slice (Q i) (regs i).length (CF i))/\X.cell? ⟨gh,i,none⟩=some (.slice (RP i) (regs i).length (RC i))/\NumsAt .i64 X (PP i) (bK k i)/\NumsAt .i64 X (RP i) (regs i)):=by
 have hzW:=hc.zW;have hs:=h.size;have hb:=hc.bz;have hg:=hc.gz;have hh:=hc.hz;have ho:∀ b,b<z.heap.size->X.heap[b]?=W.heap[b]?:=λ b hb=>h.old b (by omega) (λ i hi e=>by have:=(hc.qb i hi b e).1;omega)
 have hcl:∀ b o,b<z.heap.size->X.cell? ⟨b,o,none⟩=W.cell? ⟨b,o,none⟩:=λ b o hb=>World.cell?_of_block (a:=⟨b,o,none⟩) (ho b hb)
 exact⟨(hcl _ _ hc.bz).trans hc.c3,(hcl _ _ hc.bz).trans hc.c6,(hcl _ _ hc.bz).trans hc.c7,by omega,by omega,by omega,hc.ms.block (ho _ hc.mz),λ i hi=>⟨(hcl _ _ hc.gz).trans (hc.pc i hi),(hcl _ _ hc.gz).trans (hc.fc i hi),(hcl _ _ hc.hz).trans (hc.rc i hi),cT (hc.pn i hi) hs (λ ad e=>ho _ (hc.pb i hi ad e).2),cT (hc.rn i hi) hs (λ ad e=>ho _ (hc.rb i hi ad e))⟩⟩
theorem Cx.next(h:Cx W X k regs F Q i0 j0 B PF)(hc:Cs z W k gh regs F f c Q CF PP PC RP RC)(hb:Below X.heap.size X X'):Cx W X' k regs F Q i0 j0 B PF:=by
 have hs:=h.size;have hq:∀ i,i<k.n->∀ g,Q i=some ⟨g,0,none⟩->g<X.heap.size:=λ i hi g e=>by have:=(hc.qb i hi g (by rw[e];rfl)).2;omega
 exact⟨hb.os.trans h.os,hb.tape.trans h.tape,hb.output.trans h.output,Nat.le_trans hs hb.size,Nat.le_trans h.bX hb.size,λ b h1 h2=>(hb.block b (by omega)).trans (h.old b h1 h2),λ i hi g e o ho=>(hb.cell (p:=⟨g,o,none⟩) (hq i hi g e)).trans (h.qc i hi g e o ho),λ i hi g e o=>(hb.frozen (p:=⟨g,o,none⟩) (hq i hi g e)).trans (h.qz i hi g e o),
  λ i hi j hj hd g e=>by
   obtain⟨h1,h2,h3⟩:=h.dn i hi j hj hd g e;exact⟨(hb.cell (p:=⟨g,_,none⟩) (hq i hi g e)).trans h1,h2.below hb,h3⟩⟩
theorem Cx.tset(h:Cx W X k regs F Q i0 j0 B PF)(hc:Cs z W k gh regs F f c Q CF PP PC RP RC){b:Nat}(hb:B<=b)(hbW:W.heap.size<=b)(j:Nat)(x:Value):Cx W (X.setCell ⟨b,j,none⟩ x) k regs F Q i0 j0 B PF:=by
 have hs:=h.size;have hbk:∀ b',b'≠b->(X.setCell ⟨b,j,none⟩ x).heap[b']?=X.heap[b']?:=λ b' hb'=>heap_setCell_other X ⟨b,j,none⟩ b' x hb'
 have hsz:(X.setCell ⟨b,j,none⟩ x).heap.size=X.heap.size:=by simp[World.setCell]
 have hq:∀ i,i<k.n->∀ g,Q i=some ⟨g,0,none⟩->g≠b:=λ i hi g e=>by have:=(hc.qb i hi g (by rw[e];rfl)).2;omega
 exact⟨h.os,h.tape,h.output,by rw[hsz];exact hs,by rw[hsz];exact h.bX,λ b' h1 h2=>(hbk b' (by omega)).trans (h.old b' h1 h2),λ i hi g e o ho=>(bO (aM (.inl (hq i hi g e)))).trans (h.qc i hi g e o ho),λ i hi g e o=>(World.frozen?_setCell ..).trans (h.qz i hi g e o),
  λ i hi j' hj hd g e=>by
   obtain⟨h1,h2,h3⟩:=h.dn i hi j' hj hd g e;exact⟨(bO (aM (.inl (hq i hi g e)))).trans h1,cT h2 (by rw[hsz];exact Nat.le_refl _) (λ ad e2=>hbk _ (by have:=(h3 ad e2).2;omega)),h3⟩⟩
theorem Cx.put(h:Cx W X k regs F Q i0 j0 B PF)(hc:Cs z W k gh regs F f c Q CF PP PC RP RC)(hi:i0<k.n)(hj:j0<(regs i0).length){g:Nat}(hg:Q i0=some ⟨g,0,none⟩){q:Option Addr}(hn:NumsAt .i64 X q (eB F (bK k i0) ((regs i0).getD j0 0)))(hq:∀ ad,q=some ad->W.heap.size<=ad.block/\ad.block<X.heap.size) :
  Cx W (X.setCell ⟨g,j0*2+1,none⟩ (.slice q (bK k i0).length (bK k i0).length)) k regs F Q i0 (j0+1) X.heap.size (λ i j=>if i=i0/\j=j0 then q else PF i j):=by
 have hs:=h.size;have hbX:=h.bX;have hgW:=(hc.qb i0 hi g (by rw[hg];rfl));have hbk:∀ b',b'≠g->(X.setCell ⟨g,j0*2+1,none⟩ (.slice q (bK k i0).length (bK k i0).length)).heap[b']?=X.heap[b']?:=λ b' hb'=>heap_setCell_other X ⟨g,j0*2+1,none⟩ b' _ hb'
 have hsz:(X.setCell ⟨g,j0*2+1,none⟩ (.slice q (bK k i0).length (bK k i0).length)).heap.size=X.heap.size:=by simp[World.setCell]
 have hne:∀ i,i<k.n->∀ g',Q i=some ⟨g',0,none⟩->i≠i0->g'≠g:=λ i hi' g' e hne e2=>by
  subst e2;exact hc.qd i i0 hi' hi hne g' (by rw[e];rfl) (by rw[hg];rfl)
 have hold:X.cell? ⟨g,j0*2+1,none⟩=some (.slice none 0 0):=(h.qc i0 hi g hg _ (λ j hd _ e=>by
  rcases hd with hd|⟨_,hd⟩
  ·omega
  ·omega)).trans (hc.qv i0 hi g hg j0 hj)
 refine⟨h.os,h.tape,h.output,by rw[hsz];exact hs,by rw[hsz];exact Nat.le_refl _,λ b' h1 h2=>(hbk b' (λ e=>h2 i0 hi (by rw[hg,e];rfl))).trans (h.old b' h1 h2),λ i hi' g' e o ho=>?_,λ i hi' g' e o=>(World.frozen?_setCell ..).trans (h.qz i hi' g' e o),λ i hi' j hj' hd g' e=>?_⟩
 ·by_cases ei:i=i0
  ·subst ei
   rw[hg]at e;injection e with e
   injection e with e
   subst e;have h1:o≠j0*2+1:=ho j0 (.inr ⟨rfl,Nat.lt_succ_self _⟩) hj;exact(bO (aM (.inr h1))).trans (h.qc i hi' g hg o (λ j hd hjl=>ho j (hd.imp id (λ ⟨a,b⟩=>⟨a,by omega⟩)) hjl))
  ·exact(bO (aM (.inl (hne i hi' g' e ei)))).trans (h.qc i hi' g' e o (λ j hd hjl=>ho j (hd.imp id (λ ⟨a,b⟩=>absurd a ei)) hjl))
 ·by_cases ej:i=i0/\j=j0
  ·obtain⟨rfl,rfl⟩:=ej
   rw[hg]at e;injection e with e
   injection e with e
   subst e;simp only[and_self,if_true];exact⟨World.cell?_setCell_same _ _ _ hold,cT hn (by rw[hsz];exact Nat.le_refl _) (λ ad e2=>hbk _ (by have:=(hq ad e2).1;omega)),hq⟩
  ·rw[if_neg ej]
   have hd':dnB i0 j0 i j:=hd.imp id (λ ⟨a,b⟩=>⟨a,by have:j≠j0:=λ e=>ej ⟨a,e⟩;omega⟩);obtain⟨h1,h2,h3⟩:=h.dn i hi' j hj' hd' g' e;refine⟨(bO (aM ?_)).trans h1,cT h2 (by rw[hsz];exact Nat.le_refl _) (λ ad e2=>hbk _ (by have:=(h3 ad e2).1;omega)),λ ad e2=>⟨(h3 ad e2).1,by have:=(h3 ad e2).2;omega⟩⟩;by_cases ei:i=i0
   ·subst ei
    have:j≠j0:=λ e=>ej ⟨rfl,e⟩
    exact .inr (by omega)
   ·exact .inl (hne i hi' g' e ei)
theorem Cx.part(h:Cx W X k regs F Q i0 (regs i0).length B PF):Cx W X k regs F Q (i0+1) 0 B PF :=
 ⟨h.os,h.tape,h.output,h.size,h.bX,h.old,λ i hi g e o ho=>h.qc i hi g e o (λ j hd hj=>ho j (hd.elim (λ a=>.inl (by omega)) (λ ⟨a,_⟩=>.inl (by omega))) hj),h.qz,λ i hi j hj hd g e=>h.dn i hi j hj (by
  rcases hd with hd|⟨_,hd⟩
  ·by_cases e:i=i0
   ·subst e;exact .inr ⟨rfl,hj⟩
   ·exact .inl (by omega)
  ·exact absurd hd (Nat.not_lt_zero _)) g e⟩
end
end Go.Proofs.YtkfahppdklecdaaGreatDoor
