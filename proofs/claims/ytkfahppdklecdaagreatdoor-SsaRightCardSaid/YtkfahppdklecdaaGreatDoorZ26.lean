import Derived.Test.YtkfahppdklecdaaGreatDoorZ24
import Derived.Test.YtkfahppdklecdaaGreatDoorZ25
import Derived.Test.YtkfahppdklecdaaGreatDoorZ16
set_option maxRecDepth 100000
set_option maxHeartbeats 16000000
namespace Go.Proofs.YtkfahppdklecdaaGreatDoor
open Go.RowKit M
theorem infoNd:(Tryz.prog.info? 111).map (λ i=>(i.zero,i.size,i.bytes))=some (some (.agg #[.int .i64 0,.int .i64 0,.int .i64 0,.bool false,.int .i64 0,.int .i64 0,.int .u64 0,.int .i64 0,.int .i64 0,.bool false,.slice none 0 0,.int .i64 0]),12,112):=by kernel_rfl
theorem infoPh:(Tryz.prog.info? 142).map (λ i=>(i.zero,i.size,i.bytes))=some (some (.agg #[.int .i64 0,.slice none 0 0]),2,32):=by kernel_rfl
theorem fX{w:World}{ops:Array Oper}{o:Oper}{a:Act}{K:Act->World->Prop}{Q:Exit->Act->World->Prop}{E:Prop}(hg:o.guard=none)(s x:Operand)(hop:o.op=Op.call { callee:=Callee.builtin Builtin.append,args:=#[s,x],argTypes:=#[36,36] })(hty:o.type=36)
  (base:Nat) (ad:Addr) (news xs:List Value) (v:Value) (n c:Nat) (hs:a.eval s=v) (hx:a.eval x=.slice (some ad) 1 c) (h1:w.ownsRow base 111 12 v n xs) (hl:news.length=1*12) (hN:∀ j u,news[j]?=some u->w.cell? (ad.add j)=some u) (h1c:∀ u∈news,u.oneCell'=true) (hb:base<=w.heap.size) (hm:n<=4194304)
  (hK:∀ v' w',w'.ownsRow base 111 12 v' (n+1) (xs ++ news)->w.grownBy w' v.ownBlock->(v'.ownBlock=v.ownBlock∨v'.ownBlock=some w.heap.size)->K (a.put o.dst v') w') :
  if Region.wanted o (yielded ops a.tmps)=true then Oper.wp Tryz.prog o a w K Q else E:=by
 have hw:Region.wanted o (yielded ops a.tmps)=true:=by simp[Region.wanted,hg]
 rw[if_pos hw];obtain⟨i5,h5,g5,s5,b5⟩:=info_parts infoNd;obtain⟨v',w',hrun,r1,r2,_,r4⟩:=run_append_own_at (P:=Tryz.prog) w base 36 36 111 i5 _ 12 112 Tryz.underlying36 h5 g5 s5 b5 rfl (by decide) v n xs h1 ad 1 c news hl hN h1c (by simp only[maxLen];omega) (by omega) hb;unfold Oper.wp;simp[execOp,hop,resolve,invoke,builtin,hs,hx,hty,hrun,Result.andThen];exact hK v' w' r1 r2 r4
theorem fW{w:World}{ops:Array Oper}{o:Oper}{a:Act}{K:Act->World->Prop}{Q:Exit->Act->World->Prop}{E:Prop}(hg:o.guard=none)(s x:Operand)(hop:o.op=Op.call { callee:=Callee.builtin Builtin.append,args:=#[s,x],argTypes:=#[35,35] })(hty:o.type=35)
  (base:Nat) (ad:Addr) (news xs:List Value) (v:Value) (n c:Nat) (hs:a.eval s=v) (hx:a.eval x=.slice (some ad) 1 c) (h1:w.ownsRow base 142 2 v n xs) (hl:news.length=1*2) (hN:∀ j u,news[j]?=some u->w.cell? (ad.add j)=some u) (h1c:∀ u∈news,u.oneCell'=true) (hb:base<=w.heap.size) (hm:n<=4194304)
  (hK:∀ v' w',w'.ownsRow base 142 2 v' (n+1) (xs ++ news)->w.grownBy w' v.ownBlock->(v'.ownBlock=v.ownBlock∨v'.ownBlock=some w.heap.size)->K (a.put o.dst v') w') :
  if Region.wanted o (yielded ops a.tmps)=true then Oper.wp Tryz.prog o a w K Q else E:=by
 have hw:Region.wanted o (yielded ops a.tmps)=true:=by simp[Region.wanted,hg]
 rw[if_pos hw];obtain⟨i5,h5,g5,s5,b5⟩:=info_parts infoPh;obtain⟨v',w',hrun,r1,r2,_,r4⟩:=run_append_own_at (P:=Tryz.prog) w base 35 35 142 i5 _ 2 32 Tryz.underlying35 h5 g5 s5 b5 rfl (by decide) v n xs h1 ad 1 c news hl hN h1c (by simp only[maxLen];omega) (by omega) hb;unfold Oper.wp;simp[execOp,hop,resolve,invoke,builtin,hs,hx,hty,hrun,Result.andThen];exact hK v' w' r1 r2 r4
structure Kx where
 bb:Nat
 gp:Nat
 o:Nat
 wb:Nat
abbrev NdP:=Nd×Option Addr×Nat
def ndsV(L:List NdP):List Value:=L.flatMap λ x=>ndV x.1 x.2.1 x.2.2
def phsV(l:List Int):List Value:=l.flatMap λ i=>[.int .i64 i,.slice none 0 0]
theorem ndsV_app(L:List NdP)(x:NdP):ndsV (L ++ [x])=ndsV L ++ ndV x.1 x.2.1 x.2.2:=by simp[ndsV]
theorem phsV_app(l:List Int)(i:Int):phsV (l ++ [i])=phsV l ++ [.int .i64 i,.slice none 0 0]:=by simp[phsV]
structure Wt(Z W:World)(k:Kx)(s:Wq)(L:List NdP)(qn:Option Addr)(cn:Nat)(qf:Option Addr)(cf:Nat):Prop where
 os:W.os=Z.os
 tape:W.tape=Z.tape
 output:W.output=Z.output
 size:Z.heap.size<=W.heap.size
 old:∀ b,b<Z.heap.size->b≠k.bb->b≠k.gp->W.heap[b]?=Z.heap[b]?
 ob:∀ j,j≠4->W.cell? ⟨k.bb,j,none⟩=Z.cell? ⟨k.bb,j,none⟩
 og:∀ j,j≠k.o+1->j≠k.o+2->j≠k.o+6->j≠k.o+7->W.cell? ⟨k.gp,j,none⟩=Z.cell? ⟨k.gp,j,none⟩
 bbl:k.bb<Z.heap.size
 gpl:k.gp<Z.heap.size
 bg:k.bb≠k.gp
 wz:Z.heap.size<=k.wb
 wl:k.wb<W.heap.size
 fb:∀ j,W.frozen? ⟨k.bb,j,none⟩=false
 fg:∀ j,W.frozen? ⟨k.gp,j,none⟩=false
 fw:∀ j,W.frozen? ⟨k.wb,j,none⟩=false
 cv:W.cell? ⟨k.bb,4,none⟩=some (.int .i64 s.v)
 w0:W.cell? ⟨k.wb,0,none⟩=some (.pointer (some ⟨k.bb,0,none⟩))
 w1:W.cell? ⟨k.wb,1,none⟩=some (.pointer (some ⟨k.gp,k.o,none⟩))
 wn:∀ r,r<11->W.cell? ⟨k.wb,2+r,none⟩=some (.int .i64 (s.now r))
 w13:W.cell? ⟨k.wb,13,none⟩=some (.int .i64 s.at')
 ef:W.cell? ⟨k.gp,k.o+1,none⟩=some (.slice qf s.phis.length cf)
 en:W.cell? ⟨k.gp,k.o+2,none⟩=some (.slice qn s.nodes.length cn)
 ta:W.cell? ⟨k.gp,k.o+6,none⟩=some (.int .i64 s.ta)
 tb:W.cell? ⟨k.gp,k.o+7,none⟩=some (.int .i64 s.tb)
 nodes:L.map Prod.fst=s.nodes
 on:W.ownsRow Z.heap.size 111 12 (.slice qn s.nodes.length cn) s.nodes.length (ndsV L)
 of:W.ownsRow Z.heap.size 142 2 (.slice qf s.phis.length cf) s.phis.length (phsV s.phis)
 nn:qn.map Addr.block≠some k.wb
 nf:qf.map Addr.block≠some k.wb
 nnf:qn=none∨qn.map Addr.block≠qf.map Addr.block
 ar:∀ x∈L,x.1.args=[]∨NumsAt .i64 W x.2.1 x.1.args/\∀ ad,x.2.1=some ad->Z.heap.size<=ad.block/\ad.block<W.heap.size/\ad.block≠k.wb/\qn.map Addr.block≠some ad.block/\qf.map Addr.block≠some ad.block
def Tok(Z W:World)(k:Kx)(L:List NdP)(qn qf:Option Addr)(T:Nat->Prop):Prop:=∀ b,T b->Z.heap.size<=b/\b<W.heap.size/\b≠k.wb/\qn.map Addr.block≠some b/\qf.map Addr.block≠some b/\∀ x∈L,x.1.args=[]∨∀ ad,x.2.1=some ad->ad.block≠b
def Wa(Z W:World)(k:Kx)(s:Wq)(T:Nat->Prop):Prop:=∃ L qn cn qf cf,Wt Z W k s L qn cn qf cf/\Tok Z W k L qn qf T
structure Kt(T:Nat->Prop)(w w':World):Prop where
 size:w.heap.size<=w'.heap.size
 blk:∀ b,T b->w'.heap[b]?=w.heap[b]?
theorem Kt.refl(T:Nat->Prop)(w:World):Kt T w w:=⟨Nat.le_refl _,λ _ _=>rfl⟩
theorem Kt.trans{T:Nat->Prop}{a b c:World}(h:Kt T a b)(h2:Kt T b c):Kt T a c:=⟨Nat.le_trans h.size h2.size,λ x hx=>(h2.blk x hx).trans (h.blk x hx)⟩
theorem Kt.mono{T T':Nat->Prop}{a b:World}(h:Kt T a b)(ht:∀ x,T' x->T x):Kt T' a b:=⟨h.size,λ x hx=>h.blk x (ht x hx)⟩
theorem Kt.cell{T:Nat->Prop}{a b:World}(h:Kt T a b){x:Nat}(hx:T x){o:Nat}{v:Value}(hc:a.cell? ⟨x,o,none⟩=some v):b.cell? ⟨x,o,none⟩=some v:=(World.cell?_of_block (a:=⟨x,o,none⟩) (h.blk x hx)).trans hc
theorem Kt.fz{T:Nat->Prop}{a b:World}(h:Kt T a b){x:Nat}(hx:T x){o:Nat}:b.frozen? ⟨x,o,none⟩=a.frozen? ⟨x,o,none⟩:=World.frozen?_of_block (a:=⟨x,o,none⟩) (h.blk x hx)
section
variable {Z W W':World} {k:Kx} {s:Wq} {L:List NdP} {qn qf:Option Addr} {cn cf:Nat}
theorem NumsAt.grown'{kk:IntKind}{w w':World}{q:Option Addr}{l:List Int}{row:Option Nat}(h:NumsAt kk w q l)(hg:w.grownBy w' row)(hn:∀ ad,q=some ad->row≠some ad.block):NumsAt kk w' q l :=
 ⟨h.small,λ i hi=>by
  obtain⟨b,o,hq,hb,hc⟩:=h.cells i hi;exact⟨b,o,hq,Nat.lt_of_lt_of_le hb hg.size,(World.cell?_of_block (a:=⟨b,o+i,none⟩) (hg.block b hb (λ e=>hn _ hq e.symm))).trans hc⟩⟩
theorem Wt.bw(h:Wt Z W k s L qn cn qf cf):k.bb≠k.wb/\k.gp≠k.wb/\k.bb<W.heap.size/\k.gp<W.heap.size:=by
 have:=h.bbl;have:=h.gpl;have:=h.wz;have:=h.size;omega
theorem Wt.qnz(h:Wt Z W k s L qn cn qf cf){b:Nat}(e:qn.map Addr.block=some b):Z.heap.size<=b/\b<W.heap.size:=h.on.lt b (by rw[aH];exact e)
theorem Wt.qfz(h:Wt Z W k s L qn cn qf cf){b:Nat}(e:qf.map Addr.block=some b):Z.heap.size<=b/\b<W.heap.size:=h.of.lt b (by rw[aH];exact e)
theorem Wt.next(h:Wt Z W k s L qn cn qf cf)(hb:Below W.heap.size W W'):Wt Z W' k s L qn cn qf cf:=by
 obtain⟨b1',b2',b3,b4⟩:=h.bw;have hc:∀ {b o v},b<W.heap.size->W.cell? ⟨b,o,none⟩=some v->W'.cell? ⟨b,o,none⟩=some v:=λ {b o v} hl e=>(hb.cell (p:=⟨b,o,none⟩) hl).trans e
 exact⟨hb.os.trans h.os,hb.tape.trans h.tape,hb.output.trans h.output,Nat.le_trans h.size hb.size,λ b hb' h1 h2=>(hb.block b (Nat.lt_of_lt_of_le hb' h.size)).trans (h.old b hb' h1 h2),
  λ j hj=>(hb.cell (p:=⟨k.bb,j,none⟩) b3).trans (h.ob j hj),λ j h1 h2 h3 h4=>(hb.cell (p:=⟨k.gp,j,none⟩) b4).trans (h.og j h1 h2 h3 h4),h.bbl,h.gpl,h.bg,h.wz,Nat.lt_of_lt_of_le h.wl hb.size,
  λ j=>(hb.frozen (p:=⟨k.bb,j,none⟩) b3).trans (h.fb j),λ j=>(hb.frozen (p:=⟨k.gp,j,none⟩) b4).trans (h.fg j),λ j=>(hb.frozen (p:=⟨k.wb,j,none⟩) h.wl).trans (h.fw j),
  hc b3 h.cv,hc h.wl h.w0,hc h.wl h.w1,λ r hr=>hc h.wl (h.wn r hr),hc h.wl h.w13,hc b4 h.ef,hc b4 h.en,hc b4 h.ta,hc b4 h.tb,h.nodes,own_below h.on hb,own_below h.of hb,h.nn,h.nf,h.nnf,
  λ x hx=>(h.ar x hx).imp id λ ⟨h1,h2⟩=>⟨h1.below hb,λ ad e=>by
   obtain⟨a1,a2,a3⟩:=h2 ad e;exact⟨a1,Nat.lt_of_lt_of_le a2 hb.size,a3⟩⟩⟩
theorem Tok.next{T:Nat->Prop}(h:Tok Z W k L qn qf T)(hb:W.heap.size<=W'.heap.size):Tok Z W' k L qn qf T:=λ b hx=>by
 obtain⟨h1,h2,h3⟩:=h b hx;exact⟨h1,Nat.lt_of_lt_of_le h2 hb,h3⟩
theorem Wa.next{T:Nat->Prop}(h:Wa Z W k s T)(hb:Below W.heap.size W W'):Wa Z W' k s T:=by
 obtain⟨L,qn,cn,qf,cf,h,ht⟩:=h;exact⟨L,qn,cn,qf,cf,h.next hb,ht.next hb.size⟩
theorem Wa.kt{T:Nat->Prop}(h:Wa Z W k s T)(hb:Below W.heap.size W W'):Kt T W W':=by
 obtain⟨L,qn,cn,qf,cf,h,ht⟩:=h;exact⟨hb.size,λ b hx=>hb.block b (ht b hx).2.1⟩
theorem Wa.mono{T T':Nat->Prop}(h:Wa Z W k s T)(ht:∀ x,T' x->T x):Wa Z W k s T':=by
 obtain⟨L,qn,cn,qf,cf,h,h2⟩:=h;exact⟨L,qn,cn,qf,cf,h,λ b hx=>h2 b (ht b hx)⟩
theorem Wa.temp{T:Nat->Prop}(h:Wa Z W k s T)(hb:Below W.heap.size W W'):Wa Z W' k s (λ b=>T b∨(W.heap.size<=b/\b<W'.heap.size)):=by
 obtain⟨L,qn,cn,qf,cf,h,h2⟩:=h;refine⟨L,qn,cn,qf,cf,h.next hb,λ b hx=>?_⟩;rcases hx with hx|⟨h3,h4⟩
 ·exact h2.next hb.size b hx
 ·have:=h.size
  have:=h.wl;exact⟨by omega,h4,by omega,λ e=>by have:=(h.qnz e).2;omega,λ e=>by have:=(h.qfz e).2;omega,λ x hx=>(h.ar x hx).imp id λ ⟨_,h6⟩ ad e=>by have:=(h6 ad e).2.1;omega⟩
theorem aL{W:World}{a b:Addr}{u v:Value}(h:W.cell? b=some u)(hn:b≠a):(W.setCell a v).cell? b=some u:=(World.cell?_setCell_other _ _ _ _ (λ e=>hn e.symm)).trans h
theorem bO{W:World}{a b:Addr}{v:Value}(hn:b≠a):(W.setCell a v).cell? b=W.cell? b:=World.cell?_setCell_other _ _ _ _ (λ e=>hn e.symm)
theorem aM{b b' j j':Nat}(h:b≠b'∨j≠j'):(⟨b,j,none⟩:Addr)≠⟨b',j',none⟩:=λ e=>by
 injection e with e1 e2
 rcases h with h|h
 ·exact h e1
 ·exact h e2
theorem Wt.rows(h:Wt Z W k s L qn cn qf cf)(b j:Nat)(v:Value)(hb:b=k.bb∨b=k.gp∨b=k.wb):(W.setCell ⟨b,j,none⟩ v).ownsRow Z.heap.size 111 12 (.slice qn s.nodes.length cn) s.nodes.length (ndsV L) /\
  (W.setCell ⟨b,j,none⟩ v).ownsRow Z.heap.size 142 2 (.slice qf s.phis.length cf) s.phis.length (phsV s.phis) /\
  ∀ x∈L,x.1.args=[]∨NumsAt .i64 (W.setCell ⟨b,j,none⟩ v) x.2.1 x.1.args/\∀ ad,x.2.1=some ad->Z.heap.size<=ad.block/\ad.block<(W.setCell ⟨b,j,none⟩ v).heap.size/\ad.block≠k.wb/\qn.map Addr.block≠some ad.block/\qf.map Addr.block≠some ad.block:=by
 have hq:∀ q:Option Addr,(∀ b',q.map Addr.block=some b'->Z.heap.size<=b')->q.map Addr.block≠some k.wb->q.map Addr.block≠some b:=λ q h1 h2 e=>by
  rcases hb with rfl|rfl|rfl
  ·have:=h1 _ e;have:=h.bbl;omega
  ·have:=h1 _ e;have:=h.gpl;omega
  ·exact h2 e
 refine⟨aP (a:=⟨b,j,none⟩) h.on (by rw[aH];exact hq qn (λ b' e=>(h.qnz e).1) h.nn),aP (a:=⟨b,j,none⟩) h.of (by rw[aH];exact hq qf (λ b' e=>(h.qfz e).1) h.nf),λ x hx=>?_⟩;rcases h.ar x hx with hx0|⟨h1,h2⟩
 ·exact .inl hx0
 refine .inr ⟨h1.grown' (bC W ⟨b,j,none⟩ v) (λ ad e e2=>?_),λ ad e=>?_⟩
 ·obtain⟨a1,a2,a3,_⟩:=h2 ad e
  injection e2 with e2
  rcases hb with rfl|rfl|rfl
  ·have:=h.bbl;simp at e2;omega
  ·have:=h.gpl;simp at e2;omega
  ·exact a3 e2.symm
 ·obtain⟨a1,a2,a3⟩:=h2 ad e
  exact⟨a1,by simpa[World.setCell]using a2,a3⟩
theorem Wt.oldS(h:Wt Z W k s L qn cn qf cf)(b j:Nat)(v:Value)(hb:b=k.bb∨b=k.gp∨b=k.wb):∀ i,i<Z.heap.size->i≠k.bb->i≠k.gp->(W.setCell ⟨b,j,none⟩ v).heap[i]?=Z.heap[i]?:=λ i h1 h2 h3=>by
 have hib:i≠b:=by
  rcases hb with rfl|rfl|rfl
  ·exact h2
  ·exact h3
  ·have:=h.wz;omega
 exact((bC W ⟨b,j,none⟩ v).block i (Nat.lt_of_lt_of_le h1 h.size) (λ e=>hib (Option.some.inj e))).trans (h.old i h1 h2 h3)
theorem cP{W:World}{a:Addr}{v:Value}{b:Nat}(h:∀ j,W.frozen? ⟨b,j,none⟩=false)(j:Nat):(W.setCell a v).frozen? ⟨b,j,none⟩=false:=(World.frozen?_setCell ..).trans (h j)
theorem Wa.tset{T:Nat->Prop}(h:Wa Z W k s T){b:Nat}(hb:T b)(j:Nat)(v:Value):Wa Z (W.setCell ⟨b,j,none⟩ v) k s T:=by
 obtain⟨L,qn,cn,qf,cf,h,ht⟩:=h;obtain⟨t1,t2,t3,t4,t5,t6⟩:=ht b hb;have n1:k.bb≠b:=by have:=h.bbl;omega
 have n2:k.gp≠b:=by have:=h.gpl;omega
 have n3:k.wb≠b:=λ e=>t3 e.symm
 refine⟨L,qn,cn,qf,cf,⟨h.os,h.tape,h.output,by simpa[World.setCell]using h.size,λ i h1 h2 h3=>((bC W ⟨b,j,none⟩ v).block i (Nat.lt_of_lt_of_le h1 h.size) (λ e=>by have e2:i=b:=Option.some.inj e;omega)).trans (h.old i h1 h2 h3),λ i hi=>(bO (aM (.inl n1))).trans (h.ob i hi),λ i h1 h2 h3 h4=>(bO (aM (.inl n2))).trans (h.og i h1 h2 h3 h4),h.bbl,h.gpl,h.bg,h.wz,by simpa[World.setCell]using h.wl,
  cP h.fb,cP h.fg,cP h.fw,aL h.cv (aM (.inl n1)),aL h.w0 (aM (.inl n3)),aL h.w1 (aM (.inl n3)),λ i hi=>aL (h.wn i hi) (aM (.inl n3)),aL h.w13 (aM (.inl n3)),aL h.ef (aM (.inl n2)),aL h.en (aM (.inl n2)),aL h.ta (aM (.inl n2)),aL h.tb (aM (.inl n2)),h.nodes,
  aP (a:=⟨b,j,none⟩) h.on (by rw[aH];exact t4),aP (a:=⟨b,j,none⟩) h.of (by rw[aH];exact t5),h.nn,h.nf,h.nnf,λ x hx=>?_⟩,λ i hi=>?_⟩
 ·rcases h.ar x hx with e|⟨h1,h2⟩
  ·exact .inl e
  ·rcases t6 x hx with e|t6
   ·exact .inl e
   ·refine .inr ⟨h1.grown' (bC W ⟨b,j,none⟩ v) (λ ad e e2=>t6 ad e (Option.some.inj e2).symm),λ ad e=>?_⟩
    obtain⟨a1,a2,a3⟩:=h2 ad e;exact⟨a1,by simpa[World.setCell]using a2,a3⟩
 ·obtain⟨a1,a2,a3⟩:=ht i hi
  exact⟨a1,by simpa[World.setCell]using a2,a3⟩
theorem Wt.now(h:Wt Z W k s L qn cn qf cf){r:Nat}(hr:r<11)(x:Int):Wt Z (W.setCell ⟨k.wb,2+r,none⟩ (.int .i64 x)) k { s with now:=updI s.now r x } L qn cn qf cf:=by
 obtain⟨n1,n2,_,_⟩:=h.bw;obtain⟨r1,r2,r3⟩:=h.rows k.wb (2+r) (.int .i64 x) (.inr (.inr rfl))
 refine⟨h.os,h.tape,h.output,by simpa[World.setCell]using h.size,h.oldS _ _ _ (.inr (.inr rfl)),λ j hj=>(bO (aM (.inl n1))).trans (h.ob j hj),λ j h1 h2 h3 h4=>(bO (aM (.inl n2))).trans (h.og j h1 h2 h3 h4),h.bbl,h.gpl,h.bg,h.wz,by simpa[World.setCell]using h.wl,
  cP h.fb,cP h.fg,cP h.fw,aL h.cv (aM (.inl n1)),aL h.w0 (aM (.inr (by omega))),aL h.w1 (aM (.inr (by omega))),λ i hi=>?_,aL h.w13 (aM (.inr (by omega))),aL h.ef (aM (.inl n2)),aL h.en (aM (.inl n2)),aL h.ta (aM (.inl n2)),aL h.tb (aM (.inl n2)),h.nodes,r1,r2,h.nn,h.nf,h.nnf,r3⟩
 by_cases e:i=r
 ·subst e
  dsimp only;rw[show updI s.now i x i=x from if_pos rfl];exact World.cell?_setCell_same _ _ _ (h.wn i hi)
 ·dsimp only
  rw[show updI s.now r x i=s.now i from if_neg e];exact aL (h.wn i hi) (aM (.inr (by omega)))
theorem Wt.at(h:Wt Z W k s L qn cn qf cf)(x:Int):Wt Z (W.setCell ⟨k.wb,13,none⟩ (.int .i64 x)) k { s with at':=x } L qn cn qf cf:=by
 obtain⟨n1,n2,_,_⟩:=h.bw;obtain⟨r1,r2,r3⟩:=h.rows k.wb 13 (.int .i64 x) (.inr (.inr rfl))
 exact⟨h.os,h.tape,h.output,by simpa[World.setCell]using h.size,h.oldS _ _ _ (.inr (.inr rfl)),λ j hj=>(bO (aM (.inl n1))).trans (h.ob j hj),λ j h1 h2 h3 h4=>(bO (aM (.inl n2))).trans (h.og j h1 h2 h3 h4),h.bbl,h.gpl,h.bg,h.wz,by simpa[World.setCell]using h.wl,
  cP h.fb,cP h.fg,cP h.fw,aL h.cv (aM (.inl n1)),aL h.w0 (aM (.inr (by omega))),aL h.w1 (aM (.inr (by omega))),λ i hi=>aL (h.wn i hi) (aM (.inr (by omega))),World.cell?_setCell_same _ _ _ h.w13,aL h.ef (aM (.inl n2)),aL h.en (aM (.inl n2)),aL h.ta (aM (.inl n2)),aL h.tb (aM (.inl n2)),h.nodes,r1,r2,h.nn,h.nf,h.nnf,r3⟩
theorem Wt.val(h:Wt Z W k s L qn cn qf cf)(x:Int):Wt Z (W.setCell ⟨k.bb,4,none⟩ (.int .i64 x)) k { s with v:=x } L qn cn qf cf:=by
 obtain⟨n1,n2,_,_⟩:=h.bw;obtain⟨r1,r2,r3⟩:=h.rows k.bb 4 (.int .i64 x) (.inl rfl);have n3:k.wb≠k.bb:=λ e=>n1 e.symm
 have n4:k.gp≠k.bb:=λ e=>h.bg e.symm
 exact⟨h.os,h.tape,h.output,by simpa[World.setCell]using h.size,h.oldS _ _ _ (.inl rfl),λ j hj=>(bO (aM (.inr hj))).trans (h.ob j hj),λ j h1 h2 h3 h4=>(bO (aM (.inl n4))).trans (h.og j h1 h2 h3 h4),h.bbl,h.gpl,h.bg,h.wz,by simpa[World.setCell]using h.wl,
  cP h.fb,cP h.fg,cP h.fw,World.cell?_setCell_same _ _ _ h.cv,aL h.w0 (aM (.inl n3)),aL h.w1 (aM (.inl n3)),λ i hi=>aL (h.wn i hi) (aM (.inl n3)),aL h.w13 (aM (.inl n3)),aL h.ef (aM (.inl n4)),aL h.en (aM (.inl n4)),aL h.ta (aM (.inl n4)),aL h.tb (aM (.inl n4)),h.nodes,r1,r2,h.nn,h.nf,h.nnf,r3⟩
theorem Wt.a(h:Wt Z W k s L qn cn qf cf)(x:Int):Wt Z (W.setCell ⟨k.gp,k.o+6,none⟩ (.int .i64 x)) k { s with ta:=x } L qn cn qf cf:=by
 obtain⟨n1,n2,_,_⟩:=h.bw;obtain⟨r1,r2,r3⟩:=h.rows k.gp (k.o+6) (.int .i64 x) (.inr (.inl rfl));have n3:k.wb≠k.gp:=λ e=>n2 e.symm
 exact⟨h.os,h.tape,h.output,by simpa[World.setCell]using h.size,h.oldS _ _ _ (.inr (.inl rfl)),λ j hj=>(bO (aM (.inl h.bg))).trans (h.ob j hj),λ j h1 h2 h3 h4=>(bO (aM (.inr h3))).trans (h.og j h1 h2 h3 h4),h.bbl,h.gpl,h.bg,h.wz,by simpa[World.setCell]using h.wl,
  cP h.fb,cP h.fg,cP h.fw,aL h.cv (aM (.inl h.bg)),aL h.w0 (aM (.inl n3)),aL h.w1 (aM (.inl n3)),λ i hi=>aL (h.wn i hi) (aM (.inl n3)),aL h.w13 (aM (.inl n3)),aL h.ef (aM (.inr (by omega))),aL h.en (aM (.inr (by omega))),World.cell?_setCell_same _ _ _ h.ta,aL h.tb (aM (.inr (by omega))),h.nodes,r1,r2,h.nn,h.nf,h.nnf,r3⟩
theorem Wt.b(h:Wt Z W k s L qn cn qf cf)(x:Int):Wt Z (W.setCell ⟨k.gp,k.o+7,none⟩ (.int .i64 x)) k { s with tb:=x } L qn cn qf cf:=by
 obtain⟨n1,n2,_,_⟩:=h.bw;obtain⟨r1,r2,r3⟩:=h.rows k.gp (k.o+7) (.int .i64 x) (.inr (.inl rfl));have n3:k.wb≠k.gp:=λ e=>n2 e.symm
 exact⟨h.os,h.tape,h.output,by simpa[World.setCell]using h.size,h.oldS _ _ _ (.inr (.inl rfl)),λ j hj=>(bO (aM (.inl h.bg))).trans (h.ob j hj),λ j h1 h2 h3 h4=>(bO (aM (.inr h4))).trans (h.og j h1 h2 h3 h4),h.bbl,h.gpl,h.bg,h.wz,by simpa[World.setCell]using h.wl,
  cP h.fb,cP h.fg,cP h.fw,aL h.cv (aM (.inl h.bg)),aL h.w0 (aM (.inl n3)),aL h.w1 (aM (.inl n3)),λ i hi=>aL (h.wn i hi) (aM (.inl n3)),aL h.w13 (aM (.inl n3)),aL h.ef (aM (.inr (by omega))),aL h.en (aM (.inr (by omega))),aL h.ta (aM (.inr (by omega))),World.cell?_setCell_same _ _ _ h.tb,h.nodes,r1,r2,h.nn,h.nf,h.nnf,r3⟩
theorem Wt.mid(h:Wt Z W k s L qn cn qf cf){q:Option Addr}(hg:W.grownBy W' (q.map Addr.block))(hz:∀ b,q.map Addr.block=some b->Z.heap.size<=b)(hw:q.map Addr.block≠some k.wb){b o:Nat}{v:Value}(hb:b=k.bb∨b=k.gp∨b=k.wb)(hc:W.cell? ⟨b,o,none⟩=some v):W'.cell? ⟨b,o,none⟩=some v:=by
 refine hg.cell hc (λ e=>?_);rcases hb with rfl|rfl|rfl
 ·have hh:Z.heap.size<=k.bb:=hz _ e.symm
  have:=h.bbl;omega
 ·have hh:Z.heap.size<=k.gp:=hz _ e.symm
  have:=h.gpl;omega
 ·exact hw e.symm
theorem Wt.midf(h:Wt Z W k s L qn cn qf cf){q:Option Addr}(hg:W.grownBy W' (q.map Addr.block))(hz:∀ b,q.map Addr.block=some b->Z.heap.size<=b)(hw:q.map Addr.block≠some k.wb){b o:Nat}(hb:b=k.bb∨b=k.gp∨b=k.wb):W'.frozen? ⟨b,o,none⟩=W.frozen? ⟨b,o,none⟩:=by
 refine World.frozen?_of_block (a:=⟨b,o,none⟩) (hg.block b ?_ (λ e=>?_))
 ·obtain⟨_,_,b3,b4⟩:=h.bw
  rcases hb with rfl|rfl|rfl
  ·exact b3
  ·exact b4
  ·exact h.wl
 ·rcases hb with rfl|rfl|rfl
  ·have:=hz _ e.symm;have:=h.bbl;omega
  ·have:=hz _ e.symm;have:=h.gpl;omega
  ·exact hw e.symm
end
section
variable {Z W W':World} {k:Kx} {s:Wq} {L:List NdP} {qn qf:Option Addr} {cn cf:Nat}
theorem Wt.appN(h:Wt Z W k s L qn cn qf cf){n:Nd}{qa q':Option Addr}{ca m c':Nat}(hm:m=s.nodes.length+1)
  (ho:W'.ownsRow Z.heap.size 111 12 (.slice q' m c') m (ndsV L ++ ndV n qa ca)) (hg:W.grownBy W' (qn.map Addr.block)) (hb:q'.map Addr.block=qn.map Addr.block∨q'.map Addr.block=some W.heap.size)
  (hna:n.args=[]∨NumsAt .i64 W qa n.args/\∀ ad,qa=some ad->Z.heap.size<=ad.block/\ad.block<W.heap.size/\ad.block≠k.wb/\qn.map Addr.block≠some ad.block/\qf.map Addr.block≠some ad.block) :
  Wt Z (W'.setCell ⟨k.gp,k.o+2,none⟩ (.slice q' m c')) k { s with nodes:=s.nodes ++ [n] } (L ++ [(n,qa,ca)]) q' c' qf cf:=by
 subst hm;obtain⟨n1,n2,l1,l2⟩:=h.bw;have n3:k.wb≠k.gp:=λ e=>n2 e.symm
 have hz:∀ b,qn.map Addr.block=some b->Z.heap.size<=b:=λ b e=>(h.qnz e).1
 have mid:∀ {b o:Nat} {v:Value},(b=k.bb∨b=k.gp∨b=k.wb)->W.cell? ⟨b,o,none⟩=some v->W'.cell? ⟨b,o,none⟩=some v:=λ hb hc=>h.mid hg hz h.nn hb hc
 have midf:∀ {b o:Nat},(b=k.bb∨b=k.gp∨b=k.wb)->W'.frozen? ⟨b,o,none⟩=W.frozen? ⟨b,o,none⟩:=λ hb=>h.midf hg hz h.nn hb
 have cel:∀ {b o:Nat},(b=k.bb∨b=k.gp)->W'.cell? ⟨b,o,none⟩=W.cell? ⟨b,o,none⟩:=λ {b o} hb=>World.cell?_of_block (a:=⟨b,o,none⟩) (hg.block b (by rcases hb with rfl|rfl;exact l1;exact l2) (λ e=>by
  have hh:=hz _ e.symm;rcases hb with rfl|rfl
  ·have:=h.bbl;omega
  ·have:=h.gpl;omega))
 have hq':∀ b,q'.map Addr.block=some b->qn.map Addr.block=some b∨b=W.heap.size:=λ b e=>by
  rcases hb with d|d
  ·exact .inl (d ▸ e)
  ·rw[d]at e;exact .inr (Option.some.inj e).symm
 have hlen:(s.nodes ++ [n]).length=s.nodes.length+1:=by simp
 have hne:∀ b,b<W.heap.size->qn.map Addr.block≠some b->q'.map Addr.block≠some b:=λ b h1 h2 e=>by
  rcases hq' b e with d|d
  ·exact h2 d
  ·omega
 refine⟨hg.os.trans h.os,hg.tape.trans h.tape,hg.output.trans h.output,by have:=hg.size;have:=h.size;simp[World.setCell];omega,λ i h1 h2 h3=>?_,λ j hj=>(bO (aM (.inl h.bg))).trans ((cel (.inl rfl)).trans (h.ob j hj)),λ j h1 h2 h3 h4=>(bO (aM (.inr h2))).trans ((cel (.inr rfl)).trans (h.og j h1 h2 h3 h4)),h.bbl,h.gpl,h.bg,h.wz,by have:=hg.size;have:=h.wl;simp[World.setCell];omega,
  cP (λ j=>(midf (.inl rfl)).trans (h.fb j)),cP (λ j=>(midf (.inr (.inl rfl))).trans (h.fg j)),cP (λ j=>(midf (.inr (.inr rfl))).trans (h.fw j)),
  aL (mid (.inl rfl) h.cv) (aM (.inl h.bg)),aL (mid (.inr (.inr rfl)) h.w0) (aM (.inl n3)),aL (mid (.inr (.inr rfl)) h.w1) (aM (.inl n3)),λ r hr=>aL (mid (.inr (.inr rfl)) (h.wn r hr)) (aM (.inl n3)),aL (mid (.inr (.inr rfl)) h.w13) (aM (.inl n3)),
  aL (mid (.inr (.inl rfl)) h.ef) (aM (.inr (by omega))),?_,aL (mid (.inr (.inl rfl)) h.ta) (aM (.inr (by omega))),aL (mid (.inr (.inl rfl)) h.tb) (aM (.inr (by omega))),by simp[h.nodes],?_,?_,hne _ h.wl h.nn,h.nf,?_,λ x hx=>?_⟩
 ·have hib:i≠k.gp:=h3
  refine((bC W' ⟨k.gp,k.o+2,none⟩ _).block i (by have:=hg.size;have:=h.size;omega) (λ e=>hib (Option.some.inj e))).trans ?_;exact(hg.block i (Nat.lt_of_lt_of_le h1 h.size) (λ e=>by have:=hz _ e.symm;omega)).trans (h.old i h1 h2 h3)
 ·show _=some (Value.slice q' (s.nodes ++ [n]).length c')
  rw[hlen];exact World.cell?_setCell_same _ _ _ (mid (.inr (.inl rfl)) h.en)
 ·show World.ownsRow _ _ _ _ (.slice q' (s.nodes ++ [n]).length c') (s.nodes ++ [n]).length _
  rw[hlen,ndsV_app]
  exact aP (a:=⟨k.gp,k.o+2,none⟩) ho (by
   rw[aH]
   exact hne _ l2 (λ e=>by
    have hh:Z.heap.size<=k.gp:=hz _ e;have:=h.gpl;omega))
 ·refine aP (a:=⟨k.gp,k.o+2,none⟩) (h.of.kept hg ?_) (by
   rw[aH];intro e;have hh:Z.heap.size<=k.gp:=(h.qfz e).1;have:=h.gpl;omega)
  rw[aH];cases hqf:qf.map Addr.block with
  | none=>exact .inl rfl
  | some b=>exact .inr (λ e=>by
    rcases h.nnf with d|d
    ·rw[d]at e;cases e
    ·exact d (e.symm.trans hqf.symm))
 ·cases hqq:q' with
  | none=>exact .inl rfl
  | some ad =>
   refine .inr (λ e=>?_);rcases hq' ad.block (by rw[hqq];rfl)with d|d
   ·rcases h.nnf with d2|d2
    ·rw[d2]at d;cases d
    ·exact d2 (d.trans (by simpa using e))
   ·have:=(h.qfz (b:=ad.block) (by rw[<- e];rfl)).2
    omega
 ·rcases List.mem_append.1 hx with c|c
  ·rcases h.ar x c with hx0|⟨h1,h2⟩
   ·exact .inl hx0
   refine .inr ⟨(h1.grown' hg (λ ad e e2=>(h2 ad e).2.2.2.1 e2)).grown' (bC W' ⟨k.gp,k.o+2,none⟩ _) (λ ad e e2=>?_),λ ad e=>?_⟩
   ·have:=(h2 ad e).1
    have:=h.gpl;injection e2 with e2
    simp at e2;omega
   ·obtain⟨a1,a2,a3,a4,a5⟩:=h2 ad e
    exact⟨a1,by have:=hg.size;simp[World.setCell];omega,a3,hne _ a2 a4,a5⟩
  ·rw[List.mem_singleton.1 c]
   rcases hna with hx0|⟨hna,hqa⟩
   ·exact .inl hx0
   refine .inr ⟨(hna.grown' hg (λ ad e e2=>(hqa ad e).2.2.2.1 e2)).grown' (bC W' ⟨k.gp,k.o+2,none⟩ _) (λ ad e e2=>?_),λ ad e=>?_⟩
   ·have:=(hqa ad e).1
    have:=h.gpl;injection e2 with e2
    simp at e2;omega
   ·obtain⟨a1,a2,a3,a4,a5⟩:=hqa ad e
    exact⟨a1,by have:=hg.size;simp[World.setCell];omega,a3,hne _ a2 a4,a5⟩
theorem Wt.appF(h:Wt Z W k s L qn cn qf cf){i:Int}{q':Option Addr}{m c':Nat}(hm:m=s.phis.length+1)
  (ho:W'.ownsRow Z.heap.size 142 2 (.slice q' m c') m (phsV s.phis ++ [.int .i64 i,.slice none 0 0])) (hg:W.grownBy W' (qf.map Addr.block)) (hb:q'.map Addr.block=qf.map Addr.block∨q'.map Addr.block=some W.heap.size) :
  Wt Z (W'.setCell ⟨k.gp,k.o+1,none⟩ (.slice q' m c')) k { s with phis:=s.phis ++ [i] } L qn cn q' c':=by
 subst hm;obtain⟨n1,n2,l1,l2⟩:=h.bw;have n3:k.wb≠k.gp:=λ e=>n2 e.symm
 have hz:∀ b,qf.map Addr.block=some b->Z.heap.size<=b:=λ b e=>(h.qfz e).1
 have mid:∀ {b o:Nat} {v:Value},(b=k.bb∨b=k.gp∨b=k.wb)->W.cell? ⟨b,o,none⟩=some v->W'.cell? ⟨b,o,none⟩=some v:=λ hb hc=>h.mid hg hz h.nf hb hc
 have midf:∀ {b o:Nat},(b=k.bb∨b=k.gp∨b=k.wb)->W'.frozen? ⟨b,o,none⟩=W.frozen? ⟨b,o,none⟩:=λ hb=>h.midf hg hz h.nf hb
 have cel:∀ {b o:Nat},(b=k.bb∨b=k.gp)->W'.cell? ⟨b,o,none⟩=W.cell? ⟨b,o,none⟩:=λ {b o} hb=>World.cell?_of_block (a:=⟨b,o,none⟩) (hg.block b (by rcases hb with rfl|rfl;exact l1;exact l2) (λ e=>by
  have hh:=hz _ e.symm;rcases hb with rfl|rfl
  ·have:=h.bbl;omega
  ·have:=h.gpl;omega))
 have hq':∀ b,q'.map Addr.block=some b->qf.map Addr.block=some b∨b=W.heap.size:=λ b e=>by
  rcases hb with d|d
  ·exact .inl (d ▸ e)
  ·rw[d]at e;exact .inr (Option.some.inj e).symm
 have hlen:(s.phis ++ [i]).length=s.phis.length+1:=by simp
 have hne:∀ b,b<W.heap.size->qf.map Addr.block≠some b->q'.map Addr.block≠some b:=λ b h1 h2 e=>by
  rcases hq' b e with d|d
  ·exact h2 d
  ·omega
 refine⟨hg.os.trans h.os,hg.tape.trans h.tape,hg.output.trans h.output,by have:=hg.size;have:=h.size;simp[World.setCell];omega,λ i h1 h2 h3=>?_,λ j hj=>(bO (aM (.inl h.bg))).trans ((cel (.inl rfl)).trans (h.ob j hj)),λ j h1 h2 h3 h4=>(bO (aM (.inr h1))).trans ((cel (.inr rfl)).trans (h.og j h1 h2 h3 h4)),h.bbl,h.gpl,h.bg,h.wz,by have:=hg.size;have:=h.wl;simp[World.setCell];omega,
  cP (λ j=>(midf (.inl rfl)).trans (h.fb j)),cP (λ j=>(midf (.inr (.inl rfl))).trans (h.fg j)),cP (λ j=>(midf (.inr (.inr rfl))).trans (h.fw j)),
  aL (mid (.inl rfl) h.cv) (aM (.inl h.bg)),aL (mid (.inr (.inr rfl)) h.w0) (aM (.inl n3)),aL (mid (.inr (.inr rfl)) h.w1) (aM (.inl n3)),λ r hr=>aL (mid (.inr (.inr rfl)) (h.wn r hr)) (aM (.inl n3)),aL (mid (.inr (.inr rfl)) h.w13) (aM (.inl n3)),
  ?_,aL (mid (.inr (.inl rfl)) h.en) (aM (.inr (by omega))),aL (mid (.inr (.inl rfl)) h.ta) (aM (.inr (by omega))),aL (mid (.inr (.inl rfl)) h.tb) (aM (.inr (by omega))),h.nodes,?_,?_,h.nn,hne _ h.wl h.nf,?_,λ x hx=>?_⟩
 ·have hib:i≠k.gp:=h3
  refine((bC W' ⟨k.gp,k.o+1,none⟩ _).block i (by have:=hg.size;have:=h.size;omega) (λ e=>hib (Option.some.inj e))).trans ?_;exact(hg.block i (Nat.lt_of_lt_of_le h1 h.size) (λ e=>by have:=hz _ e.symm;omega)).trans (h.old i h1 h2 h3)
 ·show _=some (Value.slice q' (s.phis ++ [i]).length c')
  rw[hlen];exact World.cell?_setCell_same _ _ _ (mid (.inr (.inl rfl)) h.ef)
 ·refine aP (a:=⟨k.gp,k.o+1,none⟩) (h.on.kept hg ?_) (by
   rw[aH];intro e;have hh:Z.heap.size<=k.gp:=(h.qnz e).1;have:=h.gpl;omega)
  rw[aH];cases hqf:qn.map Addr.block with
  | none=>exact .inl rfl
  | some b=>exact .inr (λ e=>by
    rcases h.nnf with d|d
    ·rw[d]at hqf;cases hqf
    ·exact d (hqf.trans e))
 ·show World.ownsRow _ _ _ _ (.slice q' (s.phis ++ [i]).length c') (s.phis ++ [i]).length (phsV (s.phis ++ [i]))
  rw[hlen,phsV_app]
  exact aP (a:=⟨k.gp,k.o+1,none⟩) ho (by
   rw[aH]
   exact hne _ l2 (λ e=>by
    have hh:Z.heap.size<=k.gp:=hz _ e;have:=h.gpl;omega))
 ·cases hqq:qn with
  | none=>exact .inl rfl
  | some ad =>
   refine .inr (λ e=>?_);rcases hq' ad.block (by rw[<- e];rfl)with d|d
   ·rcases h.nnf with d2|d2
    ·rw[d2]at hqq;cases hqq
    ·exact d2 (by rw[d,hqq];rfl)
   ·have:=(h.qnz (b:=ad.block) (by rw[hqq];rfl)).2
    omega
 ·rcases h.ar x hx with hx0|⟨h1,h2⟩
  ·exact .inl hx0
  refine .inr ⟨(h1.grown' hg (λ ad e e2=>(h2 ad e).2.2.2.2 e2)).grown' (bC W' ⟨k.gp,k.o+1,none⟩ _) (λ ad e e2=>?_),λ ad e=>?_⟩
  ·have:=(h2 ad e).1
   have:=h.gpl;injection e2 with e2
   simp at e2;omega
  ·obtain⟨a1,a2,a3,a4,a5⟩:=h2 ad e
   exact⟨a1,by have:=hg.size;simp[World.setCell];omega,a3,a4,hne _ a2 a5⟩
end
end Go.Proofs.YtkfahppdklecdaaGreatDoor
