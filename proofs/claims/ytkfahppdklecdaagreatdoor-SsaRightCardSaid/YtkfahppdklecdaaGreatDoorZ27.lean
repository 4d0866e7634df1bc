import Derived.Test.YtkfahppdklecdaaGreatDoorZ26
set_option maxRecDepth 100000
set_option maxHeartbeats 16000000
namespace Go.Proofs.YtkfahppdklecdaaGreatDoor
open Go.RowKit M
abbrev aN(n:Nd)(i:Int)(q:Option Addr)(c:Nat)(t:Int):Obj:=.cells #[.int .i64 n.op,.int .i64 i,.int .i64 n.alu,.bool n.wide,.int .i64 n.a,.int .i64 n.b,.int .u64 n.imm,.int .i64 n.size,.int .i64 n.off,.bool n.guard,.slice q n.args.length c,.int .i64 t] 111
open J (held_take aK bY)
theorem sfresh_any(b:Nat)(v:Int)(w:World)(_hl:b<w.heap.size)(hf:w.frozen? ⟨b,4,none⟩=false)(hc:w.cell? ⟨b,4,none⟩=some (.int .i64 v))(h0:0<=v)(h1:v<=1099511627776) :
  Calls Tryz.prog 105 #[.pointer (some ⟨b,0,none⟩)] w λ e w'=>e=.returned (.int .i64 v)/\w'=w.setCell ⟨b,4,none⟩ (.int .i64 (v+1)):=by
 go_enter Tryz.func105,Tryz.ntmps105
 go_wp2_with fail
 go_ret;exact⟨dH (by omega),rfl⟩
theorem nd_one{n:Nd}{q:Option Addr}{c:Nat}:∀ {u},u∈ndV n q c->u.oneCell'=true:=by
 intro u hu;unfold ndV at hu;simp only[List.mem_cons,List.not_mem_nil,or_false]at hu;rcases hu with rfl|rfl|rfl|rfl|rfl|rfl|rfl|rfl|rfl|rfl|rfl|rfl <;> rfl
theorem Wt.fb4{Z W:World}{k:Kx}{s:Wq}{L:List NdP}{qn qf:Option Addr}{cn cf:Nat}(h:Wt Z W k s L qn cn qf cf):W.frozen? ⟨k.bb,4,none⟩=false:=h.fb 4
def Tq(n:Nd)(q:Option Addr)(T:Nat->Prop):Nat->Prop:=λ b=>T b/\(n.args=[]∨∀ ad,q=some ad->ad.block≠b)
theorem put_end{Z W1 W2:World}{k:Kx}{s:Wq}{L:List NdP}{qn qf:Option Addr}{cn cf:Nat}{n:Nd}{q:Option Addr}{c:Nat}{q':Option Addr}{c' m:Nat}{T:Nat->Prop}
  (h:Wt Z W1 k s L qn cn qf cf) (hT:Tok Z W1 k L qn qf T) (hm:m=s.nodes.length+1) (ho:W2.ownsRow Z.heap.size 111 12 (.slice q' m c') m (ndsV L ++ ndV n q c)) (hg:W1.grownBy W2 (Value.slice qn s.nodes.length cn).ownBlock) (hb:(Value.slice q' m c').ownBlock=(Value.slice qn s.nodes.length cn).ownBlock∨(Value.slice q' m c').ownBlock=some W1.heap.size)
  (hna:n.args=[]∨NumsAt .i64 W1 q n.args/\∀ ad,q=some ad->T ad.block) :
  Wa Z (W2.setCell ⟨k.gp,k.o+2,none⟩ (.slice q' m c')) k { s with nodes:=s.nodes ++ [n] } (Tq n q T)/\Kt T W1 (W2.setCell ⟨k.gp,k.o+2,none⟩ (.slice q' m c')):=by
 rw[aH]at hg;rw[aH,aH]at hb
 have hq':∀ b,q'.map Addr.block=some b->qn.map Addr.block=some b∨b=W1.heap.size:=λ b e=>by
  rcases hb with d|d
  ·exact .inl (d ▸ e)
  ·rw[d]at e;exact .inr (Option.some.inj e).symm
 refine⟨⟨_,_,_,_,_,h.appN hm ho hg hb (hna.imp id λ ⟨hna,hq⟩=>⟨hna,λ ad e=>by
  obtain⟨a1,a2,a3,a4,a5,_⟩:=hT _ (hq ad e);exact⟨a1,a2,a3,a4,a5⟩⟩),λ b hx=>?_⟩,by have:=hg.size;simp[World.setCell];omega,λ b hx=>?_⟩
 ·obtain⟨hx,hx2⟩:=hx
  obtain⟨h1,h2,h3,h4,h5,h6⟩:=hT b hx;refine⟨h1,by have:=hg.size;simp[World.setCell];omega,h3,λ e=>?_,h5,λ x hxl=>?_⟩;rotate_left
  ·rcases List.mem_append.1 hxl with c|c
   ·exact h6 x c
   ·rw[List.mem_singleton.1 c];exact hx2
  rcases hq' b e with d|d
  ·exact h4 d
  ·omega
 ·obtain⟨h1,h2,h3,h4,h5,_⟩:=hT b hx
  have hgp:=h.gpl
  exact((bC W2 ⟨k.gp,k.o+2,none⟩ _).block b (Nat.lt_of_lt_of_le h2 hg.size) (λ e=>by
   have e2:b=k.gp:=Option.some.inj e;omega)).trans (hg.block b h2 (λ e=>h4 e.symm))
theorem gI{Z:World}{k:Kx}{s:Wq}{T:Nat->Prop}(n:Nd)(q:Option Addr)(c:Nat)(w:World)(h0:Wa Z w k s T)(hn:n.args=[]∨NumsAt .i64 w q n.args/\∀ ad,q=some ad->T ad.block)(hv0:0<=s.v)(hv1:s.v<=1099511627776)(hl:s.nodes.length<=4194304) :
  Calls Tryz.prog 141 #[.pointer (some ⟨k.wb,0,none⟩),.agg #[.int .i64 n.op,.int .i64 n.id,.int .i64 n.alu,.bool n.wide,.int .i64 n.a,.int .i64 n.b,.int .u64 n.imm,.int .i64 n.size,.int .i64 n.off,.bool n.guard,.slice q n.args.length c,.int .i64 n.at']] w λ e w'=>e=.returned (.int .i64 (putR s n))/\Wa Z w' k (putS s n) (Tq n q T)/\Kt T w w':=by
 obtain⟨L,qn,cn,qf,cf,h,hT⟩:=h0;have HW:=aQ h;have HTT:=aQ hT;obtain⟨x1,x2,l1,l2⟩:=h.bw;have l3:=h.wl;have w0:=h.w0;have w1:=h.w1;have w13:=h.w13;have fb:=h.fb 4;have cv:=h.cv;have en:=h.en;have fg:=h.fg (k.o+2);have hsz:=h.size;have HBX:Hid (∀ W,Below w.heap.size w W->Wt Z W k s L qn cn qf cf):=aQ (λ W hb=>h.next hb);have HPR:=aQ (show putR s n=if n.op=6 then -1 else s.v from rfl);have HPS:=aQ (show putS s n = { s with nodes:=s.nodes ++ [putN s n],v:=if n.op=6 then s.v else s.v+1 } from rfl);have HPN:=aQ (show putN s n = { n with id:=putR s n,at':=s.at' } from rfl);have HN1:Hid (n.args=[]∨NumsAt .i64 w q n.args/\∀ ad,q=some ad->T ad.block):=aQ hn
 have HN2:Hid (n.args=[]∨NumsAt .i64 (w.setCell ⟨k.bb,4,none⟩ (.int .i64 (s.v+1))) q n.args/\∀ ad,q=some ad->T ad.block):=aQ (hn.imp id λ ⟨hn,hq⟩=>⟨hn.grown' (bC w ⟨k.bb,4,none⟩ _) (λ ad e e2=>by
  have:=(hT _ (hq ad e)).1;have:=h.bbl;have e3:k.bb=ad.block:=Option.some.inj e2;omega),hq⟩)
 have HK1:Hid (∀ W,Below w.heap.size w W->Kt T w W):=aQ (λ W hb=>⟨hb.size,λ b hx=>hb.block b (hT b hx).2.1⟩)
 have HK2:Hid (Kt T w (w.setCell ⟨k.bb,4,none⟩ (.int .i64 (s.v+1)))):=aQ ⟨by simp[World.setCell],λ b hx=>(bC w ⟨k.bb,4,none⟩ _).block b (hT b hx).2.1 (λ e=>by
  have:=(hT b hx).1;have:=h.bbl;have e3:b=k.bb:=Option.some.inj e;omega)⟩
 clear hn;by_cases h6:n.op=6
 ·rw[HPR.out,if_pos h6]
  have HPS':Hid (putS s n = { s with nodes:=s.nodes ++ [{ n with id:=-1,at':=s.at' }] }):=aQ (by rw[HPS.out,HPN.out,HPR.out,if_pos h6,if_pos h6]);rw[HPS'.out];have b6:(n.op != 6)=false:=by simp[h6]
  clear h6;clear HPR HPS HPN HPS' h hT;go_enter Tryz.func141,Tryz.ntmps141
  go_wp2_with fail
  go_region
  all_goals go_wp2_with fail
  have HX0:Hid (Wt Z w k s L qn cn qf cf):=HW;have HX:Hid (Wt Z w k s L qn cn qf cf):=aQ (HX0.out);have HNA:Hid (n.args=[]∨NumsAt .i64 w q n.args/\∀ ad,q=some ad->T ad.block):=aQ (HN1.out)
  have HSB:Hid (∀ W,Below (w.alloc (aN n (-1) q c s.at')).heap.size (w.alloc (aN n (-1) q c s.at')) W->W.cell? ⟨k.wb,1,none⟩=some (.pointer (some ⟨k.gp,k.o,none⟩))/\W.cell? ⟨w.heap.size,0,none⟩=some (.int .i64 n.op)/\W.cell? ⟨w.heap.size,1,none⟩=some (.int .i64 (-1))/\W.cell? ⟨w.heap.size,2,none⟩=some (.int .i64 n.alu)/\W.cell? ⟨w.heap.size,3,none⟩=some (.bool n.wide)/\W.cell? ⟨w.heap.size,4,none⟩=some (.int .i64 n.a)/\W.cell? ⟨w.heap.size,5,none⟩=some (.int .i64 n.b)/\W.cell? ⟨w.heap.size,6,none⟩=some (.int .u64 n.imm)/\W.cell? ⟨w.heap.size,7,none⟩=some (.int .i64 n.size)/\W.cell? ⟨w.heap.size,8,none⟩=some (.int .i64 n.off)/\W.cell? ⟨w.heap.size,9,none⟩=some (.bool n.guard)/\W.cell? ⟨w.heap.size,10,none⟩=some (.slice q n.args.length c)/\W.cell? ⟨w.heap.size,11,none⟩=some (.int .i64 s.at')):=aQ (λ W hb=>by
   have e1:W.cell? ⟨k.wb,1,none⟩=some (.pointer (some ⟨k.gp,k.o,none⟩)):=(hb.cell (p:=⟨k.wb,1,none⟩) (by have:=HX.out.wl;simp;omega)).trans ((b1.cell (p:=⟨k.wb,1,none⟩) HX.out.wl).trans HX.out.w1);exact⟨e1,bE hb rfl,bE hb rfl,bE hb rfl,bE hb rfl,bE hb rfl,bE hb rfl,bE hb rfl,bE hb rfl,bE hb rfl,bE hb rfl,bE hb rfl,bE hb rfl⟩)
  have HMA:Hid (Wt Z ((w.alloc (aN n (-1) q c s.at')).alloc (aN n (-1) q c s.at')).drew.drew k s L qn cn qf cf):=aQ (HX.out.next (aD (aD b2)));have HKW:Hid (Kt T w ((w.alloc (aN n (-1) q c s.at')).alloc (aN n (-1) q c s.at')).drew.drew):=aQ (HK1.out _ (aD (aD b2)));have S1:=HSB.out (w.alloc (aN n (-1) q c s.at')).drew (aD (Below.refl _ _));have SA:=HSB.out ((w.alloc (aN n (-1) q c s.at')).alloc (aN n (-1) q c s.at')).drew.drew (aD (aD b1));have e0:(w.alloc (aN n (-1) q c s.at')).drew.cell? ⟨k.gp,k.o+2,none⟩=some (.slice qn s.nodes.length cn):=(b1.cell (p:=⟨k.gp,_,none⟩) HX.out.bw.2.2.2).trans HX.out.en
  have HAP:Hid (∀ (w8:World) (q8:Option Addr) (c8:Nat),w8.ownsRow Z.heap.size 111 12 (.slice q8 (s.nodes.length+1) c8) (s.nodes.length+1) (ndsV L ++ ndV { n with id:=(-1),at':=s.at' } q c)->((w.alloc (aN n (-1) q c s.at')).alloc (aN n (-1) q c s.at')).drew.drew.grownBy w8 (Value.slice qn s.nodes.length cn).ownBlock->((Value.slice q8 (s.nodes.length+1) c8).ownBlock=(Value.slice qn s.nodes.length cn).ownBlock∨(Value.slice q8 (s.nodes.length+1) c8).ownBlock=some ((w.alloc (aN n (-1) q c s.at')).alloc (aN n (-1) q c s.at')).drew.drew.heap.size) ->
    (w8.cell? ⟨k.wb,1,none⟩=some (.pointer (some ⟨k.gp,k.o,none⟩))/\w8.cell? ⟨w.heap.size,0,none⟩=some (.int .i64 n.op)/\w8.cell? ⟨w.heap.size,1,none⟩=some (.int .i64 (-1))/\w8.cell? ⟨w.heap.size,2,none⟩=some (.int .i64 n.alu)/\w8.cell? ⟨w.heap.size,3,none⟩=some (.bool n.wide)/\w8.cell? ⟨w.heap.size,4,none⟩=some (.int .i64 n.a)/\w8.cell? ⟨w.heap.size,5,none⟩=some (.int .i64 n.b)/\w8.cell? ⟨w.heap.size,6,none⟩=some (.int .u64 n.imm)/\w8.cell? ⟨w.heap.size,7,none⟩=some (.int .i64 n.size)/\w8.cell? ⟨w.heap.size,8,none⟩=some (.int .i64 n.off)/\w8.cell? ⟨w.heap.size,9,none⟩=some (.bool n.guard)/\w8.cell? ⟨w.heap.size,10,none⟩=some (.slice q n.args.length c)/\w8.cell? ⟨w.heap.size,11,none⟩=some (.int .i64 s.at'))/\((w8.setCell ⟨k.gp,k.o+2,none⟩ (.slice q8 (s.nodes.length+1) c8)).cell? ⟨k.wb,1,none⟩=some (.pointer (some ⟨k.gp,k.o,none⟩))/\(w8.setCell ⟨k.gp,k.o+2,none⟩ (.slice q8 (s.nodes.length+1) c8)).cell? ⟨w.heap.size,0,none⟩=some (.int .i64 n.op)/\(w8.setCell ⟨k.gp,k.o+2,none⟩ (.slice q8 (s.nodes.length+1) c8)).cell? ⟨w.heap.size,1,none⟩=some (.int .i64 (-1))/\(w8.setCell ⟨k.gp,k.o+2,none⟩ (.slice q8 (s.nodes.length+1) c8)).cell? ⟨w.heap.size,2,none⟩=some (.int .i64 n.alu)/\(w8.setCell ⟨k.gp,k.o+2,none⟩ (.slice q8 (s.nodes.length+1) c8)).cell? ⟨w.heap.size,3,none⟩=some (.bool n.wide)/\(w8.setCell ⟨k.gp,k.o+2,none⟩ (.slice q8 (s.nodes.length+1) c8)).cell? ⟨w.heap.size,4,none⟩=some (.int .i64 n.a)/\(w8.setCell ⟨k.gp,k.o+2,none⟩ (.slice q8 (s.nodes.length+1) c8)).cell? ⟨w.heap.size,5,none⟩=some (.int .i64 n.b)/\(w8.setCell ⟨k.gp,k.o+2,none⟩ (.slice q8 (s.nodes.length+1) c8)).cell? ⟨w.heap.size,6,none⟩=some (.int .u64 n.imm)/\(w8.setCell ⟨k.gp,k.o+2,none⟩ (.slice q8 (s.nodes.length+1) c8)).cell? ⟨w.heap.size,7,none⟩=some (.int .i64 n.size)/\(w8.setCell ⟨k.gp,k.o+2,none⟩ (.slice q8 (s.nodes.length+1) c8)).cell? ⟨w.heap.size,8,none⟩=some (.int .i64 n.off)/\(w8.setCell ⟨k.gp,k.o+2,none⟩ (.slice q8 (s.nodes.length+1) c8)).cell? ⟨w.heap.size,9,none⟩=some (.bool n.guard)/\(w8.setCell ⟨k.gp,k.o+2,none⟩ (.slice q8 (s.nodes.length+1) c8)).cell? ⟨w.heap.size,10,none⟩=some (.slice q n.args.length c)/\(w8.setCell ⟨k.gp,k.o+2,none⟩ (.slice q8 (s.nodes.length+1) c8)).cell? ⟨w.heap.size,11,none⟩=some (.int .i64 s.at'))/\w8.cell? ⟨k.gp,k.o+2,none⟩=some (.slice qn s.nodes.length cn)/\w8.frozen? ⟨k.gp,k.o+2,none⟩=false/\Hid (Wa Z (w8.setCell ⟨k.gp,k.o+2,none⟩ (.slice q8 (s.nodes.length+1) c8)) k { s with nodes:=s.nodes ++ [{ n with id:=(-1),at':=s.at' }] } (Tq n q T)/\Kt T w (w8.setCell ⟨k.gp,k.o+2,none⟩ (.slice q8 (s.nodes.length+1) c8)))):=aQ (λ w8 q8 c8 ho hg hb=>by
   have hx:=put_end HMA.out (HTT.out.next (by have:=HKW.out.size;simp at this ⊢;omega)) rfl ho hg hb (HNA.out.imp id λ ⟨hn,hq⟩=>⟨hn.below (aD (aD b2)),hq⟩);rw[aH]at hg;have hz:∀ b,qn.map Addr.block=some b->Z.heap.size<=b:=λ b e=>(HMA.out.qnz e).1
   have hnb:∀ i v,((w.alloc (aN n (-1) q c s.at')).alloc (aN n (-1) q c s.at')).drew.drew.cell? ⟨w.heap.size,i,none⟩=some v->w8.cell? ⟨w.heap.size,i,none⟩=some v:=λ i v e=>hg.cell e (λ e2=>absurd (HX.out.qnz e2.symm).2 (by show ¬ w.heap.size<w.heap.size;omega))
   obtain⟨a0,a1,a2,a3,a4,a5,a6,a7,a8,a9,a10,a11,a12⟩:=SA;have n1:k.wb≠k.gp:=λ e=>HX.out.bw.2.1 e.symm
   have n2:w.heap.size≠k.gp:=λ e=>by have:=HX.out.bw.2.2.2;omega
   have t0:=HMA.out.mid hg hz HMA.out.nn (.inr (.inr rfl)) a0;refine⟨⟨t0,hnb _ _ a1,hnb _ _ a2,hnb _ _ a3,hnb _ _ a4,hnb _ _ a5,hnb _ _ a6,hnb _ _ a7,hnb _ _ a8,hnb _ _ a9,hnb _ _ a10,hnb _ _ a11,hnb _ _ a12⟩,⟨aL t0 (aM (.inl n1)),aL (hnb _ _ a1) (aM (.inl n2)),aL (hnb _ _ a2) (aM (.inl n2)),aL (hnb _ _ a3) (aM (.inl n2)),aL (hnb _ _ a4) (aM (.inl n2)),aL (hnb _ _ a5) (aM (.inl n2)),aL (hnb _ _ a6) (aM (.inl n2)),aL (hnb _ _ a7) (aM (.inl n2)),aL (hnb _ _ a8) (aM (.inl n2)),aL (hnb _ _ a9) (aM (.inl n2)),aL (hnb _ _ a10) (aM (.inl n2)),aL (hnb _ _ a11) (aM (.inl n2)),aL (hnb _ _ a12) (aM (.inl n2))⟩,HMA.out.mid hg hz HMA.out.nn (.inr (.inl rfl)) HMA.out.en,(HMA.out.midf hg hz HMA.out.nn (.inr (.inl rfl))).trans (HMA.out.fg _),aQ ⟨hx.1,HKW.out.trans hx.2⟩⟩)
  have HOW:=aQ HMA.out.on;have HBW:=aQ HMA.out.size;have HNL:Hid (∀ j u,(ndV { n with id:=(-1),at':=s.at' } q c)[j]?=some u->((w.alloc (aN n (-1) q c s.at')).alloc (aN n (-1) q c s.at')).drew.drew.cell? ((⟨w.heap.size+1,0,none⟩:Addr).add j)=some u):=aQ (J.new_cells1 (w.alloc (aN n (-1) q c s.at')) _ _ (by rw[World.size_alloc]));have HL1:Hid (∀ u∈ndV { n with id:=(-1),at':=s.at' } q c,u.oneCell'=true):=aQ (λ u hu=>nd_one hu);have hgl:=HX.out.bw.2.2.2;have en5:w.cell? ⟨k.gp,k.o+2,none⟩=some (.slice qn s.nodes.length cn):=HX.out.en;have hfg:∀ W:World,W=(w.alloc (aN n (-1) q c s.at')).drew->W.frozen? ⟨k.gp,k.o+2,none⟩=false:=λ W e=>by rw[e];exact(b1.frozen (p:=⟨k.gp,_,none⟩) hgl).trans (HX.out.fg _)
  clear HX0;refine wp_region_held_drew (S:=(λ W'=>W'.cell? ⟨k.wb,1,none⟩=some (.pointer (some ⟨k.gp,k.o,none⟩))/\W'.cell? ⟨w.heap.size,0,none⟩=some (.int .i64 n.op)/\W'.cell? ⟨w.heap.size,1,none⟩=some (.int .i64 (-1))/\W'.cell? ⟨w.heap.size,2,none⟩=some (.int .i64 n.alu)/\W'.cell? ⟨w.heap.size,3,none⟩=some (.bool n.wide)/\W'.cell? ⟨w.heap.size,4,none⟩=some (.int .i64 n.a)/\W'.cell? ⟨w.heap.size,5,none⟩=some (.int .i64 n.b)/\W'.cell? ⟨w.heap.size,6,none⟩=some (.int .u64 n.imm)/\W'.cell? ⟨w.heap.size,7,none⟩=some (.int .i64 n.size)/\W'.cell? ⟨w.heap.size,8,none⟩=some (.int .i64 n.off)/\W'.cell? ⟨w.heap.size,9,none⟩=some (.bool n.guard)/\W'.cell? ⟨w.heap.size,10,none⟩=some (.slice q n.args.length c)/\W'.cell? ⟨w.heap.size,11,none⟩=some (.int .i64 s.at'))) (by kernel_rfl) ?_ (λ hHeld=>?_)
  ·(try dsimp only);first|exact S1|exact SA|exact S8|exact S9
  refine aT 0 rfl (h:=aT 1 rfl (h:=aT 2 rfl (h:=aT 3 rfl (h:=aT 4 rfl (h:=?_)))));try simp only[Act.put,aA,aB,aC]
  refine aT 5 rfl (h:=aT 6 rfl (h:=aT 7 rfl (h:=aT 8 rfl (h:=aT 9 rfl (h:=?_)))));try simp only[Act.put,aA,aB,aC]
  refine aT 11 rfl (h:=?_);try simp only[Act.put,aA,aB,aC]
  refine bY 10 12 (by kernel_rfl) rfl rfl (λ K hK=>?_) (λ K hK=>?_)
  ·
   go_simp
   refine hK.out _ _ ?_ (λ hHeld=>?_)
   ·(try dsimp only);first|exact S1|exact SA|exact S8|exact S9
   clear hK K;try simp only[Act.put,aA,aB,aC]
   refine aK 12 (by kernel_rfl) rfl (λ K hK=>?_);go_simp
   refine hK.out _ _ ?_ (λ hHeld=>?_)
   ·(try dsimp only);first|exact S1|exact SA|exact S8|exact S9
   clear hK K;try simp only[Act.put,aA,aB,aC]
   refine aK 13 (by kernel_rfl) rfl (λ K hK=>?_)
   (refine fX rfl (.tmp 30) (.tmp 32) rfl rfl Z.heap.size ⟨w.heap.size+1,0,none⟩ (ndV { n with id:=(-1),at':=s.at' } q c) (ndsV L) (.slice qn s.nodes.length cn) s.nodes.length 1 (by simp[Act.eval]) (by simp[Act.eval];try omega) HOW.out rfl HNL.out HL1.out HBW.out hl ?_;intro v8 w8 ho8 hg8 hb8;obtain⟨q8,c8,rfl⟩:=aW ho8;obtain⟨S8,S9,e8,fz8,HPX⟩:=HAP.out w8 q8 c8 ho8 hg8 hb8;clear ho8 hg8 hb8)
   refine hK.out _ _ ?_ (λ hHeld=>?_)
   ·(try dsimp only);first|exact S1|exact SA|exact S8|exact S9
   clear hK K;try simp only[Act.put,aA,aB,aC]
   refine aT 14 rfl (h:=aT 15 rfl (h:=?_));try simp only[Act.put,aA,aB,aC]
   refine aK 16 (by kernel_rfl) rfl (λ K hK=>?_);go_simp
   refine hK.out _ _ ?_ (λ hHeld=>?_)
   ·(try dsimp only);first|exact S1|exact SA|exact S8|exact S9
   clear hK K;try simp only[Act.put,aA,aB,aC]
   refine wpAnyH_done (by kernel_rfl) ?_ _;go_wp2_with fail
   go_ret;exact⟨rfl,HPX.out⟩
  ·
   go_simp
   refine hK.out _ _ ?_ (λ hHeld=>?_)
   ·(try dsimp only);first|exact S1|exact SA|exact S8|exact S9
   clear hK K;try simp only[Act.put,aA,aB,aC]
   refine aK 10 (by kernel_rfl) rfl (λ K hK=>?_);go_simp
   refine hK.out _ _ ?_ (λ hHeld=>?_)
   ·(try dsimp only);first|exact S1|exact SA|exact S8|exact S9
   clear hK K;try simp only[Act.put,aA,aB,aC]
   refine aK 13 (by kernel_rfl) rfl (λ K hK=>?_)
   (refine fX rfl (.tmp 30) (.tmp 32) rfl rfl Z.heap.size ⟨w.heap.size+1,0,none⟩ (ndV { n with id:=(-1),at':=s.at' } q c) (ndsV L) (.slice qn s.nodes.length cn) s.nodes.length 1 (by simp[Act.eval]) (by simp[Act.eval];try omega) HOW.out rfl HNL.out HL1.out HBW.out hl ?_;intro v8 w8 ho8 hg8 hb8;obtain⟨q8,c8,rfl⟩:=aW ho8;obtain⟨S8,S9,e8,fz8,HPX⟩:=HAP.out w8 q8 c8 ho8 hg8 hb8;clear ho8 hg8 hb8)
   refine hK.out _ _ ?_ (λ hHeld=>?_)
   ·(try dsimp only);first|exact S1|exact SA|exact S8|exact S9
   clear hK K;try simp only[Act.put,aA,aB,aC]
   refine aT 14 rfl (h:=aT 15 rfl (h:=?_));try simp only[Act.put,aA,aB,aC]
   refine aK 16 (by kernel_rfl) rfl (λ K hK=>?_);go_simp
   refine hK.out _ _ ?_ (λ hHeld=>?_)
   ·(try dsimp only);first|exact S1|exact SA|exact S8|exact S9
   clear hK K;try simp only[Act.put,aA,aB,aC]
   refine wpAnyH_done (by kernel_rfl) ?_ _;go_wp2_with fail
   go_ret;exact⟨rfl,HPX.out⟩
 ·rw[HPR.out,if_neg h6]
  have HPS':Hid (putS s n = { s with nodes:=s.nodes ++ [{ n with id:=s.v,at':=s.at' }],v:=s.v+1 }):=aQ (by rw[HPS.out,HPN.out,HPR.out,if_neg h6,if_neg h6]);rw[HPS'.out];have b6:(n.op != 6)=true:=by simpa using h6
  clear h6;have HFR:=aQ (λ W a b c=>sfresh_any k.bb s.v W a b c hv0 hv1);clear HPR HPS HPN HPS' h hT;go_enter Tryz.func141,Tryz.ntmps141
  go_wp2_with fail
  go_region
  all_goals go_wp2_with (go_at_call 105;(with_reducible refine(HFR.out _ (by simp;omega) (HBX.out _ (aD b1)).fb4 (HBX.out _ (aD b1)).cv).mono ?_);rintro e w5 ⟨rfl,rfl⟩)
  have HX0:Hid (Wt Z (w.setCell ⟨k.bb,4,none⟩ (.int .i64 (s.v+1))) k { s with v:=s.v+1 } L qn cn qf cf):=aQ (HW.out.val _);obtain⟨W5,hW5⟩:∃ W,(w.setCell ⟨k.bb,4,none⟩ (.int .i64 (s.v+1)))=W:=⟨_,rfl⟩;have HX:Hid (Wt Z W5 k { s with v:=s.v+1 } L qn cn qf cf):=aQ (by rw[<- hW5];exact HX0.out);have HNA:Hid (n.args=[]∨NumsAt .i64 W5 q n.args/\∀ ad,q=some ad->T ad.block):=aQ (by rw[<- hW5];exact HN2.out);have HKX:Hid (Kt T w W5):=aQ (by rw[<- hW5];exact HK2.out);have hs5:W5.heap.size=w.heap.size:=by first|(rw[<- hW5];done)|(rw[<- hW5];simp[World.setCell])
  have HSB:Hid (∀ W,Below (W5.alloc (aN n s.v q c s.at')).heap.size (W5.alloc (aN n s.v q c s.at')) W->W.cell? ⟨k.wb,1,none⟩=some (.pointer (some ⟨k.gp,k.o,none⟩))/\W.cell? ⟨w.heap.size,0,none⟩=some (.int .i64 n.op)/\W.cell? ⟨w.heap.size,1,none⟩=some (.int .i64 s.v)/\W.cell? ⟨w.heap.size,2,none⟩=some (.int .i64 n.alu)/\W.cell? ⟨w.heap.size,3,none⟩=some (.bool n.wide)/\W.cell? ⟨w.heap.size,4,none⟩=some (.int .i64 n.a)/\W.cell? ⟨w.heap.size,5,none⟩=some (.int .i64 n.b)/\W.cell? ⟨w.heap.size,6,none⟩=some (.int .u64 n.imm)/\W.cell? ⟨w.heap.size,7,none⟩=some (.int .i64 n.size)/\W.cell? ⟨w.heap.size,8,none⟩=some (.int .i64 n.off)/\W.cell? ⟨w.heap.size,9,none⟩=some (.bool n.guard)/\W.cell? ⟨w.heap.size,10,none⟩=some (.slice q n.args.length c)/\W.cell? ⟨w.heap.size,11,none⟩=some (.int .i64 s.at')):=aQ (λ W hb=>by
   have e1:W.cell? ⟨k.wb,1,none⟩=some (.pointer (some ⟨k.gp,k.o,none⟩)):=(hb.cell (p:=⟨k.wb,1,none⟩) (by have:=HX.out.wl;simp;omega)).trans ((b1.cell (p:=⟨k.wb,1,none⟩) HX.out.wl).trans HX.out.w1);rw[<- hs5];exact⟨e1,bE hb rfl,bE hb rfl,bE hb rfl,bE hb rfl,bE hb rfl,bE hb rfl,bE hb rfl,bE hb rfl,bE hb rfl,bE hb rfl,bE hb rfl,bE hb rfl⟩)
  have HMA:Hid (Wt Z ((W5.alloc (aN n s.v q c s.at')).alloc (aN n s.v q c s.at')).drew.drew k { s with v:=s.v+1 } L qn cn qf cf):=aQ (HX.out.next (aD (aD b2)));have HKW:Hid (Kt T w ((W5.alloc (aN n s.v q c s.at')).alloc (aN n s.v q c s.at')).drew.drew):=aQ (((HKX.out).trans ⟨(aD (aD b2):Below W5.heap.size W5 _).size,λ b hx=>(aD (aD b2):Below W5.heap.size W5 _).block b (by rw[hs5];exact(HTT.out b hx).2.1)⟩));have S1:=HSB.out (W5.alloc (aN n s.v q c s.at')).drew (aD (Below.refl _ _));have SA:=HSB.out ((W5.alloc (aN n s.v q c s.at')).alloc (aN n s.v q c s.at')).drew.drew (aD (aD b1));have e0:(W5.alloc (aN n s.v q c s.at')).drew.cell? ⟨k.gp,k.o+2,none⟩=some (.slice qn s.nodes.length cn):=(b1.cell (p:=⟨k.gp,_,none⟩) HX.out.bw.2.2.2).trans HX.out.en
  have HAP:Hid (∀ (w8:World) (q8:Option Addr) (c8:Nat),w8.ownsRow Z.heap.size 111 12 (.slice q8 (s.nodes.length+1) c8) (s.nodes.length+1) (ndsV L ++ ndV { n with id:=s.v,at':=s.at' } q c)->((W5.alloc (aN n s.v q c s.at')).alloc (aN n s.v q c s.at')).drew.drew.grownBy w8 (Value.slice qn s.nodes.length cn).ownBlock->((Value.slice q8 (s.nodes.length+1) c8).ownBlock=(Value.slice qn s.nodes.length cn).ownBlock∨(Value.slice q8 (s.nodes.length+1) c8).ownBlock=some ((W5.alloc (aN n s.v q c s.at')).alloc (aN n s.v q c s.at')).drew.drew.heap.size) ->
    (w8.cell? ⟨k.wb,1,none⟩=some (.pointer (some ⟨k.gp,k.o,none⟩))/\w8.cell? ⟨w.heap.size,0,none⟩=some (.int .i64 n.op)/\w8.cell? ⟨w.heap.size,1,none⟩=some (.int .i64 s.v)/\w8.cell? ⟨w.heap.size,2,none⟩=some (.int .i64 n.alu)/\w8.cell? ⟨w.heap.size,3,none⟩=some (.bool n.wide)/\w8.cell? ⟨w.heap.size,4,none⟩=some (.int .i64 n.a)/\w8.cell? ⟨w.heap.size,5,none⟩=some (.int .i64 n.b)/\w8.cell? ⟨w.heap.size,6,none⟩=some (.int .u64 n.imm)/\w8.cell? ⟨w.heap.size,7,none⟩=some (.int .i64 n.size)/\w8.cell? ⟨w.heap.size,8,none⟩=some (.int .i64 n.off)/\w8.cell? ⟨w.heap.size,9,none⟩=some (.bool n.guard)/\w8.cell? ⟨w.heap.size,10,none⟩=some (.slice q n.args.length c)/\w8.cell? ⟨w.heap.size,11,none⟩=some (.int .i64 s.at'))/\((w8.setCell ⟨k.gp,k.o+2,none⟩ (.slice q8 (s.nodes.length+1) c8)).cell? ⟨k.wb,1,none⟩=some (.pointer (some ⟨k.gp,k.o,none⟩))/\(w8.setCell ⟨k.gp,k.o+2,none⟩ (.slice q8 (s.nodes.length+1) c8)).cell? ⟨w.heap.size,0,none⟩=some (.int .i64 n.op)/\(w8.setCell ⟨k.gp,k.o+2,none⟩ (.slice q8 (s.nodes.length+1) c8)).cell? ⟨w.heap.size,1,none⟩=some (.int .i64 s.v)/\(w8.setCell ⟨k.gp,k.o+2,none⟩ (.slice q8 (s.nodes.length+1) c8)).cell? ⟨w.heap.size,2,none⟩=some (.int .i64 n.alu)/\(w8.setCell ⟨k.gp,k.o+2,none⟩ (.slice q8 (s.nodes.length+1) c8)).cell? ⟨w.heap.size,3,none⟩=some (.bool n.wide)/\(w8.setCell ⟨k.gp,k.o+2,none⟩ (.slice q8 (s.nodes.length+1) c8)).cell? ⟨w.heap.size,4,none⟩=some (.int .i64 n.a)/\(w8.setCell ⟨k.gp,k.o+2,none⟩ (.slice q8 (s.nodes.length+1) c8)).cell? ⟨w.heap.size,5,none⟩=some (.int .i64 n.b)/\(w8.setCell ⟨k.gp,k.o+2,none⟩ (.slice q8 (s.nodes.length+1) c8)).cell? ⟨w.heap.size,6,none⟩=some (.int .u64 n.imm)/\(w8.setCell ⟨k.gp,k.o+2,none⟩ (.slice q8 (s.nodes.length+1) c8)).cell? ⟨w.heap.size,7,none⟩=some (.int .i64 n.size)/\(w8.setCell ⟨k.gp,k.o+2,none⟩ (.slice q8 (s.nodes.length+1) c8)).cell? ⟨w.heap.size,8,none⟩=some (.int .i64 n.off)/\(w8.setCell ⟨k.gp,k.o+2,none⟩ (.slice q8 (s.nodes.length+1) c8)).cell? ⟨w.heap.size,9,none⟩=some (.bool n.guard)/\(w8.setCell ⟨k.gp,k.o+2,none⟩ (.slice q8 (s.nodes.length+1) c8)).cell? ⟨w.heap.size,10,none⟩=some (.slice q n.args.length c)/\(w8.setCell ⟨k.gp,k.o+2,none⟩ (.slice q8 (s.nodes.length+1) c8)).cell? ⟨w.heap.size,11,none⟩=some (.int .i64 s.at'))/\w8.cell? ⟨k.gp,k.o+2,none⟩=some (.slice qn s.nodes.length cn)/\w8.frozen? ⟨k.gp,k.o+2,none⟩=false/\Hid (Wa Z (w8.setCell ⟨k.gp,k.o+2,none⟩ (.slice q8 (s.nodes.length+1) c8)) k { { s with v:=s.v+1 } with nodes:=s.nodes ++ [{ n with id:=s.v,at':=s.at' }] } (Tq n q T)/\Kt T w (w8.setCell ⟨k.gp,k.o+2,none⟩ (.slice q8 (s.nodes.length+1) c8)))):=aQ (λ w8 q8 c8 ho hg hb=>by
   have hx:=put_end HMA.out (HTT.out.next (by have:=HKW.out.size;simp at this ⊢;omega)) rfl ho hg hb (HNA.out.imp id λ ⟨hn,hq⟩=>⟨hn.below (aD (aD b2)),hq⟩);rw[aH]at hg;have hz:∀ b,qn.map Addr.block=some b->Z.heap.size<=b:=λ b e=>(HMA.out.qnz e).1
   have hnb:∀ i v,((W5.alloc (aN n s.v q c s.at')).alloc (aN n s.v q c s.at')).drew.drew.cell? ⟨w.heap.size,i,none⟩=some v->w8.cell? ⟨w.heap.size,i,none⟩=some v:=λ i v e=>hg.cell e (λ e2=>absurd (HX.out.qnz e2.symm).2 (by show ¬ w.heap.size<W5.heap.size;omega))
   obtain⟨a0,a1,a2,a3,a4,a5,a6,a7,a8,a9,a10,a11,a12⟩:=SA;have n1:k.wb≠k.gp:=λ e=>HX.out.bw.2.1 e.symm
   have n2:w.heap.size≠k.gp:=λ e=>by have:=HX.out.bw.2.2.2;omega
   have t0:=HMA.out.mid hg hz HMA.out.nn (.inr (.inr rfl)) a0;refine⟨⟨t0,hnb _ _ a1,hnb _ _ a2,hnb _ _ a3,hnb _ _ a4,hnb _ _ a5,hnb _ _ a6,hnb _ _ a7,hnb _ _ a8,hnb _ _ a9,hnb _ _ a10,hnb _ _ a11,hnb _ _ a12⟩,⟨aL t0 (aM (.inl n1)),aL (hnb _ _ a1) (aM (.inl n2)),aL (hnb _ _ a2) (aM (.inl n2)),aL (hnb _ _ a3) (aM (.inl n2)),aL (hnb _ _ a4) (aM (.inl n2)),aL (hnb _ _ a5) (aM (.inl n2)),aL (hnb _ _ a6) (aM (.inl n2)),aL (hnb _ _ a7) (aM (.inl n2)),aL (hnb _ _ a8) (aM (.inl n2)),aL (hnb _ _ a9) (aM (.inl n2)),aL (hnb _ _ a10) (aM (.inl n2)),aL (hnb _ _ a11) (aM (.inl n2)),aL (hnb _ _ a12) (aM (.inl n2))⟩,HMA.out.mid hg hz HMA.out.nn (.inr (.inl rfl)) HMA.out.en,(HMA.out.midf hg hz HMA.out.nn (.inr (.inl rfl))).trans (HMA.out.fg _),aQ ⟨hx.1,HKW.out.trans hx.2⟩⟩)
  have HOW:=aQ HMA.out.on;have HBW:=aQ HMA.out.size;have HNL:Hid (∀ j u,(ndV { n with id:=s.v,at':=s.at' } q c)[j]?=some u->((W5.alloc (aN n s.v q c s.at')).alloc (aN n s.v q c s.at')).drew.drew.cell? ((⟨w.heap.size+1,0,none⟩:Addr).add j)=some u):=aQ (J.new_cells1 (W5.alloc (aN n s.v q c s.at')) _ _ (by rw[World.size_alloc,hs5]));have HL1:Hid (∀ u∈ndV { n with id:=s.v,at':=s.at' } q c,u.oneCell'=true):=aQ (λ u hu=>nd_one hu);have hgl:=HX.out.bw.2.2.2;have en5:W5.cell? ⟨k.gp,k.o+2,none⟩=some (.slice qn s.nodes.length cn):=HX.out.en;have hfg:∀ W:World,W=(W5.alloc (aN n s.v q c s.at')).drew->W.frozen? ⟨k.gp,k.o+2,none⟩=false:=λ W e=>by rw[e];exact(b1.frozen (p:=⟨k.gp,_,none⟩) hgl).trans (HX.out.fg _)
  rw[hW5];clear HX0 hW5;refine wp_region_held_drew (S:=(λ W'=>W'.cell? ⟨k.wb,1,none⟩=some (.pointer (some ⟨k.gp,k.o,none⟩))/\W'.cell? ⟨w.heap.size,0,none⟩=some (.int .i64 n.op)/\W'.cell? ⟨w.heap.size,1,none⟩=some (.int .i64 s.v)/\W'.cell? ⟨w.heap.size,2,none⟩=some (.int .i64 n.alu)/\W'.cell? ⟨w.heap.size,3,none⟩=some (.bool n.wide)/\W'.cell? ⟨w.heap.size,4,none⟩=some (.int .i64 n.a)/\W'.cell? ⟨w.heap.size,5,none⟩=some (.int .i64 n.b)/\W'.cell? ⟨w.heap.size,6,none⟩=some (.int .u64 n.imm)/\W'.cell? ⟨w.heap.size,7,none⟩=some (.int .i64 n.size)/\W'.cell? ⟨w.heap.size,8,none⟩=some (.int .i64 n.off)/\W'.cell? ⟨w.heap.size,9,none⟩=some (.bool n.guard)/\W'.cell? ⟨w.heap.size,10,none⟩=some (.slice q n.args.length c)/\W'.cell? ⟨w.heap.size,11,none⟩=some (.int .i64 s.at'))) (by kernel_rfl) ?_ (λ hHeld=>?_)
  ·(try dsimp only);first|exact S1|exact SA|exact S8|exact S9
  refine aT 0 rfl (h:=aT 1 rfl (h:=aT 2 rfl (h:=aT 3 rfl (h:=aT 4 rfl (h:=?_)))));try simp only[Act.put,aA,aB,aC]
  refine aT 5 rfl (h:=aT 6 rfl (h:=aT 7 rfl (h:=aT 8 rfl (h:=aT 9 rfl (h:=?_)))));try simp only[Act.put,aA,aB,aC]
  refine aT 11 rfl (h:=?_);try simp only[Act.put,aA,aB,aC]
  refine bY 10 12 (by kernel_rfl) rfl rfl (λ K hK=>?_) (λ K hK=>?_)
  ·
   go_simp
   refine hK.out _ _ ?_ (λ hHeld=>?_)
   ·(try dsimp only);first|exact S1|exact SA|exact S8|exact S9
   clear hK K;try simp only[Act.put,aA,aB,aC]
   refine aK 12 (by kernel_rfl) rfl (λ K hK=>?_);go_simp
   refine hK.out _ _ ?_ (λ hHeld=>?_)
   ·(try dsimp only);first|exact S1|exact SA|exact S8|exact S9
   clear hK K;try simp only[Act.put,aA,aB,aC]
   refine aK 13 (by kernel_rfl) rfl (λ K hK=>?_)
   (refine fX rfl (.tmp 30) (.tmp 32) rfl rfl Z.heap.size ⟨w.heap.size+1,0,none⟩ (ndV { n with id:=s.v,at':=s.at' } q c) (ndsV L) (.slice qn s.nodes.length cn) s.nodes.length 1 (by simp[Act.eval]) (by simp[Act.eval];try omega) HOW.out rfl HNL.out HL1.out HBW.out hl ?_;intro v8 w8 ho8 hg8 hb8;obtain⟨q8,c8,rfl⟩:=aW ho8;obtain⟨S8,S9,e8,fz8,HPX⟩:=HAP.out w8 q8 c8 ho8 hg8 hb8;clear ho8 hg8 hb8)
   refine hK.out _ _ ?_ (λ hHeld=>?_)
   ·(try dsimp only);first|exact S1|exact SA|exact S8|exact S9
   clear hK K;try simp only[Act.put,aA,aB,aC]
   refine aT 14 rfl (h:=aT 15 rfl (h:=?_));try simp only[Act.put,aA,aB,aC]
   refine aK 16 (by kernel_rfl) rfl (λ K hK=>?_);go_simp
   refine hK.out _ _ ?_ (λ hHeld=>?_)
   ·(try dsimp only);first|exact S1|exact SA|exact S8|exact S9
   clear hK K;try simp only[Act.put,aA,aB,aC]
   refine wpAnyH_done (by kernel_rfl) ?_ _;go_wp2_with fail
   go_ret;exact⟨rfl,HPX.out⟩
  ·
   go_simp
   refine hK.out _ _ ?_ (λ hHeld=>?_)
   ·(try dsimp only);first|exact S1|exact SA|exact S8|exact S9
   clear hK K;try simp only[Act.put,aA,aB,aC]
   refine aK 10 (by kernel_rfl) rfl (λ K hK=>?_);go_simp
   refine hK.out _ _ ?_ (λ hHeld=>?_)
   ·(try dsimp only);first|exact S1|exact SA|exact S8|exact S9
   clear hK K;try simp only[Act.put,aA,aB,aC]
   refine aK 13 (by kernel_rfl) rfl (λ K hK=>?_)
   (refine fX rfl (.tmp 30) (.tmp 32) rfl rfl Z.heap.size ⟨w.heap.size+1,0,none⟩ (ndV { n with id:=s.v,at':=s.at' } q c) (ndsV L) (.slice qn s.nodes.length cn) s.nodes.length 1 (by simp[Act.eval]) (by simp[Act.eval];try omega) HOW.out rfl HNL.out HL1.out HBW.out hl ?_;intro v8 w8 ho8 hg8 hb8;obtain⟨q8,c8,rfl⟩:=aW ho8;obtain⟨S8,S9,e8,fz8,HPX⟩:=HAP.out w8 q8 c8 ho8 hg8 hb8;clear ho8 hg8 hb8)
   refine hK.out _ _ ?_ (λ hHeld=>?_)
   ·(try dsimp only);first|exact S1|exact SA|exact S8|exact S9
   clear hK K;try simp only[Act.put,aA,aB,aC]
   refine aT 14 rfl (h:=aT 15 rfl (h:=?_));try simp only[Act.put,aA,aB,aC]
   refine aK 16 (by kernel_rfl) rfl (λ K hK=>?_);go_simp
   refine hK.out _ _ ?_ (λ hHeld=>?_)
   ·(try dsimp only);first|exact S1|exact SA|exact S8|exact S9
   clear hK K;try simp only[Act.put,aA,aB,aC]
   refine wpAnyH_done (by kernel_rfl) ?_ _;go_wp2_with fail
   go_ret;exact⟨rfl,HPX.out⟩
structure Bq(s:Wq)(d:Nat):Prop where
 v0:0<=s.v
 v1:s.v+d<=1099511627776
 n:s.nodes.length+d<=4194304
theorem Bq.put{s:Wq}{d:Nat}(h:Bq s (d+1))(n:Nd):Bq (putS s n) d:=by
 obtain⟨h1,h2,h3⟩:=h;refine⟨?_,?_,by unfold putS;simp;omega⟩
 ·unfold putS;dsimp only;split <;> omega
 ·unfold putS;dsimp only;split <;> omega
theorem Bq.mono{s:Wq}{d d':Nat}(h:Bq s d)(hd:d'<=d):Bq s d':=⟨h.v0,by have:=h.v1;omega,by have:=h.n;omega⟩
theorem Bq.num{s:Wq}{d:Nat}(h:Bq s (d+1))(x:Int):Bq (numS s x) d:=h.put _
theorem Wa.now{Z W:World}{k:Kx}{s:Wq}{T:Nat->Prop}(h:Wa Z W k s T):k.wb<W.heap.size/\(∀ r,r<11->W.cell? ⟨k.wb,2+r,none⟩=some (.int .i64 (s.now r)))/\W.cell? ⟨k.wb,0,none⟩=some (.pointer (some ⟨k.bb,0,none⟩))/\W.cell? ⟨k.wb,1,none⟩=some (.pointer (some ⟨k.gp,k.o,none⟩))/\W.cell? ⟨k.wb,13,none⟩=some (.int .i64 s.at'):=by
 obtain⟨L,qn,cn,qf,cf,h,_⟩:=h;exact⟨h.wl,h.wn,h.w0,h.w1,h.w13⟩
theorem sput_p{Z:World}{k:Kx}{s:Wq}{T:Nat->Prop}(n:Nd)(w:World)(h0:Wa Z w k s T)(ha:n.args=[])(hq:Bq s 1) :
  Calls Tryz.prog 141 #[.pointer (some ⟨k.wb,0,none⟩),.agg #[.int .i64 n.op,.int .i64 n.id,.int .i64 n.alu,.bool n.wide,.int .i64 n.a,.int .i64 n.b,.int .u64 n.imm,.int .i64 n.size,.int .i64 n.off,.bool n.guard,.slice none n.args.length 0,.int .i64 n.at']] w λ e w'=>e=.returned (.int .i64 (putR s n))/\Wa Z w' k (putS s n) T/\Kt T w w' :=
 (gI n none 0 w h0 (.inl ha) hq.v0 (by have:=hq.v1;omega) (by have:=hq.n;omega)).mono λ _ _ ⟨h1,h2,h3⟩=>⟨h1,h2.mono (λ _ h=>⟨h,.inl ha⟩),h3⟩
theorem snum_any{Z:World}{k:Kx}{s:Wq}{T:Nat->Prop}(x:Int)(w:World)(h0:Wa Z w k s T)(hq:Bq s 1) :
  Calls Tryz.prog 140 #[.pointer (some ⟨k.wb,0,none⟩),.int .u64 x] w λ e w'=>e=.returned (.int .i64 s.v)/\Wa Z w' k (numS s x) T/\Kt T w w':=by
 have HP:=aQ (sput_p (numN x) w h0 rfl hq);have e1:putR s (numN x)=s.v:=rfl;rw[e1]at HP;have e2:putS s (numN x)=numS s x:=rfl;rw[e2]at HP;simp only[numN,Nd.z,List.length_nil]at HP;clear h0 hq e1 e2;go_enter Tryz.func140,Tryz.ntmps140
 go_wp2_with (go_at_call 141;(with_reducible refine HP.out.mono ?_);rintro e w1 ⟨rfl,h1⟩;have H1:=aQ h1;clear h1)
 go_ret;exact⟨rfl,H1.out⟩
theorem i64_and8'(n:Int):bits .and .i64 n 8=if rg n=true then 8 else 0:=by
 rw[i64_and8];unfold rg;simp
def Tn(T:Nat->Prop)(w w':World):Nat->Prop:=λ b=>T b∨(w.heap.size<=b/\b<w'.heap.size)
theorem Wa.tn{Z W W':World}{k:Kx}{s:Wq}{T:Nat->Prop}(h:Wa Z W k s T)(hb:Below W.heap.size W W'):Wa Z W' k s (Tn T W W'):=h.temp hb
theorem Tn.old{T:Nat->Prop}{w w':World}:∀ x,T x->Tn T w w' x:=λ _ h=>.inl h
theorem tn_fin{Z w W w':World}{k:Kx}{s s':Wq}{T:Nat->Prop}(h0:Wa Z w k s T)(hb:Below w.heap.size w W)(h:Wa Z w' k s' (Tn T w W)/\Kt (Tn T w W) W w'):Wa Z w' k s' T/\Kt T w w' :=
 ⟨h.1.mono Tn.old,(h0.kt hb).trans (h.2.mono Tn.old)⟩
theorem sopd_any{Z:World}{k:Kx}{s:Wq}{T:Nat->Prop}(x:In)(wide:Bool)(w:World)(h0:Wa Z w k s T)(hq:Bq s 1)(hs:0<=x.src/\x.src<=10) :
  Calls Tryz.prog 164 #[.pointer (some ⟨k.wb,0,none⟩),.agg #[.int .i64 x.op,.int .i64 x.dst,.int .i64 x.src,.int .i64 x.off,.int .i64 x.imm,.int .u64 x.wide],.bool wide] w λ e w'=>e=.returned (.int .i64 (opdR s x))/\Wa Z w' k (opdS s x wide) T/\Kt T w w':=by
 have HA:=aQ (i64_and8' x.op);have H0:=aQ h0;obtain⟨j,hj⟩:∃ j:Nat,x.src=(j:Int):=⟨x.src.toNat,by omega⟩;have hj11:j<11:=by omega
 unfold opdR opdS;rw[hj,Int.toNat_natCast];cases hr:rg x.op with
 | true =>
  rw[hr]at HA;have ha:bits .and .i64 x.op 8=8:=HA.out;obtain⟨l,hn,_⟩:=h0.now;have hn':=hn j hj11;rw[if_pos rfl,if_pos rfl];clear hn hr HA h0;go_enter Tryz.func164,Tryz.ntmps164
  go_wp2_with fail
  go_region
  all_goals go_wp2_with fail
  all_goals go_ret
  all_goals exact⟨rfl,H0.out.next (aD b1),H0.out.kt (aD b1)⟩
 | false =>
  rw[hr]at HA;have ha:bits .and .i64 x.op 8=0:=HA.out;have HI:=aQ (λ W=>simm_any x.imm wide W);have HN:=aQ (λ v W (hb:Below w.heap.size w W)=>snum_any v W (h0.tn hb) hq);have HF:=aQ (λ W w' s' (hb:Below w.heap.size w W) h=>tn_fin (w':=w') (s':=s') h0 hb h);rw[if_neg (by simp),if_neg (by simp)];clear hr HA h0;go_enter Tryz.func164,Tryz.ntmps164
  go_wp2_with (first
   | (go_at_call 183;(with_reducible refine(HI.out _).mono ?_);rintro e w1 ⟨rfl,rfl⟩)
   | (go_at_call 140;(with_reducible refine(HN.out _ _ b1).mono ?_);rintro e w2 ⟨rfl,h2⟩;have H2:=aQ (HF.out _ _ _ b1 h2);clear h2))
  go_ret;exact⟨rfl,H2.out⟩
structure Ri(x:In):Prop where
 dst:0<=x.dst/\x.dst<=10
 src:0<=x.src/\x.src<=10
theorem opd_now(s:Wq)(x:In)(wide:Bool):(opdS s x wide).now=s.now:=by unfold opdS numS putS;split <;> rfl
theorem opd_bq{s:Wq}{d:Nat}(h:Bq s (d+1))(x:In)(wide:Bool):Bq (opdS s x wide) d:=by
 unfold opdS;split
 ·exact h.mono (by omega)
 ·exact h.num _
theorem salu_any{Z:World}{k:Kx}{s:Wq}{T:Nat->Prop}(x:In)(op:Int)(wide:Bool)(w:World)(h0:Wa Z w k s T)(hq:Bq s 2)(hr:Ri x) :
  Calls Tryz.prog 159 #[.pointer (some ⟨k.wb,0,none⟩),.agg #[.int .i64 x.op,.int .i64 x.dst,.int .i64 x.src,.int .i64 x.off,.int .i64 x.imm,.int .u64 x.wide],.int .i64 op,.bool wide] w λ e w'=>e=.returned (.int .i64 (aluR s x op wide))/\Wa Z w' k (aluS s x op wide) T/\Kt T w w':=by
 have HA:=aQ (i64_and8' x.op);have H0:=aQ h0;have HT0:=aQ (λ W (hb:Below w.heap.size w W)=>h0.tn hb);have HO:=aQ (λ W (hb:Below w.heap.size w W)=>sopd_any x wide W (h0.tn hb) (hq.mono (by omega)) hr.src);have HF:=aQ (λ W w' s' (hb:Below w.heap.size w W) h=>tn_fin (w':=w') (s':=s') h0 hb h);have HP:=aQ (λ (s1:Wq) (n:Nd) (T1:Nat->Prop) (W:World) (h1:Wa Z W k s1 T1) (hq1:Bq s1 1) (ha:n.args=[])=>sput_p n W h1 ha hq1);obtain⟨j,hj⟩:∃ j:Nat,x.dst=(j:Int):=⟨x.dst.toNat,by have:=hr.dst;omega⟩;have hj11:j<11:=by have:=hr.dst;omega
 have HQ1:Hid (Bq (aluM s x op wide) 1):=aQ (by
  unfold aluM;split
  ·exact hq.mono (by omega)
  ·exact opd_bq hq _ _)
 have HR:Hid (aluR s x op wide=if aluC x op wide=true then aluO s x op else (aluM s x op wide).v):=aQ rfl;have HS:Hid (aluS s x op wide=if aluC x op wide=true then aluM s x op wide else putS (aluM s x op wide) (aluN op wide (aluA s x op) (aluO s x op))):=aQ rfl;have HM:Hid (aluM s x op wide=if op=128 then s else opdS s x wide):=aQ rfl;have HOO:Hid (aluO s x op=if op=128 then s.now j else opdR s x):=aQ (by unfold aluO;rw[hj,Int.toNat_natCast]);have HAA:Hid (aluA s x op=if op=176 then aluO s x op else s.now j):=aQ (by unfold aluA;rw[hj,Int.toNat_natCast]);have HC:Hid (aluC x op wide=(decide (op=176) && (wide || !rg x.op))):=aQ rfl;rw[hj]at HO ⊢;obtain⟨l,hn,_⟩:=h0.now;have hn':=hn j hj11;have HPX:Hid (∀ (s1:Wq) (a b:Int) (T1:Nat->Prop) (W:World),Wa Z W k s1 T1->Bq s1 1->Calls Tryz.prog 141 #[.pointer (some ⟨k.wb,0,none⟩),.agg #[.int .i64 4,.int .i64 0,.int .i64 op,.bool wide,.int .i64 a,.int .i64 b,.int .u64 0,.int .i64 0,.int .i64 0,.bool false,.slice none 0 0,.int .i64 0]] W λ e w'=>e=.returned (.int .i64 s1.v)/\Wa Z w' k (putS s1 (aluN op wide a b)) T1/\Kt T1 W w'):=aQ (λ s1 a b T1 W h1 h2=>HP.out s1 (aluN op wide a b) T1 W h1 h2 rfl);clear hn h0 hq hr hj HP;by_cases h128:op=128
 ·have hc:aluC x op wide=false:=by rw[HC.out,decide_eq_false (by omega)];rfl
  rw[HR.out,HS.out,hc,if_neg (by simp),if_neg (by simp)];have e1:=HM.out;have e2:=HOO.out;have e3:=HAA.out;rw[if_pos h128]at e1 e2;rw[if_neg (by omega)]at e3;have HQ2:=HQ1;rw[e1]at HQ2;rw[e1,e2,e3];clear e1 e2 e3 hc HR HS HM HOO HAA HC HQ1;subst h128;go_enter Tryz.func159,Tryz.ntmps159
  go_wp2_with fail
  go_region
  all_goals go_wp2_with (go_at_call 141;(with_reducible refine(HPX.out s (s.now j) (s.now j) _ _ (HT0.out _ (aD b1)) HQ2.out).mono ?_);rintro e w3 ⟨rfl,h3⟩;have H3:=aQ (HF.out _ _ _ (aD b1) h3);clear h3)
  all_goals go_ret
  all_goals exact⟨rfl,H3.out⟩
 ·have bn:(op != 128)=true:=by simpa using h128
  have e1:=HM.out;have e2:=HOO.out;rw[if_neg h128]at e1 e2;by_cases h176:op=176
  ·have e3:=HAA.out
   rw[if_pos h176,e2]at e3;have e4:=HC.out;rw[decide_eq_true h176,Bool.true_and]at e4;rw[HR.out,HS.out,e1,e2,e3,e4];have HQ2:=HQ1;rw[e1]at HQ2;clear e1 e2 e3 e4 HR HS HM HOO HAA HC HQ1 h128;subst h176;cases wide with
   | true =>
    rw[Bool.true_or,if_pos rfl,if_pos rfl];go_enter Tryz.func159,Tryz.ntmps159
    go_wp2_with fail
    go_region
    all_goals go_wp2_with (go_at_call 164;(with_reducible refine(HO.out _ (aD b1)).mono ?_);rintro e w2 ⟨rfl,h2⟩;have e0:=h2.2.cell (x:=w.heap.size) (o:=0) (.inr ⟨Nat.le_refl _,by simp⟩) (aJ w rfl);have l0:w.heap.size<w2.heap.size:=Nat.lt_of_lt_of_le (by simp) h2.2.size;have H2R:=aQ h2;have H2:=aQ (HF.out _ _ _ (aD b1) h2);clear h2)
    all_goals go_ret
    all_goals exact⟨rfl,H2.out⟩
   | false =>
    rw[Bool.false_or];cases hrg:rg x.op with
    | false =>
     rw[hrg]at HA;have ha:bits .and .i64 x.op 8=0:=HA.out;rw[Bool.not_false,if_pos rfl,if_pos rfl];clear HA hrg;go_enter Tryz.func159,Tryz.ntmps159
     go_wp2_with fail
     go_region
     all_goals go_wp2_with (go_at_call 164;(with_reducible refine(HO.out _ (aD b1)).mono ?_);rintro e w2 ⟨rfl,h2⟩;have e0:=h2.2.cell (x:=w.heap.size) (o:=0) (.inr ⟨Nat.le_refl _,by simp⟩) (aJ w rfl);have l0:w.heap.size<w2.heap.size:=Nat.lt_of_lt_of_le (by simp) h2.2.size;have H2R:=aQ h2;have H2:=aQ (HF.out _ _ _ (aD b1) h2);clear h2)
     all_goals go_ret
     all_goals exact⟨rfl,H2.out⟩
    | true =>
     rw[hrg]at HA;have ha:bits .and .i64 x.op 8=8:=HA.out;rw[Bool.not_true,if_neg (by simp),if_neg (by simp)];clear HA hrg;go_enter Tryz.func159,Tryz.ntmps159
     go_wp2_with fail
     go_region
     all_goals go_wp2_with (first
      | (go_at_call 164;(with_reducible refine(HO.out _ (aD b1)).mono ?_);rintro e w2 ⟨rfl,h2⟩;have e0:=h2.2.cell (x:=w.heap.size) (o:=0) (.inr ⟨Nat.le_refl _,by simp⟩) (aJ w rfl);have l0:w.heap.size<w2.heap.size:=Nat.lt_of_lt_of_le (by simp) h2.2.size;have H2R:=aQ h2;have H2:=aQ (HF.out _ _ _ (aD b1) h2);clear h2)
      | (go_at_call 141;(with_reducible refine(HPX.out _ _ _ _ _ H2R.out.1 HQ2.out).mono ?_);rintro e w3 ⟨rfl,h3⟩;have H3:=aQ (HF.out _ _ _ (aD b1) ⟨h3.1,H2R.out.2.trans h3.2⟩);clear h3))
     all_goals go_ret
     all_goals exact⟨rfl,H3.out⟩
  ·have e3:=HAA.out
   rw[if_neg h176]at e3;have e4:=HC.out;rw[decide_eq_false h176,Bool.false_and]at e4;rw[HR.out,HS.out,e1,e2,e3,e4,if_neg (by simp),if_neg (by simp)];have HQ2:=HQ1;rw[e1]at HQ2;have bm:(op == 176)=false:=by simpa using h176
   clear e1 e2 e3 e4 HR HS HM HOO HAA HC HQ1 h128 h176;go_enter Tryz.func159,Tryz.ntmps159
   go_wp2_with fail
   go_region
   all_goals go_wp2_with (first
    | (go_at_call 164;(with_reducible refine(HO.out _ (aD b1)).mono ?_);rintro e w2 ⟨rfl,h2⟩;have e0:=h2.2.cell (x:=w.heap.size) (o:=0) (.inr ⟨Nat.le_refl _,by simp⟩) (aJ w rfl);have l0:w.heap.size<w2.heap.size:=Nat.lt_of_lt_of_le (by simp) h2.2.size;have H2R:=aQ h2;have H2:=aQ (HF.out _ _ _ (aD b1) h2);clear h2)
    | (go_at_call 141;(with_reducible refine(HPX.out _ _ _ _ _ H2R.out.1 HQ2.out).mono ?_);rintro e w3 ⟨rfl,h3⟩;have H3:=aQ (HF.out _ _ _ (aD b1) ⟨h3.1,H2R.out.2.trans h3.2⟩);clear h3))
   all_goals go_ret
   all_goals exact⟨rfl,H3.out⟩
theorem Wa.tlt{Z W:World}{k:Kx}{s:Wq}{T:Nat->Prop}(h:Wa Z W k s T):∀ x,T x->x<W.heap.size:=by
 obtain⟨L,qn,cn,qf,cf,h,ht⟩:=h;exact λ x hx=>(ht x hx).2.1
theorem Kt.tset{T:Nat->Prop}{w w2:World}(h:Kt T w w2)(hT:∀ x,T x->x<w.heap.size){b:Nat}(hb:w.heap.size<=b)(j:Nat)(v:Value):Kt T w (w2.setCell ⟨b,j,none⟩ v) :=
 ⟨by simpa[World.setCell]using h.size,λ x hx=>((bC w2 ⟨b,j,none⟩ v).block x (Nat.lt_of_lt_of_le (hT x hx) h.size) (λ e=>by
  have e2:x=b:=Option.some.inj e;have:=hT x hx;omega)).trans (h.blk x hx)⟩
theorem tn_cells{T:Nat->Prop}{w w2:World}{o1:Obj}{cs:Array Value}{t:TypeId}(h:Kt (Tn T w ((w.alloc o1).alloc (.cells cs t)).drew) ((w.alloc o1).alloc (.cells cs t)).drew w2):(∀ i v,cs[i]?=some v->w2.cell? ⟨w.heap.size+1,i,none⟩=some v)/\(∀ i,w2.frozen? ⟨w.heap.size+1,i,none⟩=false)/\w.heap.size+1<w2.heap.size:=by
 have hm:Tn T w ((w.alloc o1).alloc (.cells cs t)).drew (w.heap.size+1):=.inr ⟨by omega,by simp⟩;refine⟨λ i v hv=>h.cell hm (cZ w o1 trivial hv),λ i=>(h.fz hm).trans ?_,Nat.lt_of_lt_of_le (by simp) h.size⟩;have:=World.frozen?_alloc_new (w.alloc o1) cs t i;rw[World.size_alloc]at this;exact this
theorem sacc_any{Z:World}{k:Kx}{s:Wq}{T:Nat->Prop}(x:In)(w:World)(h0:Wa Z w k s T)(hq:Bq s 2)(hr:Ri x) :
  Calls Tryz.prog 163 #[.pointer (some ⟨k.wb,0,none⟩),.agg #[.int .i64 x.op,.int .i64 x.dst,.int .i64 x.src,.int .i64 x.off,.int .i64 x.imm,.int .u64 x.wide]] w λ e w'=>e=.returned (.int .i64 (accR s x))/\Wa Z w' k (accS s x) T/\Kt T w w':=by
 have H0:=aQ h0;have HT0:=aQ (λ W (hb:Below w.heap.size w W)=>h0.tn hb);have HF:=aQ (λ W w' s' (hb:Below w.heap.size w W) h=>tn_fin (w':=w') (s':=s') h0 hb h);have HZ:=aQ (λ W=>size_any x.op W);have HC:=aQ (λ W=>sclass_any x.op W);have HI:=aQ (λ W=>simm_any x.imm true W);have HN:=aQ (λ v W (hb:Below w.heap.size w W)=>snum_any v W (h0.tn hb) (hq.mono (by omega)));have HP:=aQ (λ (s1:Wq) (n:Nd) (T1:Nat->Prop) (W:World) (h1:Wa Z W k s1 T1) (hq1:Bq s1 1) (ha:n.args=[])=>sput_p n W h1 ha hq1);have HPX:Hid (∀ (s1:Wq) (op a b:Int) (T1:Nat->Prop) (W:World),Wa Z W k s1 T1->Bq s1 1->Calls Tryz.prog 141 #[.pointer (some ⟨k.wb,0,none⟩),.agg #[.int .i64 op,.int .i64 0,.int .i64 0,.bool false,.int .i64 a,.int .i64 b,.int .u64 0,.int .i64 (dJ x.op),.int .i64 x.off,.bool true,.slice none 0 0,.int .i64 0]] W λ e w'=>e=.returned (.int .i64 (if op=6 then -1 else s1.v))/\Wa Z w' k (putS s1 (accN op a b x)) T1/\Kt T1 W w'):=aQ (λ s1 op a b T1 W h1 h2=>HP.out s1 (accN op a b x) T1 W h1 h2 rfl);obtain⟨j,hj⟩:∃ j:Nat,x.dst=(j:Int):=⟨x.dst.toNat,by have:=hr.dst;omega⟩;have hj11:j<11:=by have:=hr.dst;omega
 obtain⟨i,hi⟩:∃ i:Nat,x.src=(i:Int):=⟨x.src.toNat,by have:=hr.src;omega⟩;have hi11:i<11:=by have:=hr.src;omega
 have HQ1:Hid (Bq s 1/\∀ v,Bq (numS s v) 1):=aQ ⟨hq.mono (by omega),λ v=>hq.num v⟩;have HR:Hid (accR s x=if x.op % 8=1 then s.v else -1):=aQ rfl;have HS:Hid (accS s x=if x.op % 8=1 then putS s (accN 5 (s.now i) 0 x)else if x.op % 8=3 then putS s (accN 6 (s.now j) (s.now i) x)else putS (numS s (immV x.imm true)) (accN 6 (s.now j) s.v x)):=aQ (by unfold accS;rw[hj,hi,Int.toNat_natCast,Int.toNat_natCast]);rw[hj,hi];obtain⟨l,hn,_⟩:=h0.now;have hn':=hn j hj11;have hm':=hn i hi11;have HG:Hid (∀ (o1 o2:Obj) (w2 w3:World) {s':Wq},Kt (Tn T w ((w.alloc o1).alloc o2).drew) ((w.alloc o1).alloc o2).drew w2->Wa Z w3 k s' (Tn T w ((w.alloc o1).alloc o2).drew)->Kt (Tn T w ((w.alloc o1).alloc o2).drew) (w2.setCell ⟨w.heap.size+1,5,none⟩ (.int .i64 s.v)) w3->Wa Z w3 k s' T/\Kt T w w3):=aQ (λ o1 o2 w2 w3 s' h1 h2 h3=>⟨h2.mono Tn.old,((((h0.kt (aD b2)).trans (h1.mono Tn.old)).tset h0.tlt (by omega) 5 _)).trans (h3.mono Tn.old)⟩);clear hn h0 hq hr hj hi HP;obtain⟨R,hR⟩:∃ R,accR s x=R:=⟨_,rfl⟩;obtain⟨S',hS⟩:∃ R,accS s x=R:=⟨_,rfl⟩;rw[hR]at HR ⊢;rw[hS]at HS ⊢;clear hR hS;go_enter Tryz.func163,Tryz.ntmps163
 go_wp2_with fail
 have HSB:Hid (∀ W,Below (w.alloc (.cells #[.int .i64 x.op,.int .i64 (j:Int),.int .i64 (i:Int),.int .i64 x.off,.int .i64 x.imm,.int .u64 x.wide] 65)).heap.size (w.alloc (.cells #[.int .i64 x.op,.int .i64 (j:Int),.int .i64 (i:Int),.int .i64 x.off,.int .i64 x.imm,.int .u64 x.wide] 65)) W->W.cell? ⟨k.wb,2+j,none⟩=some (.int .i64 (s.now j))/\W.cell? ⟨w.heap.size,0,none⟩=some (.int .i64 x.op)/\W.cell? ⟨w.heap.size,1,none⟩=some (.int .i64 (j:Int))/\W.cell? ⟨w.heap.size,3,none⟩=some (.int .i64 x.off)):=aQ (λ W hb=>⟨(hb.cell (p:=⟨k.wb,_,none⟩) (by simp;omega)).trans ((b1.cell (p:=⟨k.wb,_,none⟩) l).trans hn'),bE hb rfl,bE hb rfl,bE hb rfl⟩);have S1:=HSB.out _ (Below.refl _ _);have SA:=HSB.out _ ((Below.refl _ _).alloc (Nat.le_refl _) (.cells #[.int .i64 0,.int .i64 0,.int .i64 0,.bool false,.int .i64 0,.int .i64 0,.int .u64 0,.int .i64 0,.int .i64 0,.bool false,.slice none 0 0,.int .i64 0] 111));have hjI:(j:Int)<11:=by omega
 have hjI0:(0:Int)<=(j:Int):=by omega
 have hiI:(i:Int)<11:=by omega
 have hiI0:(0:Int)<=(i:Int):=by omega
 go_cut [5] (λ s5 wx=>s5=.pointer (some ⟨w.heap.size+1,0,none⟩)/\wx=((w.alloc (.cells #[.int .i64 x.op,.int .i64 (j:Int),.int .i64 (i:Int),.int .i64 x.off,.int .i64 x.imm,.int .u64 x.wide] 65)).alloc (.cells #[.int .i64 6,.int .i64 0,.int .i64 0,.bool false,.int .i64 (s.now j),.int .i64 0,.int .u64 0,.int .i64 (dJ x.op),.int .i64 x.off,.bool true,.slice none 0 0,.int .i64 0] 111)).drew)
 case first =>
  go_region_held3 (λ W'=>W'.cell? ⟨k.wb,2+j,none⟩=some (.int .i64 (s.now j))/\W'.cell? ⟨w.heap.size,0,none⟩=some (.int .i64 x.op)/\W'.cell? ⟨w.heap.size,1,none⟩=some (.int .i64 (j:Int))/\W'.cell? ⟨w.heap.size,3,none⟩=some (.int .i64 x.off))
   (first|with_reducible exact S1|with_reducible exact SA|exact S1|exact SA|exact HSB.out _ (by first|exact aD (Below.refl _ _)|exact aD ((Below.refl _ _).alloc (Nat.le_refl _) _)))
   (first|(go_at_call 162;(with_reducible refine(HZ.out _).mono ?_);rintro e w1 ⟨rfl,rfl⟩))
  all_goals (go_wp2_with fail;go_meet)
  all_goals exact⟨rfl,rfl⟩
 case rest =>
  obtain⟨rfl,hwx⟩:=hcut;rw[hwx];clear hwx;clear S1 SA HSB;by_cases c1:x.op % 8=1
  ·have HER:=aQ (HR.out.trans (if_pos c1))
   have HES:=aQ (HS.out.trans (if_pos c1));have HC1:Hid (∀ W,Calls Tryz.prog 139 #[.int .i64 x.op] W λ e w'=>e=.returned (.int .i64 1)/\W=w'):=aQ (λ W=>by have:=HC.out W;rw[c1]at this;exact this);clear HR HS c1;go_wp2_with (go_at_call 139;(with_reducible refine(HC1.out _).mono ?_);rintro e w1 ⟨rfl,rfl⟩)
   go_region
   all_goals go_wp2_with (go_at_call 141;(with_reducible refine(HPX.out s 5 (s.now i) 0 _ _ (HT0.out _ (by first|exact aD (aD b2)|exact aD b2)) HQ1.out.1).mono ?_);rintro e w3 ⟨rfl,h3⟩;have H3:=aQ (HF.out _ _ _ (by first|exact aD (aD b2)|exact aD b2) h3);clear h3)
   all_goals go_ret
   all_goals exact⟨by rw[HER.out];rfl,by rw[HES.out];exact H3.out⟩
  ·by_cases c3:x.op % 8=3
   ·have HER:=aQ (HR.out.trans (if_neg c1))
    have HES:=aQ (HS.out.trans ((if_neg c1).trans (if_pos c3)));have HC1:Hid (∀ W,Calls Tryz.prog 139 #[.int .i64 x.op] W λ e w'=>e=.returned (.int .i64 3)/\W=w'):=aQ (λ W=>by have:=HC.out W;rw[c3]at this;exact this);clear HR HS c1 c3;go_wp2_with (go_at_call 139;(with_reducible refine(HC1.out _).mono ?_);rintro e w1 ⟨rfl,rfl⟩)
    go_region
    all_goals go_wp2_with (go_at_call 141;(with_reducible refine(HPX.out s 6 (s.now j) (s.now i) _ _ (HT0.out _ (by first|exact aD (aD b2)|exact aD b2)) HQ1.out.1).mono ?_);rintro e w3 ⟨rfl,h3⟩;have H3:=aQ (HF.out _ _ _ (by first|exact aD (aD b2)|exact aD b2) h3);clear h3)
    all_goals go_ret
    all_goals exact⟨by rw[HER.out];rfl,by rw[HES.out];exact H3.out⟩
   ·have HER:=aQ (HR.out.trans (if_neg c1))
    have HES:=aQ (HS.out.trans ((if_neg c1).trans (if_neg c3)));have d1:(x.op % 8 == 1)=false:=by simpa using c1
    have d3:(x.op % 8 == 3)=false:=by simpa using c3
    clear HR HS c1 c3
    go_wp2_with (first
     | (go_at_call 139;(with_reducible refine(HC.out _).mono ?_);rintro e w1 ⟨rfl,rfl⟩)
     | (go_at_call 183;(with_reducible refine(HI.out _).mono ?_);rintro e w1 ⟨rfl,rfl⟩)
     | (go_at_call 140;(with_reducible refine(HN.out _ _ (aD b2)).mono ?_);rintro e w2 ⟨rfl,h2⟩;have H2:=aQ h2;have H2S:=aQ (h2.1.tset (b:=w.heap.size+1) (Or.inr ⟨by omega,by simp⟩) 5 (.int .i64 s.v));obtain⟨q1,q2,q3⟩:=tn_cells h2.2;have y0:=q1 0 _ rfl;have y1:=q1 1 _ rfl;have y2:=q1 2 _ rfl;have y3:=q1 3 _ rfl;have y4:=q1 4 _ rfl;have y5:=q1 5 _ rfl;have y6:=q1 6 _ rfl;have y7:=q1 7 _ rfl;have y8:=q1 8 _ rfl;have y9:=q1 9 _ rfl;have y10:=q1 10 _ rfl;have y11:=q1 11 _ rfl;have z5:=q2 5;clear q1 q2 h2)
     | (go_at_call 141;(with_reducible refine(HPX.out _ 6 (s.now j) s.v _ _ H2S.out (HQ1.out.2 _)).mono ?_);rintro e w3 ⟨rfl,h3⟩;have H3:=aQ (HG.out _ _ _ _ H2.out.2 h3.1 h3.2);clear h3))
    go_ret;exact⟨by rw[HER.out];rfl,by rw[HES.out];exact H3.out⟩
end Go.Proofs.YtkfahppdklecdaaGreatDoor
