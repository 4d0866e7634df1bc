import Derived.Test.YtkfahppdklecdaaGreatDoorZ40
import Derived.Test.YtkfahppdklecdaaGreatDoorZ39
set_option maxRecDepth 100000
set_option maxHeartbeats 16000000
namespace Go.Proofs.YtkfahppdklecdaaGreatDoor.K
open Go.RowKit Go.Proofs.YtkfahppdklecdaaGreatDoor.K.M
def RowBlk(w:World)(g:Nat)(xs:List Int):Prop:=∃ cur:Array Value,w.heap[g]?=some (.cells cur 5 (0,0))/\cur.toList.take xs.length=bytesV xs
theorem iF(w:World)(g c:Nat):(Builtin.append_ #[121,121] 121 #[.slice (some ⟨g,0,none⟩) 0 0,.slice none 0 c]).run Tryz.prog w=.ok (.slice (some ⟨g,0,none⟩) 0 0) w:=by
 obtain⟨i5,h5,g5,s5,b5⟩:=info_parts info5;simp[Builtin.append_,run_underlying Tryz.underlying121,sizeOf,typeInfo,h5,Builtin.lenOf,Builtin.firstCells,storeCells]
theorem kH{w:World}{g:Nat}(h:w.heap[g]?=some (.cells #[] 5 (0,0))):w.ownsRow g 5 1 (.slice (some ⟨g,0,none⟩) 0 0) 0 [] :=
 ⟨rfl,.inr ⟨g,0,#[],rfl,Nat.le_refl _,h,Nat.le_refl _,Nat.zero_le _,rfl,rfl⟩⟩
theorem iZ{ops:Array Oper}{rest:List Oper}{o:Oper}{a:Act}{Q':Exit->Act->World->Prop}(hgd:o.guard=none)(s x:Operand)(ho:o.op=.call { callee:=.builtin .append,args:=#[s,x],argTypes:=#[121,121] })(hty:o.type=121)
  (w:World) (q:Option Addr) (xs:List Int) (c:Nat) (hrow:RowAt w q xs) (g:Nat) (hs:a.eval s=.slice (some ⟨g,0,none⟩) 0 0) (hg:w.heap[g]?=some (.cells #[] 5 (0,0))) (hx:a.eval x=.slice q xs.length c)
  (h:∀ g' cap w',g<=g'->RowBlk w' g' xs->xs.length<=cap->cap<=9223372036854775807->w.grownBy w' (some g)->wpList Tryz.prog ops Q' rest (a.put o.dst (.slice (some ⟨g',0,none⟩) xs.length cap)) w') :
  wpList Tryz.prog ops Q' (o :: rest) a w:=by
 have hgl:=(Array.getElem?_eq_some_iff.1 hg).1;by_cases hq:q=none
 ·subst hq
  have hl:xs=[]:=by
   cases xs with
   | nil=>rfl
   | cons y ys=>obtain⟨b,off,e,_⟩:=hrow.cells 0 (by simp);cases e
  subst hl;refine wpList_plain hgd λ K hK=>?_
  have hrun:=iF w g c;unfold Oper.wp;simp only[List.length_nil]at hx;simp[execOp,ho,resolve,invoke,builtin,hs,hx,hty,hrun,Result.andThen];exact hK _ _ (h g 0 w (Nat.le_refl _) ⟨#[],hg,rfl⟩ (Nat.le_refl _) (by omega) ⟨rfl,rfl,rfl,Nat.le_refl _,λ _ _ _=>rfl⟩)
 ·obtain⟨ad,rfl⟩:∃ ad,q=some ad:=by cases q with|none=>exact absurd rfl hq|some a=>exact⟨a,rfl⟩
  obtain⟨i5,h5,g5,s5,b5⟩:=info_parts info5
  have hsrc:∀ j u,(bytesV xs)[j]?=some u->w.cell? (ad.add j)=some u:=by
   by_cases hp:0<xs.length
   ·obtain⟨ad',e,h⟩:=hrow.src hp
    injection e with e
    subst e;exact h
   ·have:xs=[]:=by cases xs with|nil=>rfl|cons y ys=>simp at hp
    subst this;intro j u hj;simp[bytesV]at hj
  have hsm:=hrow.small;refine wpList_append_own w hgd s x 121 ho g 5 i5 _ 1 1 Tryz.underlying121 h5 g5 s5 b5 rfl (by decide) (.slice (some ⟨g,0,none⟩) 0 0) 0 [] hs (kH hg) ad xs.length c (bytesV xs) hx (by rw[bytesV_length];omega) hsrc (bytesV_one xs) (by simp only[maxLen];omega) (by omega) (Nat.le_of_lt hgl) ?_;intro v' w' hown hgr hiff;obtain⟨hl,⟨rfl,_⟩|⟨g',cap,cur,rfl,hge,hh,h1,h2,h3,h4⟩⟩:=hown
  ·exact absurd (hiff.1 rfl).1 (by simp)
  ·rw[Nat.zero_add]at h1 h4 ⊢
   rw[Nat.mul_one]at h4;exact h g' cap w' hge ⟨cur,hh,by simpa using h4⟩ h1 (by simpa[maxLen]using h2) hgr
theorem jC{ops:Array Oper}{rest:List Oper}{o:Oper}{a:Act}{Q':Exit->Act->World->Prop}(hgd:o.guard=none)(s x:Operand)(ho:o.op=.call { callee:=.builtin .append,args:=#[s,x],argTypes:=#[121,121] })(hty:o.type=121)
  (w:World) (q:Option Addr) (xs:List Int) (L:Nat) (hL:xs.length=L) (c:Nat) (hrow:RowAt w q xs) (g:Nat) (hs:a.eval s=.slice (some ⟨g,0,none⟩) 0 0) (hx:a.eval x=.slice q L c) (hg:w.heap[g]?=some (.cells #[] 5 (0,0)))
  (h:∀ g' cap w',g<=g'->RowBlk w' g' xs->L<=cap->cap<=9223372036854775807->w.grownBy w' (some g)->wpList Tryz.prog ops Q' rest (a.put o.dst (.slice (some ⟨g',0,none⟩) L cap)) w') :
  wpList Tryz.prog ops Q' (o :: rest) a w:=by
 subst hL;exact iZ hgd s x ho hty w q xs c hrow g hs hg hx h
def jQ(B C:Nat->Nat)(M:List (List Int))(i:Nat):Value:=.slice (some ⟨B i,0,none⟩) (M.getD i []).length (C i)
structure Copies(base:Nat)(w:World)(B C:Nat->Nat)(M:List (List Int))(k:Nat):Prop where
 blk:∀ i,i<k->RowBlk w (B i) (M.getD i [])
 cap:∀ i,i<k->(M.getD i []).length<=C i/\C i<=9223372036854775807
 ge:∀ i,i<k->base<=B i
 inj:∀ i j,i<k->j<k->i≠j->B i≠B j
theorem RowBlk.lt{w:World}{g:Nat}{xs:List Int}(h:RowBlk w g xs):g<w.heap.size:=by
 obtain⟨cur,hh,_⟩:=h;exact(Array.getElem?_eq_some_iff.1 hh).1
theorem RowBlk.of_block{w w':World}{g:Nat}{xs:List Int}(h:RowBlk w g xs)(e:w'.heap[g]?=w.heap[g]?):RowBlk w' g xs:=by
 obtain⟨cur,hh,ht⟩:=h;exact⟨cur,e.trans hh,ht⟩
theorem Copies.lt{base:Nat}{w:World}{B C:Nat->Nat}{M:List (List Int)}{k:Nat}(h:Copies base w B C M k){i:Nat}(hi:i<k):B i<w.heap.size:=(h.blk i hi).lt
theorem Copies.to{base:Nat}{w w':World}{B C:Nat->Nat}{M:List (List Int)}{k:Nat}(h:Copies base w B C M k)(e:∀ b,b<w.heap.size->w'.heap[b]?=w.heap[b]?):Copies base w' B C M k :=
 ⟨λ i hi=>(h.blk i hi).of_block (e _ (h.lt hi)),h.cap,h.ge,h.inj⟩
theorem Copies.grown{base0:Nat}{w w':World}{B C:Nat->Nat}{M:List (List Int)}{k:Nat}{base:Nat}{v:Value}{n:Nat}{xs:List Value}(h:Copies base0 w B C M k)(ho:w.ownsRow base 121 1 v n xs)(hg:w.grownBy w' v.ownBlock):Copies base0 w' B C M k :=
 ⟨λ i hi=>(h.blk i hi).of_block (hg.block _ (h.lt hi) (by
  obtain⟨cur,hh,_⟩:=h.blk i hi;obtain⟨_,⟨rfl,_⟩|⟨g,cap,cur',rfl,_,hh',_⟩⟩:=ho
  ·simp[Value.ownBlock]
  ·simp only[Value.ownBlock]
   intro e;injection e with e
   rw[e,hh']at hh;injection hh with hh
   injection hh with _ hh _
   exact absurd hh (by decide))),h.cap,h.ge,h.inj⟩
theorem Copies.snoc{base:Nat}{w:World}{B C:Nat->Nat}{M:List (List Int)}{k g cap:Nat}(h:Copies base w B C M k)(hr:RowBlk w g (M.getD k []))(hc:(M.getD k []).length<=cap/\cap<=9223372036854775807)(hg:base<=g)(hn:∀ i,i<k->B i≠g):Copies base w (upd B k g) (upd C k cap) M (k+1):=by
 refine⟨λ i hi=>?_,λ i hi=>?_,λ i hi=>?_,λ i j hi hj hne=>?_⟩
 ·by_cases e:i=k
  ·subst e;simpa[upd]using hr
  ·simpa[upd,e]using h.blk i (by omega)
 ·by_cases e:i=k
  ·subst e;simpa[upd]using hc
  ·simpa[upd,e]using h.cap i (by omega)
 ·by_cases e:i=k
  ·subst e;simpa[upd]using hg
  ·simpa[upd,e]using h.ge i (by omega)
 ·by_cases e:i=k
  ·by_cases e2:j=k
   ·omega
   ·have:=hn j (by omega)
    simp[upd,e,e2];omega
  ·by_cases e2:j=k
   ·have:=hn i (by omega)
    simp[upd,e,e2];omega
   ·have:=h.inj i j (by omega) (by omega) hne
    simpa[upd,e,e2]using this
theorem jZ(B C:Nat->Nat)(M:List (List Int))(k g cap:Nat):(List.range (k+1)).map (jQ (upd B k g) (upd C k cap) M)=(List.range k).map (jQ B C M) ++ [.slice (some ⟨g,0,none⟩) (M.getD k []).length cap]:=by
 rw[List.range_succ,List.map_append];congr 1
 ·apply List.map_congr_left
  intro i hi;have:i≠k:=by have:=List.mem_range.1 hi;omega
  simp[jQ,upd,this]
 ·simp[jQ,upd]
theorem jA{base:Nat}{e:TypeId}{size n:Nat}{v:Value}{xs:List Value}{w w':World}(h:w.ownsRow base e size v n xs)(hb:Below w.heap.size w w'):w'.ownsRow base e size v n xs:=by
 obtain⟨hl,h|⟨g,cap,cur,hv,hg,hh,r⟩⟩:=h
 ·exact⟨hl,.inl h⟩
 ·exact⟨hl,.inr ⟨g,cap,cur,hv,hg,(hb.block g (Array.getElem?_eq_some_iff.1 hh).1).trans hh,r⟩⟩
def i6(M:List (List Int))(w:World)(e:Ending)(w':World):Prop :=
 ∃ v B C,e=.returned v/\Below w.heap.size w w'/\w'.ownsRow w.heap.size 121 1 v M.length ((List.range M.length).map (jQ B C M))/\Copies w.heap.size w' B C M M.length
theorem copy_any(mp:Option Addr)(mc:Nat)(Q:Nat->Option Addr)(C0:Nat->Nat)(M:List (List Int))(w:World)(hM:MemAt w mp Q C0 M)(h24:M.length*24<=140737488351232) :
  Calls Tryz.prog 37 #[.slice mp M.length mc] w (i6 M w):=by
 have HM:=aQ hM;obtain⟨i36,h36,g36,s36,b36⟩:=info_parts info36;have H36:=aQ h36;have G36:=aQ g36;have S36:=aQ s36;have B36:=aQ b36;unfold i6;obtain⟨K,hK⟩:∃ K,M.length=K:=⟨_,rfl⟩;rw[hK]at h24 ⊢;have HK:=aQ hK;clear hM hK h36 g36 s36 b36;go_enter Tryz.func37,Tryz.ntmps37
 go_wp2
 go_loopw [3,4] (λ v i wr=>∃ (k:Nat) (B C:Nat->Nat),k<=K/\i=.int .i64 k/\Hid (Below w.heap.size w wr)/\Hid (wr.ownsRow w.heap.size 121 1 v k ((List.range k).map (jQ B C M)))/\Hid (Copies w.heap.size wr B C M k)) (λ _ i _=>K - (intOf i).toNat)
 case atStart=>exact⟨0,λ _=>0,λ _=>0,Nat.zero_le _,rfl,Below.refl _ _,⟨rfl,.inl ⟨rfl,rfl⟩⟩,⟨λ i hi=>absurd hi (Nat.not_lt_zero _),λ i hi=>absurd hi (Nat.not_lt_zero _),λ i hi=>absurd hi (Nat.not_lt_zero _),λ i j hi=>absurd hi (Nat.not_lt_zero _)⟩⟩
 case round =>
  obtain⟨k,B,C,hk,rfl,HB,HOWN,HC⟩:=hrel;by_cases hlt:k<K
  ·have HMR:=aQ (HM.out.below HB.out)
   obtain⟨b,off,rfl,hbl,gc,_,_⟩:=HMR.out.cells k (by rw[HK.out];exact hlt);have HROW:=aQ (HMR.out.row (i:=k) (by rw[HK.out];exact hlt));have gc1:=λ o=>((Below.refl wr.heap.size wr).alloc (Nat.le_refl _) o).cell (p:=⟨b,off+k,none⟩) hbl
   rw[gc]at gc1;have HQ:=aQ (HMR.out.rsmall k);obtain⟨R,hR⟩:∃ R,M.getD k []=R:=⟨_,rfl⟩;rw[hR]at gc1 HROW HQ;have HR:=aQ hR;obtain⟨L,hL⟩:∃ L,R.length=L:=⟨_,rfl⟩;have HL:=aQ hL;generalize Q k=qk at gc1 HROW;generalize C0 k=ck at gc1;rw[hL]at gc1;clear hR hL gc hbl;go_wp2_with (at_builtin;refine jC rfl (.tmp 12) (.tmp 16) rfl rfl _ qk R L HL.out ck (HROW.out.alloc _) wr.heap.size rfl rfl (dL wr _) ?_)
   intro g1 cap1 w1 hge1 hblk1 hlc1 hc1 hgr1;have hB1:=((Below.refl wr.heap.size wr).alloc (Nat.le_refl _) (.cells #[] 5)).grown hgr1 (by simp) (λ k hk=>by injection hk with hk;omega);have HOWN1:=aQ (jA HOWN.out hB1);have HC1:=aQ (HC.out.to hB1.block);have HLT:=aQ (λ i (hi:i<k)=>HC.out.lt hi);have HBL1:=aQ hblk1;have HB2:=aQ (HB.out.trans (hB1.mono HB.out.size));have hsz:=HB.out.size;have hsz1:=HB2.out.size;clear hgr1 hblk1 hB1;go_wp2_with (at_builtin;refine wpList_append_own _ rfl (.tmp 11) (.tmp 18) 51 rfl w.heap.size 121 i36 _ 1 24 Tryz.underlying51 H36.out G36.out S36.out B36.out rfl (by decide) _ _ _ rfl (HOWN1.out.alloc _) ⟨w1.heap.size,0,none⟩ 1 1 [.slice (some ⟨g1,0,none⟩) L cap1] rfl rfl ?c1 ?c2 ?c3 ?c4 ?c5 ?_)
   case c1=>exact cell_one_new _ _ _
   case c2=>simp[Value.oneCell']
   case c3=>simp only[maxLen];omega
   case c4=>omega
   case c5=>simp;omega
   intro v' w3 hown' hg _;have hb3:=((HB2.out.alloc hsz1 (.cells #[.slice (some ⟨g1,0,none⟩) L cap1] 121))).grown hg (by simp;omega) (own_ge HOWN1.out);have hc3:=((HC1.out.snoc (g:=g1) (cap:=cap1) (by rw[HR.out];exact HBL1.out) (by rw[HR.out,HL.out];exact⟨hlc1,hc1⟩) (by omega) (λ i hi=>by have:=HLT.out i hi;omega)).to (w':=w1.alloc (.cells #[.slice (some ⟨g1,0,none⟩) L cap1] 121)) (((Below.refl w1.heap.size w1).alloc (Nat.le_refl _) _).block)).grown (HOWN1.out.alloc _) hg;have HO3:=aQ hown';have HC3:=aQ hc3;have HB3:=aQ hb3;clear hown' hc3 hg hb3;go_wp2
   go_roundw
   case rel =>
    refine⟨k+1,upd B k g1,upd C k cap1,by omega,by go_num,HB3.out,?_,HC3.out⟩;rw[jZ,HR.out,HL.out];exact HO3.out
   case measure=>simp[intOf];omega
  ·go_wp2
   go_ret;have hkl:k=K:=by omega
   subst hkl;exact⟨_,B,C,rfl,HB.out,HOWN.out,HC.out⟩
end Go.Proofs.YtkfahppdklecdaaGreatDoor.K
namespace Go.Proofs.YtkfahppdklecdaaGreatDoor
open Go.RowKit M
abbrev aO(o:Int)(i:Nat)(n1:Int)(n2:Bool)(n3 n4 n5 n6 n7:Int)(b:Bool)(q:Option Addr)(n9 c:Nat)(n10:Int):Obj:=.cells #[.int .i64 o,.int .i64 (i:Int),.int .i64 n1,.bool n2,.int .i64 n3,.int .i64 n4,.int .u64 n5,.int .i64 n6,.int .i64 n7,.bool b,.slice q n9 c,.int .i64 n10] 111
theorem raddr1(w:World):Calls Tryz.prog 74 #[.int .i64 1,.int .i64 0] w λ e w'=>e=.returned (.int .u64 4294967296)/\w'=w:=by
 go_enter Tryz.func74,Tryz.ntmps74
 go_wp2_with fail
 go_ret;exact⟨rfl,rfl⟩
theorem raddr2(w:World):Calls Tryz.prog 74 #[.int .i64 2,.int .i64 512] w λ e w'=>e=.returned (.int .u64 8589935104)/\w'=w:=by
 go_enter Tryz.func74,Tryz.ntmps74
 go_wp2_with fail
 go_ret;exact⟨rfl,rfl⟩
abbrev sP(w:World)(mb gv V id:Nat)(n:Int)(X:World):Prop:=X.cell? ⟨mb,5,none⟩=some (.slice (some ⟨gv,0,none⟩) V V)/\X.cell? ⟨w.heap.size,1,none⟩=some (.int .i64 (id:Int))/\X.cell? ⟨w.heap.size,6,none⟩=some (.int .u64 n)
theorem kE(mb gv V:Nat)(n:Nd)(q:Option Addr)(c:Nat)(x0:Int)(id:Nat)(w:World)(h5:w.cell? ⟨mb,5,none⟩=some (.slice (some ⟨gv,0,none⟩) V V))(hmb:mb<w.heap.size)(hmg:mb≠gv)(hid:n.id=(id:Int))(hV:id<V)(hop:n.op=1)(hc:w.cell? ⟨gv,id,none⟩=some (.int .u64 x0))(fz:w.frozen? ⟨gv,id,none⟩=false)(hgv:gv<w.heap.size) :
  Calls Tryz.prog 39 #[.pointer (some ⟨mb,0,none⟩),.agg #[.int .i64 n.op,.int .i64 n.id,.int .i64 n.alu,.bool n.wide,.int .i64 n.a,.int .i64 n.b,.int .u64 n.imm,.int .i64 n.size,.int .i64 n.off,.bool n.guard,.slice q n.args.length c,.int .i64 n.at']] w λ e w'=>e=.returned (.int .i64 0)/\Below w.heap.size (w.setCell ⟨gv,id,none⟩ (.int .u64 n.imm)) w':=by
 rw[hid,hop];generalize n.alu=d at *;generalize n.wide=f at *;generalize n.a=g at *;generalize n.b=j at *;generalize n.imm=k at *;generalize n.size=l at *;generalize n.off=m at *;generalize n.guard=o at *;generalize n.args.length=r at *;generalize n.at'=s at *;have hidI:(id:Int)<(V:Int):=by omega
 have hid0:(0:Int)<=(id:Int):=by omega
 have S0:sP w mb gv V id k (w.alloc (aO 1 id d f g j k l m o q r c s)):=⟨(b1.cell (p:=⟨mb,5,none⟩) hmb).trans h5,aJ w rfl,aJ w rfl⟩
 have S1:sP w mb gv V id k (w.alloc (aO 1 id d f g j k l m o q r c s)).drew:=S0;have hsz:∀ v,(w.setCell ⟨gv,id,none⟩ v).heap.size=w.heap.size:=λ v=>by simp[World.setCell]
 have HB3:Hid (∀ v,Below w.heap.size (w.setCell ⟨gv,id,none⟩ v) ((w.setCell ⟨gv,id,none⟩ v).alloc (aO 1 id d f g j k l m o q r c s)).drew):=aQ (λ v=>by rw[<- hsz v];exact aD b1);have HS2:Hid (∀ v,sP w mb gv V id k ((w.setCell ⟨gv,id,none⟩ v).alloc (aO 1 id d f g j k l m o q r c s)).drew):=aQ (λ v=>⟨((HB3.out v).cell (p:=⟨mb,5,none⟩) hmb).trans (aL h5 (aM (.inl hmg))),by rw[<- hsz v];exact aJ _ rfl,by rw[<- hsz v];exact aJ _ rfl⟩);have HB1:Hid (Below w.heap.size w (w.alloc (aO 1 id d f g j k l m o q r c s)).drew):=aQ (aD b1);have c1:(w.alloc (aO 1 id d f g j k l m o q r c s)).drew.cell? ⟨gv,id,none⟩=some (.int .u64 x0):=(HB1.out.cell (p:=⟨gv,id,none⟩) hgv).trans hc;have z1:(w.alloc (aO 1 id d f g j k l m o q r c s)).drew.frozen? ⟨gv,id,none⟩=false:=(HB1.out.frozen (p:=⟨gv,id,none⟩) hgv).trans fz;clear hsz
 cases o
 all_goals
  go_enter Tryz.func39,Tryz.ntmps39
  go_wp2_with fail
  go_region_held3 (λ W'=>W'.cell? ⟨mb,5,none⟩=some (.slice (some ⟨gv,0,none⟩) V V)/\W'.cell? ⟨w.heap.size,1,none⟩=some (.int .i64 (id:Int))/\W'.cell? ⟨w.heap.size,6,none⟩=some (.int .u64 k))
   (first|exact S0|exact S1|exact HS2.out _)
   (fail)
  all_goals go_wp2_with fail
  all_goals go_ret
  all_goals exact⟨rfl,HB3.out _⟩
theorem kD(mb gv V:Nat)(n:Nd)(q:Option Addr)(c:Nat)(x0:Int)(id:Nat)(w:World)(h5:w.cell? ⟨mb,5,none⟩=some (.slice (some ⟨gv,0,none⟩) V V))(hmb:mb<w.heap.size)(hmg:mb≠gv)(hid:n.id=(id:Int))(hV:id<V)(hop:n.op=2)(hc:w.cell? ⟨gv,id,none⟩=some (.int .u64 x0))(fz:w.frozen? ⟨gv,id,none⟩=false)(hgv:gv<w.heap.size) :
  Calls Tryz.prog 39 #[.pointer (some ⟨mb,0,none⟩),.agg #[.int .i64 n.op,.int .i64 n.id,.int .i64 n.alu,.bool n.wide,.int .i64 n.a,.int .i64 n.b,.int .u64 n.imm,.int .i64 n.size,.int .i64 n.off,.bool n.guard,.slice q n.args.length c,.int .i64 n.at']] w λ e w'=>e=.returned (.int .i64 0)/\Below w.heap.size (w.setCell ⟨gv,id,none⟩ (.int .u64 4294967296)) w':=by
 rw[hid,hop];generalize n.alu=d at *;generalize n.wide=f at *;generalize n.a=g at *;generalize n.b=j at *;generalize n.imm=k at *;generalize n.size=l at *;generalize n.off=m at *;generalize n.guard=o at *;generalize n.args.length=r at *;generalize n.at'=s at *;have hidI:(id:Int)<(V:Int):=by omega
 have hid0:(0:Int)<=(id:Int):=by omega
 have HAD:=aQ (λ W=>raddr1 W)
 have S0:sP w mb gv V id k (w.alloc (aO 2 id d f g j k l m o q r c s)):=⟨(b1.cell (p:=⟨mb,5,none⟩) hmb).trans h5,aJ w rfl,aJ w rfl⟩
 have S1:sP w mb gv V id k (w.alloc (aO 2 id d f g j k l m o q r c s)).drew:=S0;have hsz:∀ v,(w.setCell ⟨gv,id,none⟩ v).heap.size=w.heap.size:=λ v=>by simp[World.setCell]
 have HB3:Hid (∀ v,Below w.heap.size (w.setCell ⟨gv,id,none⟩ v) ((w.setCell ⟨gv,id,none⟩ v).alloc (aO 2 id d f g j k l m o q r c s)).drew):=aQ (λ v=>by rw[<- hsz v];exact aD b1);have HS2:Hid (∀ v,sP w mb gv V id k ((w.setCell ⟨gv,id,none⟩ v).alloc (aO 2 id d f g j k l m o q r c s)).drew):=aQ (λ v=>⟨((HB3.out v).cell (p:=⟨mb,5,none⟩) hmb).trans (aL h5 (aM (.inl hmg))),by rw[<- hsz v];exact aJ _ rfl,by rw[<- hsz v];exact aJ _ rfl⟩);have HB1:Hid (Below w.heap.size w (w.alloc (aO 2 id d f g j k l m o q r c s)).drew):=aQ (aD b1);have c1:(w.alloc (aO 2 id d f g j k l m o q r c s)).drew.cell? ⟨gv,id,none⟩=some (.int .u64 x0):=(HB1.out.cell (p:=⟨gv,id,none⟩) hgv).trans hc;have z1:(w.alloc (aO 2 id d f g j k l m o q r c s)).drew.frozen? ⟨gv,id,none⟩=false:=(HB1.out.frozen (p:=⟨gv,id,none⟩) hgv).trans fz;clear hsz
 cases o
 all_goals
  go_enter Tryz.func39,Tryz.ntmps39
  go_wp2_with fail
  go_region_held3 (λ W'=>W'.cell? ⟨mb,5,none⟩=some (.slice (some ⟨gv,0,none⟩) V V)/\W'.cell? ⟨w.heap.size,1,none⟩=some (.int .i64 (id:Int))/\W'.cell? ⟨w.heap.size,6,none⟩=some (.int .u64 k))
   (first|exact S0|exact S1|exact HS2.out _)
   ((go_at_call 74;(with_reducible refine(HAD.out _).mono ?_);rintro e w9 ⟨rfl,rfl⟩))
  all_goals go_wp2_with fail
  all_goals go_ret
  all_goals exact⟨rfl,HB3.out _⟩
theorem kC(mb gv V:Nat)(n:Nd)(q:Option Addr)(c:Nat)(x0:Int)(id:Nat)(w:World)(h5:w.cell? ⟨mb,5,none⟩=some (.slice (some ⟨gv,0,none⟩) V V))(hmb:mb<w.heap.size)(hmg:mb≠gv)(hid:n.id=(id:Int))(hV:id<V)(hop:n.op=3)(hc:w.cell? ⟨gv,id,none⟩=some (.int .u64 x0))(fz:w.frozen? ⟨gv,id,none⟩=false)(hgv:gv<w.heap.size) :
  Calls Tryz.prog 39 #[.pointer (some ⟨mb,0,none⟩),.agg #[.int .i64 n.op,.int .i64 n.id,.int .i64 n.alu,.bool n.wide,.int .i64 n.a,.int .i64 n.b,.int .u64 n.imm,.int .i64 n.size,.int .i64 n.off,.bool n.guard,.slice q n.args.length c,.int .i64 n.at']] w λ e w'=>e=.returned (.int .i64 0)/\Below w.heap.size (w.setCell ⟨gv,id,none⟩ (.int .u64 8589935104)) w':=by
 rw[hid,hop];generalize n.alu=d at *;generalize n.wide=f at *;generalize n.a=g at *;generalize n.b=j at *;generalize n.imm=k at *;generalize n.size=l at *;generalize n.off=m at *;generalize n.guard=o at *;generalize n.args.length=r at *;generalize n.at'=s at *;have hidI:(id:Int)<(V:Int):=by omega
 have hid0:(0:Int)<=(id:Int):=by omega
 have HAD:=aQ (λ W=>raddr2 W)
 have S0:sP w mb gv V id k (w.alloc (aO 3 id d f g j k l m o q r c s)):=⟨(b1.cell (p:=⟨mb,5,none⟩) hmb).trans h5,aJ w rfl,aJ w rfl⟩
 have S1:sP w mb gv V id k (w.alloc (aO 3 id d f g j k l m o q r c s)).drew:=S0;have hsz:∀ v,(w.setCell ⟨gv,id,none⟩ v).heap.size=w.heap.size:=λ v=>by simp[World.setCell]
 have HB3:Hid (∀ v,Below w.heap.size (w.setCell ⟨gv,id,none⟩ v) ((w.setCell ⟨gv,id,none⟩ v).alloc (aO 3 id d f g j k l m o q r c s)).drew):=aQ (λ v=>by rw[<- hsz v];exact aD b1);have HS2:Hid (∀ v,sP w mb gv V id k ((w.setCell ⟨gv,id,none⟩ v).alloc (aO 3 id d f g j k l m o q r c s)).drew):=aQ (λ v=>⟨((HB3.out v).cell (p:=⟨mb,5,none⟩) hmb).trans (aL h5 (aM (.inl hmg))),by rw[<- hsz v];exact aJ _ rfl,by rw[<- hsz v];exact aJ _ rfl⟩);have HB1:Hid (Below w.heap.size w (w.alloc (aO 3 id d f g j k l m o q r c s)).drew):=aQ (aD b1);have c1:(w.alloc (aO 3 id d f g j k l m o q r c s)).drew.cell? ⟨gv,id,none⟩=some (.int .u64 x0):=(HB1.out.cell (p:=⟨gv,id,none⟩) hgv).trans hc;have z1:(w.alloc (aO 3 id d f g j k l m o q r c s)).drew.frozen? ⟨gv,id,none⟩=false:=(HB1.out.frozen (p:=⟨gv,id,none⟩) hgv).trans fz;clear hsz
 cases o
 all_goals
  go_enter Tryz.func39,Tryz.ntmps39
  go_wp2_with fail
  go_region_held3 (λ W'=>W'.cell? ⟨mb,5,none⟩=some (.slice (some ⟨gv,0,none⟩) V V)/\W'.cell? ⟨w.heap.size,1,none⟩=some (.int .i64 (id:Int))/\W'.cell? ⟨w.heap.size,6,none⟩=some (.int .u64 k))
   (first|exact S0|exact S1|exact HS2.out _)
   ((go_at_call 74;(with_reducible refine(HAD.out _).mono ?_);rintro e w9 ⟨rfl,rfl⟩))
  all_goals go_wp2_with fail
  all_goals go_ret
  all_goals exact⟨rfl,HB3.out _⟩
abbrev zO:Obj:=.cells #[.int .i64 0,.int .u64 0,.int .i64 0,.int .i64 0,.int .i64 0,.slice none 0 0,.slice none 0 0] 58
theorem jU(mb:Nat)(kd st:Int)(pm pt':Option Addr)(nm cm nt ct:Nat)(w:World)(h3:w.cell? ⟨mb,3,none⟩=some (.slice pm nm cm))(h6:w.cell? ⟨mb,6,none⟩=some (.slice pt' nt ct))(hmb:mb<w.heap.size) :
  Calls Tryz.prog 38 #[.pointer (some ⟨mb,0,none⟩),.int .i64 kd,.int .i64 st] w λ e w'=>e=.returned (.agg #[.int .i64 kd,.int .u64 0,.int .i64 0,.int .i64 0,.int .i64 st,.slice pt' nt ct,.slice pm nm cm])/\Below w.heap.size w w':=by
 have S0:(w.alloc zO).cell? ⟨mb,3,none⟩=some (.slice pm nm cm)/\(w.alloc zO).cell? ⟨mb,6,none⟩=some (.slice pt' nt ct):=⟨(b1.cell (p:=⟨mb,3,none⟩) hmb).trans h3,(b1.cell (p:=⟨mb,6,none⟩) hmb).trans h6⟩;have S1:(w.alloc zO).drew.cell? ⟨mb,3,none⟩=some (.slice pm nm cm)/\(w.alloc zO).drew.cell? ⟨mb,6,none⟩=some (.slice pt' nt ct):=S0;have S2:(w.alloc (.cells #[.int .i64 kd,.int .u64 0,.int .i64 0,.int .i64 0,.int .i64 st,.slice pt' nt ct,.slice pm nm cm] 58)).drew.cell? ⟨mb,3,none⟩=some (.slice pm nm cm)/\(w.alloc (.cells #[.int .i64 kd,.int .u64 0,.int .i64 0,.int .i64 0,.int .i64 st,.slice pt' nt ct,.slice pm nm cm] 58)).drew.cell? ⟨mb,6,none⟩=some (.slice pt' nt ct):=⟨(b1.cell (p:=⟨mb,3,none⟩) hmb).trans h3,(b1.cell (p:=⟨mb,6,none⟩) hmb).trans h6⟩;go_enter Tryz.func38,Tryz.ntmps38
 go_wp2_with fail
 go_region_held3 (λ W'=>W'.cell? ⟨mb,3,none⟩=some (.slice pm nm cm)/\W'.cell? ⟨mb,6,none⟩=some (.slice pt' nt ct))
  (first|exact S0|exact S1|exact S2)
  (fail)
 all_goals go_wp2_with fail
 all_goals refine bodyPost_ret (v:=.agg #[.int .i64 kd,.int .u64 0,.int .i64 0,.int .i64 0,.int .i64 st,.slice pt' nt ct,.slice pm nm cm]) ?_ rfl ⟨rfl,aD b1⟩
 all_goals simp[results,Tryz.results38,go_sem,loadVar]
structure Mv(w W:World)(mb gv V:Nat)(pm:Option Addr)(nm cm:Nat):Prop where
 low:Below w.heap.size w W
 mw:w.heap.size<=mb
 gw:w.heap.size<=gv
 ml:mb<W.heap.size
 gl:gv<W.heap.size
 ne:mb≠gv
 c3:W.cell? ⟨mb,3,none⟩=some (.slice pm nm cm)
 c5:W.cell? ⟨mb,5,none⟩=some (.slice (some ⟨gv,0,none⟩) V V)
 c6:W.cell? ⟨mb,6,none⟩=some (.slice none 0 0)
 row:∀ i,i<V->∃ x,W.cell? ⟨gv,i,none⟩=some (.int .u64 x)
 fz:∀ i,W.frozen? ⟨gv,i,none⟩=false
theorem Mv.next{w W W':World}{mb gv V:Nat}{pm:Option Addr}{nm cm:Nat}(h:Mv w W mb gv V pm nm cm)(hb:Below W.heap.size W W'):Mv w W' mb gv V pm nm cm :=
 ⟨h.low.trans (hb.mono h.low.size),h.mw,h.gw,Nat.lt_of_lt_of_le h.ml hb.size,Nat.lt_of_lt_of_le h.gl hb.size,h.ne,(hb.cell (p:=⟨mb,3,none⟩) h.ml).trans h.c3,(hb.cell (p:=⟨mb,5,none⟩) h.ml).trans h.c5,(hb.cell (p:=⟨mb,6,none⟩) h.ml).trans h.c6,
  λ i hi=>by
   obtain⟨x,hx⟩:=h.row i hi;exact⟨x,(hb.cell (p:=⟨gv,i,none⟩) h.gl).trans hx⟩,λ i=>(hb.frozen (p:=⟨gv,i,none⟩) h.gl).trans (h.fz i)⟩
theorem Mv.set{w W W':World}{mb gv V:Nat}{pm:Option Addr}{nm cm:Nat}(h:Mv w W mb gv V pm nm cm){i:Nat}(hi:i<V)(y:Int)(hb:Below W.heap.size (W.setCell ⟨gv,i,none⟩ (.int .u64 y)) W'):Mv w W' mb gv V pm nm cm/\W'.cell? ⟨gv,i,none⟩=some (.int .u64 y)/\W.heap.size<=W'.heap.size/\∀ b,b<W.heap.size->b≠gv->W'.heap[b]?=W.heap[b]?:=by
 have hsz:(W.setCell ⟨gv,i,none⟩ (.int .u64 y)).heap.size=W.heap.size:=by simp[World.setCell]
 obtain⟨x0,hx0⟩:=h.row i hi
 have h1:Mv w (W.setCell ⟨gv,i,none⟩ (.int .u64 y)) mb gv V pm nm cm :=
  ⟨h.low.setCell (p:=⟨gv,i,none⟩) h.gw _,h.mw,h.gw,by rw[hsz];exact h.ml,by rw[hsz];exact h.gl,h.ne,aL h.c3 (aM (.inl h.ne)),aL h.c5 (aM (.inl h.ne)),aL h.c6 (aM (.inl h.ne)),λ j hj=>by
   by_cases e:j=i
   ·subst e;exact⟨y,World.cell?_setCell_same _ _ _ hx0⟩
   ·obtain⟨x,hx⟩:=h.row j hj
    exact⟨x,aL hx (aM (.inr e))⟩,λ j=>(World.frozen?_setCell ..).trans (h.fz j)⟩
 rw[<- hsz]at hb;exact⟨h1.next hb,(hb.cell (p:=⟨gv,i,none⟩) h1.gl).trans (World.cell?_setCell_same _ _ _ hx0),by have:=hb.size;omega,λ b hb1 hb2=>(hb.block b (by omega)).trans (heap_setCell_other W ⟨gv,i,none⟩ b _ hb2)⟩
def f9(n:Nd):Int:=if n.op=1 then n.imm else if n.op=2 then 4294967296 else 8589935104
theorem i7{w W:World}{mb gv V:Nat}{pm:Option Addr}{nm cm:Nat}(h:Mv w W mb gv V pm nm cm)(n:Nd)(q:Option Addr)(c id:Nat)(hid:n.id=(id:Int))(hV:id<V)(hop:n.op=1∨n.op=2∨n.op=3) :
  Calls Tryz.prog 39 #[.pointer (some ⟨mb,0,none⟩),.agg #[.int .i64 n.op,.int .i64 n.id,.int .i64 n.alu,.bool n.wide,.int .i64 n.a,.int .i64 n.b,.int .u64 n.imm,.int .i64 n.size,.int .i64 n.off,.bool n.guard,.slice q n.args.length c,.int .i64 n.at']] W λ e w'=>e=.returned (.int .i64 0)/\Mv w w' mb gv V pm nm cm/\w'.cell? ⟨gv,id,none⟩=some (.int .u64 (f9 n))/\W.heap.size<=w'.heap.size/\∀ b,b<W.heap.size->b≠gv->w'.heap[b]?=W.heap[b]?:=by
 obtain⟨x0,hx0⟩:=h.row id hV;rcases hop with ho|ho|ho
 ·refine(kE mb gv V n q c x0 id W h.c5 h.ml h.ne hid hV ho hx0 (h.fz id) h.gl).mono ?_
  rintro e w' ⟨rfl,hb⟩;have e:f9 n=n.imm:=if_pos ho;rw[e];exact⟨rfl,h.set hV _ hb⟩
 ·refine(kD mb gv V n q c x0 id W h.c5 h.ml h.ne hid hV ho hx0 (h.fz id) h.gl).mono ?_
  rintro e w' ⟨rfl,hb⟩;have e:f9 n=4294967296:=by unfold f9;rw[if_neg (by omega),if_pos ho]
  rw[e];exact⟨rfl,h.set hV _ hb⟩
 ·refine(kC mb gv V n q c x0 id W h.c5 h.ml h.ne hid hV ho hx0 (h.fz id) h.gl).mono ?_
  rintro e w' ⟨rfl,hb⟩;have e:f9 n=8589935104:=by unfold f9;rw[if_neg (by omega),if_neg (by omega)]
  rw[e];exact⟨rfl,h.set hV _ hb⟩
theorem infoU1:(Tryz.prog.info? 54).map (λ i=>(i.zero,i.size,i.bytes))=some (some (.int .u64 0),1,8):=by kernel_rfl
theorem jP(L:List Pt)(V m:Nat)(q:Option Addr)(qc:Nat)(mp:Option Addr)(mc:Nat)(MQ:Nat->Option Addr)(MC:Nat->Nat)(MM:List (List Int))(w:World)(h:PartsAt w q L)(hir:IrOk L V)(h1:L.length=1)(hm:(pt L 0).nodes.length=m+1)(hm9:m<=90)(hops:∀ j,j<m+1->(nd (pt L 0).nodes j).op=1∨(nd (pt L 0).nodes j).op=2∨(nd (pt L 0).nodes j).op=3)
  (hids:∀ j,j<m+1->0<=(nd (pt L 0).nodes j).id/\(nd (pt L 0).nodes j).id<(V:Int)) (hen:(pt L 0).en.op=3) (hea:(pt L 0).en.a=(nd (pt L 0).nodes m).id) (hM:K.MemAt w mp MQ MC MM) (hmay:K.mayB 0 [] 0 MM=true) :
  Calls Tryz.prog 12 #[.agg #[.int .i64 0,.bool false,.slice none 0 0],.agg #[.slice q 1 qc,.int .i64 (V:Int)],.slice mp MM.length mc,.slice none 0 0,.int .i64 100] w λ e w'=>(∃ x1 x2 x3 px nx cx,e=.returned (.tuple #[.agg #[.int .i64 1,.int .u64 (f9 (nd (pt L 0).nodes m)),.int .i64 x1,.int .i64 x2,.int .i64 x3,.slice none 0 0,.slice px nx cx],.int .i64 0]))/\Below w.heap.size w w':=by
 have HQ:Hid (∀ x1 x2 x3 px nx cx W,Below w.heap.size w W->(λ e w'=>(∃ x1 x2 x3 px nx cx,e=Ending.returned (.tuple #[.agg #[.int .i64 1,.int .u64 (f9 (nd (pt L 0).nodes m)),.int .i64 x1,.int .i64 x2,.int .i64 x3,.slice none 0 0,.slice px nx cx],.int .i64 0]))/\Below w.heap.size w w') (.returned (.tuple #[.agg #[.int .i64 1,.int .u64 (f9 (nd (pt L 0).nodes m)),.int .i64 x1,.int .i64 x2,.int .i64 x3,.slice none 0 0,.slice px nx cx],.int .i64 0])) W):=aQ (λ x1 x2 x3 px nx cx W h=>⟨⟨x1,x2,x3,px,nx,cx,rfl⟩,h⟩);generalize (λ (e:Ending) (w':World)=>(∃ x1 x2 x3 px nx cx,e=Ending.returned (.tuple #[.agg #[.int .i64 1,.int .u64 (f9 (nd (pt L 0).nodes m)),.int .i64 x1,.int .i64 x2,.int .i64 x3,.slice none 0 0,.slice px nx cx],.int .i64 0]))/\Below w.heap.size w w')=Qq at *;have HPT:=aQ h;have HV:=aQ hir.vals;have HCK:=aQ (λ W (hb:Below w.heap.size w W)=>(h1 ▸ rcheckF_yes q qc L V W (h.below hb) hir:Calls Tryz.prog 9 #[.agg #[.slice q 1 qc,.int .i64 (V:Int)]] W λ e w'=>e=.returned (.int .i64 0)/\Below W.heap.size W w'));have HMY:=aQ (λ W (hb:Below w.heap.size w W)=>K.rmay_any (λ _=>⟨0,0,none⟩) 0 false none 0 0 [] mp mc MQ MC MM W trivial ⟨rfl,by omega,λ i hi=>absurd hi (Nat.not_lt_zero _)⟩ (hM.below hb));rw[hmay]at HMY
 have HCP:=aQ (λ W (hb:Below w.heap.size w W)=>K.copy_any mp mc MQ MC MM W (hM.below hb) (by
  have:=hM.small;have h2:=(K.mayB_true hmay).2.1;omega))
 have HOP:=aQ hops;have HID:=aQ hids;have HEN:=aQ (And.intro hen (And.intro hea (And.intro h1 hm)));obtain⟨ml,hml⟩:∃ n,MM.length=n:=⟨_,rfl⟩;rw[hml]at HMY HCP ⊢;have hV6:=hir.vals;have hmk:=λ W=>run_make_row' (P:=Tryz.prog) 52 54 (.int .u64 0) 8 Tryz.underlying52 infoU1 rfl .i64 .i64 V (by omega) (by omega) W
 obtain⟨wb,hwb⟩:∃ X,(((w.alloc (.cells #[.int .i64 0,.bool false,.slice none 0 0] 49)).alloc (.cells #[.slice q 1 qc,.int .i64 (V:Int)] 27)).alloc zO)=X:=⟨_,rfl⟩;have HSZ:Hid (wb.heap.size=w.heap.size+3):=aQ (by rw[<- hwb];simp);have HB0:Hid (Below w.heap.size w wb):=aQ (by rw[<- hwb];exact b3)
 have HBX:Hid (∀ W,Below wb.heap.size wb W->W.cell? ⟨w.heap.size,0,none⟩=some (.int .i64 0)/\W.cell? ⟨w.heap.size,1,none⟩=some (.bool false)/\W.cell? ⟨w.heap.size,2,none⟩=some (.slice none 0 0)/\W.cell? ⟨w.heap.size+1,0,none⟩=some (.slice q 1 qc)/\W.cell? ⟨w.heap.size+1,1,none⟩=some (.int .i64 (V:Int))/\w.heap.size<W.heap.size/\w.heap.size+1<W.heap.size/\w.heap.size+1+1<W.heap.size):=aQ (λ W hb=>by
  have hs:=HSZ.out;have hss:=hb.size;have hc:∀ b o,b<w.heap.size+3->W.cell? ⟨b,o,none⟩=wb.cell? ⟨b,o,none⟩:=λ b o hb2=>hb.cell (p:=⟨b,o,none⟩) (by show b<_;omega)
  have e1:∀ i u,(#[.int .i64 0,.bool false,.slice none 0 0]:Array Value)[i]?=some u->wb.cell? ⟨w.heap.size,i,none⟩=some u:=λ i u hu=>by
   rw[<- hwb];exact((b1.cell (p:=⟨w.heap.size,i,none⟩) (by simp;omega)).trans (b1.cell (p:=⟨w.heap.size,i,none⟩) (by simp))).trans (aJ w hu)
  have e2:∀ i u,(#[.slice q 1 qc,.int .i64 (V:Int)]:Array Value)[i]?=some u->wb.cell? ⟨w.heap.size+1,i,none⟩=some u:=λ i u hu=>by
   rw[<- hwb];have e:w.heap.size+1=(w.alloc (.cells #[.int .i64 0,.bool false,.slice none 0 0] 49)).heap.size:=by simp
   rw[e];exact(b1.cell (p:=⟨_,i,none⟩) (by simp)).trans (aJ _ hu)
  exact⟨(hc _ _ (by omega)).trans (e1 0 _ rfl),(hc _ _ (by omega)).trans (e1 1 _ rfl),(hc _ _ (by omega)).trans (e1 2 _ rfl),(hc _ _ (by omega)).trans (e2 0 _ rfl),(hc _ _ (by omega)).trans (e2 1 _ rfl),by omega,by omega,by omega⟩)
 have HB3:Hid (∀ W,Below wb.heap.size wb W->(∀ i u,(#[.int .i64 0,.int .u64 0,.int .i64 0,.int .i64 0,.int .i64 0,.slice none 0 0,.slice none 0 0]:Array Value)[i]?=some u->W.cell? ⟨w.heap.size+1+1,i,none⟩=some u)/\∀ i,W.frozen? ⟨w.heap.size+1+1,i,none⟩=false):=aQ (λ W hb=>by
  have hs:=HSZ.out;have e:w.heap.size+1+1=((w.alloc (.cells #[.int .i64 0,.bool false,.slice none 0 0] 49)).alloc (.cells #[.slice q 1 qc,.int .i64 (V:Int)] 27)).heap.size:=by simp
  refine⟨λ i u hu=>(hb.cell (p:=⟨w.heap.size+1+1,i,none⟩) (by show w.heap.size+1+1<_;omega)).trans ?_,λ i=>(hb.frozen (p:=⟨w.heap.size+1+1,i,none⟩) (by show w.heap.size+1+1<_;omega)).trans ?_⟩
  ·rw[<- hwb,e];exact aJ _ hu
  ·rw[<- hwb,e];exact World.frozen?_alloc_new _ _ _ i)
 clear h hir h1 hm hops hids hen hea hM hmay hml
 have HCK0:Hid (Calls Tryz.prog 9 #[.agg #[.slice q 1 qc,.int .i64 (V:Int)]] (((w.alloc (.cells #[.int .i64 0,.bool false,.slice none 0 0] 49)).alloc (.cells #[.slice q 1 qc,.int .i64 (V:Int)] 27)).alloc zO) λ e w'=>e=.returned (.int .i64 0)/\Below wb.heap.size wb w'):=aQ (by
  rw[hwb];exact HCK.out wb HB0.out)
 clear hwb;go_enter Tryz.func12,Tryz.ntmps12
 go_upto_region 3 with (first
  | (go_at_call 9;(with_reducible refine HCK0.out.mono ?_);rintro e w1 ⟨rfl,hb⟩;have H1:=aQ hb;obtain⟨d0,d1,d2,d3,d4,d5,d6,d7⟩:=HBX.out _ hb;clear hb)
  | (go_at_call 34;(with_reducible refine(HMY.out _ (HB0.out.trans (H1.out.mono HB0.out.size))).mono ?_);clear d0 d1 d2 d3 d4 d5 d6 d7;rintro e w2 ⟨rfl,hb⟩;have H2:=aQ (H1.out.trans (hb.mono H1.out.size));obtain⟨d0,d1,d2,d3,d4,d5,d6,d7⟩:=HBX.out _ H2.out;clear hb))
 go_cut [12] from 13 (λ s12 wx=>∃ W mb gv pm nm cm,wx=W/\s12=.pointer (some ⟨mb,0,none⟩)/\Hid (Mv wb W mb gv V pm nm cm))
 case first =>
  have HS:Hid (∀ W,Below wb.heap.size wb W->W.cell? ⟨w.heap.size,0,none⟩=some (.int .i64 0)/\W.cell? ⟨w.heap.size,1,none⟩=some (.bool false)/\W.cell? ⟨w.heap.size,2,none⟩=some (.slice none 0 0)/\W.cell? ⟨w.heap.size+1,1,none⟩=some (.int .i64 (V:Int))):=aQ (λ W hb=>by
   obtain⟨a0,a1,a2,_,a4,_⟩:=HBX.out W hb;exact⟨a0,a1,a2,a4⟩)
  have HROW:Hid (∀ (X W:World),Below (X.alloc (.cells (madeCells #[.int .u64 0] V) 54)).heap.size (X.alloc (.cells (madeCells #[.int .u64 0] V) 54)) W->(∀ i,i<V->∃ x,W.cell? ⟨X.heap.size,i,none⟩=some (.int .u64 x))/\(∀ i,W.frozen? ⟨X.heap.size,i,none⟩=false)/\X.heap.size<W.heap.size):=aQ (λ X W hb=>by
   have hl:X.heap.size<(X.alloc (.cells (madeCells #[.int .u64 0] V) 54)).heap.size:=by simp
   refine⟨λ i hi=>⟨0,(hb.cell (p:=⟨X.heap.size,i,none⟩) hl).trans (aJ X ?_)⟩,λ i=>(hb.frozen (p:=⟨X.heap.size,i,none⟩) hl).trans (World.frozen?_alloc_new _ _ _ i),Nat.lt_of_lt_of_le hl hb.size⟩;simp[madeCells,hi,Nat.mod_one])
  have H2d:Hid (Below wb.heap.size wb w2.drew):=aQ (aD H2.out);have H2m:Hid (Below wb.heap.size wb (w2.alloc (.cells (madeCells #[.int .u64 0] V) 54)).drew):=aQ (aD (H2.out.alloc H2.out.size _));have H2n:Hid (Below wb.heap.size wb (w2.alloc (.cells (madeCells #[.int .u64 0] V) 54))):=aQ (H2.out.alloc H2.out.size _)
  have HMX:Hid (∀ (W:World) g pm nm cm,Below wb.heap.size wb W->wb.heap.size<=g->g<W.heap.size->(∀ i,i<V->∃ x,W.cell? ⟨g,i,none⟩=some (.int .u64 x))->(∀ i,W.frozen? ⟨g,i,none⟩=false)->Mv wb (W.alloc (.cells #[.int .i64 0,.bool false,.slice none 0 0,.slice pm nm cm,.slice none 0 0,.slice (some ⟨g,0,none⟩) V V,.slice none 0 0] 107)) W.heap.size g V pm nm cm):=aQ (λ W g pm nm cm hb hg hgl hr hf=>by
   have hb1:Below W.heap.size W (W.alloc (.cells #[.int .i64 0,.bool false,.slice none 0 0,.slice pm nm cm,.slice none 0 0,.slice (some ⟨g,0,none⟩) V V,.slice none 0 0] 107)):=b1;refine⟨hb.trans (hb1.mono hb.size),hb.size,hg,by simp,by simp;omega,by omega,aJ W rfl,aJ W rfl,aJ W rfl,λ i hi=>?_,λ i=>(hb1.frozen (p:=⟨g,i,none⟩) hgl).trans (hf i)⟩;obtain⟨x,hx⟩:=hr i hi;exact⟨x,(hb1.cell (p:=⟨g,i,none⟩) hgl).trans hx⟩)
  clear d0 d1 d2 d3 d4 d5 d6 d7;have d5:w.heap.size<w2.heap.size:=by have:=HSZ.out;have:=H2.out.size;omega
  have d6:w.heap.size+1<w2.heap.size:=by have:=HSZ.out;have:=H2.out.size;omega
  go_region_held3 (λ W'=>W'.cell? ⟨w.heap.size,0,none⟩=some (.int .i64 0)/\W'.cell? ⟨w.heap.size,1,none⟩=some (.bool false)/\W'.cell? ⟨w.heap.size,2,none⟩=some (.slice none 0 0)/\W'.cell? ⟨w.heap.size+1,1,none⟩=some (.int .i64 (V:Int)))
   (first|exact HS.out _ H2.out|exact HS.out _ H2d.out|exact HS.out _ H2m.out|exact HS.out _ H2n.out|exact HS.out _ H3.out|exact HS.out _ (H3.out.alloc H3.out.size _)|exact HS.out _ ((H3.out.alloc H3.out.size _).alloc (by have:=H3.out.size;simp;omega) _))
   (first|(go_at_call 37;(with_reducible refine(HCP.out _ (HB0.out.trans (Below.mono (by first|exact H2d.out|exact H2m.out) HB0.out.size))).mono ?_);rintro e w3 ⟨v3,Bf,Cf,rfl,hb3,hown,_⟩;obtain⟨pm,cm,rfl⟩:=aW hown;have H3p:=aQ hb3;have H3:Hid (Below wb.heap.size wb w3):=aQ (by first|exact H2d.out.trans (hb3.mono H2d.out.size)|exact H2m.out.trans (hb3.mono H2m.out.size));clear hb3 hown))
  all_goals (go_wp2_with fail;go_meet)
  all_goals first
   | exact⟨_,w3.heap.size,w2.heap.size,pm,MM.length,cm,rfl,rfl,aQ (HMX.out w3 w2.heap.size pm MM.length cm H3.out H2.out.size (HROW.out w2 w3 ((aD (Below.refl _ _)).trans H3p.out)).2.2 (HROW.out w2 w3 ((aD (Below.refl _ _)).trans H3p.out)).1 (HROW.out w2 w3 ((aD (Below.refl _ _)).trans H3p.out)).2.1)⟩
   | exact⟨_,w3.heap.size+1,w3.heap.size,pm,MM.length,cm,rfl,rfl,aQ (by have h:=HMX.out (w3.alloc (.cells (madeCells #[.int .u64 0] V) 54)) w3.heap.size pm MM.length cm (H3.out.alloc H3.out.size _) H3.out.size (by simp) (HROW.out w3 _ (Below.refl _ _)).1 (HROW.out w3 _ (Below.refl _ _)).2.1;rw[World.size_alloc]at h;exact h)⟩
 case rest =>
  obtain⟨W0,mb,gv,pm,nm,cm,rfl,rfl,HMV⟩:=hcut;clear H1 H2 d0 d1 d2 d3 d4 d5 d6 d7 HMY HCK HCP HCK0 hmk;obtain⟨e1,e2,e3,e4⟩:=HEN.out;have HPL:Hid (∀ W,Below wb.heap.size wb W->PartsAt W q L):=aQ (λ W hb=>HPT.out.below (HB0.out.trans (hb.mono HB0.out.size)));obtain⟨d0,d1,d2,d3,d4,d5,d6,d7⟩:=HBX.out _ HMV.out.low;clear d0 d1 d2 d4 d5 d7;go_wp2_with fail
  go_loopw [13,14] (λ p st W=>p=.int .i64 0/\st=.int .i64 0/\Hid (Mv wb W mb gv V pm nm cm)) (λ _ _ _=>0)
  case atStart=>exact⟨rfl,rfl,HMV⟩
  case round =>
   clear HMV d3 d6;obtain⟨rfl,rfl,HMV⟩:=hrel;obtain⟨d0,d1,d2,d3,d4,d5,d6,d7⟩:=HBX.out _ HMV.out.low;clear d0 d1 d2 d4 d5 d7;obtain⟨g,qp,cp,qf,cf,qn,cn,rfl,hgl,c0,c1,c2,c3,c4,c5,c6,c7,c8,c9,_,_,hnd⟩:=HPT.out.at (i:=0) (by omega);have hwr:=HB0.out.trans (HMV.out.low.mono HB0.out.size);replace c0:=(hwr.cell (p:=⟨g,_,none⟩) hgl).trans c0;replace c1:=(hwr.cell (p:=⟨g,_,none⟩) hgl).trans c1;replace c2:=(hwr.cell (p:=⟨g,_,none⟩) hgl).trans c2;replace c3:=(hwr.cell (p:=⟨g,_,none⟩) hgl).trans c3;replace c4:=(hwr.cell (p:=⟨g,_,none⟩) hgl).trans c4;replace c5:=(hwr.cell (p:=⟨g,_,none⟩) hgl).trans c5;replace c6:=(hwr.cell (p:=⟨g,_,none⟩) hgl).trans c6;replace c7:=(hwr.cell (p:=⟨g,_,none⟩) hgl).trans c7;replace c8:=(hwr.cell (p:=⟨g,_,none⟩) hgl).trans c8;replace c9:=(hwr.cell (p:=⟨g,_,none⟩) hgl).trans c9;replace hgl:=Nat.lt_of_lt_of_le hgl hwr.size;simp only[Nat.zero_mul,Nat.zero_add]at c0 c1 c2 c3 c4 c5 c6 c7 c8 c9;rw[e1]at c3;rw[e2]at c6;rw[e4]at c2;have HND:=aQ (λ W (hb:Below wb.heap.size wb W)=>hnd.below (HB0.out.trans (hb.mono HB0.out.size)));have hm90:m+1<=91:=by omega
   generalize (pt L 0).pred.length=z1 at *;generalize (pt L 0).phis.length=z2 at *;generalize (pt L 0).en.cond=z3 at *;generalize (pt L 0).en.wide=z4 at *;generalize (pt L 0).en.b=z5 at *;generalize (pt L 0).en.to'=z6 at *;generalize (pt L 0).en.els=z7 at *;obtain⟨ND,hNDe⟩:∃ N,(pt L 0).nodes=N:=⟨_,rfl⟩;rw[hNDe]at HND HOP HID c6 e4 HQ;have HN4:=aQ e4;obtain⟨id0,hid0⟩:∃ i:Nat,(nd ND m).id=(i:Int):=⟨(nd ND m).id.toNat,by have:=(HID.out m (by omega)).1;omega⟩;have hidV:id0<V:=by have:=(HID.out m (by omega)).2;omega
   have HI0:=aQ hid0;rw[hid0]at c6
   have HPB:Hid (∀ W:World,W.heap[wr.heap.size]?=(wr.alloc (.cells #[.slice qp z1 cp,.slice qf z2 cf,.slice qn (m+1) cn,.int .i64 3,.int .i64 z3,.bool z4,.int .i64 (id0:Int),.int .i64 z5,.int .i64 z6,.int .i64 z7] 41)).heap[wr.heap.size]?->W.cell? ⟨wr.heap.size,2,none⟩=some (.slice qn (m+1) cn)/\W.cell? ⟨wr.heap.size,3,none⟩=some (.int .i64 3)/\W.cell? ⟨wr.heap.size,6,none⟩=some (.int .i64 (id0:Int))/\W.cell? ⟨wr.heap.size,8,none⟩=some (.int .i64 z6)):=aQ (λ W hb=>by
    have hc:∀ i u,(#[.slice qp z1 cp,.slice qf z2 cf,.slice qn (m+1) cn,.int .i64 3,.int .i64 z3,.bool z4,.int .i64 (id0:Int),.int .i64 z5,.int .i64 z6,.int .i64 z7]:Array Value)[i]?=some u->W.cell? ⟨wr.heap.size,i,none⟩=some u:=λ i u hu=>(World.cell?_of_block (a:=⟨wr.heap.size,i,none⟩) hb).trans (aJ wr hu)
    exact⟨hc 2 _ rfl,hc 3 _ rfl,hc 6 _ rfl,hc 8 _ rfl⟩)
   have HMV1:Hid (Mv wb (wr.alloc (.cells #[.slice qp z1 cp,.slice qf z2 cf,.slice qn (m+1) cn,.int .i64 3,.int .i64 z3,.bool z4,.int .i64 (id0:Int),.int .i64 z5,.int .i64 z6,.int .i64 z7] 41)) mb gv V pm nm cm):=aQ (HMV.out.next b1);have hgv:=HMV.out.gl;have HGV:Hid (gv<wr.heap.size):=aQ hgv;obtain⟨p2,p3,p6,p8⟩:=HPB.out (wr.alloc (.cells #[.slice qp z1 cp,.slice qf z2 cf,.slice qn (m+1) cn,.int .i64 3,.int .i64 z3,.bool z4,.int .i64 (id0:Int),.int .i64 z5,.int .i64 z6,.int .i64 z7] 41)) rfl;have pl:wr.heap.size<(wr.alloc (.cells #[.slice qp z1 cp,.slice qf z2 cf,.slice qn (m+1) cn,.int .i64 3,.int .i64 z3,.bool z4,.int .i64 (id0:Int),.int .i64 z5,.int .i64 z6,.int .i64 z7] 41)).heap.size:=by simp
   go_wp2_with fail
   rename World=>wo
   go_loopw [14,16,17] (λ st la kk W=>∃ (j:Nat) (x:Int),j<=m+1/\st=.int .i64 (j:Int)/\la=.int .i64 x/\kk=.int .i64 (j:Int)/\Hid (Mv wb W mb gv V pm nm cm)/\Hid (W.heap[wo.heap.size]?=(wo.alloc (.cells #[.slice qp z1 cp,.slice qf z2 cf,.slice qn (m+1) cn,.int .i64 3,.int .i64 z3,.bool z4,.int .i64 (id0:Int),.int .i64 z5,.int .i64 z6,.int .i64 z7] 41)).heap[wo.heap.size]?/\wo.heap.size<W.heap.size)/\Hid (j=m+1->W.cell? ⟨gv,id0,none⟩=some (.int .u64 (f9 (nd ND m))))) (λ st _ _ _=>(m+1) - (intOf st).toNat)
   case atStart=>exact⟨0,0,Nat.zero_le _,rfl,rfl,rfl,HMV1,aQ ⟨rfl,pl⟩,aQ (λ e=>by omega)⟩
   case round =>
    clear HMV1 HMV p2 p3 p6 p8 pl hgv c0 c1 c2 c3 c4 c5 c6 c7 c8 c9 d3 d6 hgl;obtain⟨j,x,hj,rfl,rfl,rfl,HMV,HBL,HVL⟩:=hrel;obtain⟨p2,p3,p6,p8⟩:=HPB.out _ HBL.out.1;have pl:=HBL.out.2;by_cases hjm:j<m+1
    ·obtain⟨gn,pp,pc,hqn,hgn,k0,k1,k2,k3,k4,k5,k6,k7,k8,k9,k10,k11,_⟩:=(HND.out _ HMV.out.low).at (i:=j) (by rw[HN4.out];exact hjm)
     subst hqn;obtain⟨i0,i1⟩:=HID.out j hjm;obtain⟨id,hid⟩:∃ i:Nat,(nd ND j).id=(i:Int):=⟨(nd ND j).id.toNat,by omega⟩;have HNC:=aQ (λ W (h:Mv wb W mb gv V pm nm cm)=>i7 h (nd ND j) pp pc id hid (by omega) (HOP.out j hjm))
     have HIDM:Hid (j+1=m+1->id=id0):=aQ (λ e=>by
      have e':j=m:=by omega
      subst e';have:=HI0.out;omega)
     have hjI:(j:Int)<((m:Int)+1):=by omega
     have hj100:((j:Int) == 100)=false:=by simp;omega
     have HVJ:Hid (j+1=m+1->f9 (nd ND j)=f9 (nd ND m)):=aQ (λ e=>by
      have e':j=m:=by omega
      rw[e'])
     rw[hid]at HNC k1;clear hid i0 i1;go_wp2_with (go_at_call 39;(with_reducible refine(HNC.out _ HMV.out).mono ?_);rintro e w9 ⟨rfl,hm9',hc9,hs9,hb9⟩;have HM9:=aQ hm9';have HC9:=aQ hc9;have HB9:=aQ (And.intro hs9 hb9);clear hm9' hc9 hs9 hb9)
     go_roundw
     all_goals first
      | exact⟨j+1,_,by omega,rfl,rfl,rfl,HM9,aQ ⟨(HB9.out.2 _ pl (by have:=HGV.out;omega)).trans HBL.out.1,Nat.lt_of_lt_of_le pl HB9.out.1⟩,aQ (λ e=>by rw[<- HIDM.out e,<- HVJ.out e];exact HC9.out)⟩
      | ((simp[intOf]) <;> omega)
    ·obtain rfl:j=m+1:=by omega
     have v1:=HVL.out rfl;have vl:=HMV.out.gl;have vc:=HMV.out.c5;have vm:=HMV.out.ml;have HED:=aQ (λ W st (h:Mv wb W mb gv V pm nm cm)=>jU mb 1 st pm none nm cm 0 0 W h.c3 h.c6 h.ml);have hx100:((m+1:Nat):Int)<100:=by omega
     go_wp2_with (go_at_call 38;(with_reducible refine(HED.out _ _ HMV.out).mono ?_);rintro e w8 ⟨rfl,hb8⟩;have v1':=(hb8.cell (p:=⟨gv,id0,none⟩) vl).trans v1;have vc':=(hb8.cell (p:=⟨mb,5,none⟩) vm).trans vc;have p3':=(hb8.cell (p:=⟨_,3,none⟩) pl).trans p3;have p6':=(hb8.cell (p:=⟨_,6,none⟩) pl).trans p6;have pl':=Nat.lt_of_lt_of_le pl hb8.size;have vl':=Nat.lt_of_lt_of_le vl hb8.size;have vm':=Nat.lt_of_lt_of_le vm hb8.size;have H8:=aQ hb8;clear hb8 v1 vc p2 p3 p6 p8 pl vl vm)
     have HS:Hid (∀ W',Below w8.heap.size w8 W'->W'.cell? ⟨mb,5,none⟩=some (.slice (some ⟨gv,0,none⟩) V V)/\W'.cell? ⟨wo.heap.size,6,none⟩=some (.int .i64 (id0:Int))/\W'.cell? ⟨gv,id0,none⟩=some (.int .u64 (f9 (nd ND m)))):=aQ (λ W' hb=>⟨(hb.cell (p:=⟨mb,5,none⟩) vm').trans vc',(hb.cell (p:=⟨_,6,none⟩) pl').trans p6',(hb.cell (p:=⟨gv,id0,none⟩) vl').trans v1'⟩)
     go_region_held3 (λ W'=>W'.cell? ⟨mb,5,none⟩=some (.slice (some ⟨gv,0,none⟩) V V)/\W'.cell? ⟨wo.heap.size,6,none⟩=some (.int .i64 (id0:Int))/\W'.cell? ⟨gv,id0,none⟩=some (.int .u64 (f9 (nd ND m))))
      (first|exact HS.out _ b1|exact HS.out _ (aD b1)|exact HS.out _ (Below.refl _ _)|exact HS.out _ (aD (Below.refl _ _)))
      (fail)
     have h8:Below wb.heap.size wb w8:=HMV.out.low.trans (H8.out.mono HMV.out.low.size);have HWF:Hid (Below wb.heap.size wb (w8.alloc (.cells #[.int .i64 1,.int .u64 (f9 (nd ND m)),.int .i64 0,.int .i64 x,.int .i64 ((m:Int)+1+1),.slice none 0 0,.slice pm nm cm] 58)).drew):=aQ (aD (h8.alloc h8.size _));have r0:=(HB3.out _ HWF.out).1 0 _ rfl;have r1:=(HB3.out _ HWF.out).1 1 _ rfl;have r2:=(HB3.out _ HWF.out).1 2 _ rfl;have r3:=(HB3.out _ HWF.out).1 3 _ rfl;have r4:=(HB3.out _ HWF.out).1 4 _ rfl;have r5:=(HB3.out _ HWF.out).1 5 _ rfl;have r6:=(HB3.out _ HWF.out).1 6 _ rfl;have rf:=(HB3.out _ HWF.out).2;have HFN:Hid (Below w.heap.size w (w8.alloc (.cells #[.int .i64 1,.int .u64 (f9 (nd ND m)),.int .i64 0,.int .i64 x,.int .i64 ((m:Int)+1+1),.slice none 0 0,.slice pm nm cm] 58)).drew):=aQ (HB0.out.trans (HWF.out.mono HB0.out.size));have HWG:Hid (Below wb.heap.size wb (w8.alloc (.cells #[.int .i64 1,.int .u64 (f9 (nd ND m)),.int .i64 0,.int .i64 x,.int .i64 ((m:Int)+1+1),.slice none 0 0,.slice pm nm cm] 58))):=aQ (h8.alloc h8.size _);have s0:=(HB3.out _ HWG.out).1 0 _ rfl;have s1:=(HB3.out _ HWG.out).1 1 _ rfl;have s2:=(HB3.out _ HWG.out).1 2 _ rfl;have s3:=(HB3.out _ HWG.out).1 3 _ rfl;have s4:=(HB3.out _ HWG.out).1 4 _ rfl;have s5:=(HB3.out _ HWG.out).1 5 _ rfl;have s6:=(HB3.out _ HWG.out).1 6 _ rfl;have sf:=(HB3.out _ HWG.out).2;clear h8;all_goals go_wp2_with fail
     have HG0:=HB0.out.trans (HWG.out.mono HB0.out.size);have hz2:w.heap.size<=w.heap.size+1+1:=by omega
     refine bodyPost_ret (v:=.tuple #[.agg #[.int .i64 1,.int .u64 (f9 (nd ND m)),.int .i64 0,.int .i64 x,.int .i64 ((m:Int)+1+1),.slice none 0 0,.slice pm nm cm],.int .i64 0]) ?_ rfl (HQ.out _ _ _ _ _ _ _ (aD (((((((HG0.setCell (p:=⟨w.heap.size+1+1,0,none⟩) hz2 _).setCell (p:=⟨w.heap.size+1+1,1,none⟩) hz2 _).setCell (p:=⟨w.heap.size+1+1,2,none⟩) hz2 _).setCell (p:=⟨w.heap.size+1+1,3,none⟩) hz2 _).setCell (p:=⟨w.heap.size+1+1,4,none⟩) hz2 _).setCell (p:=⟨w.heap.size+1+1,5,none⟩) hz2 _).setCell (p:=⟨w.heap.size+1+1,6,none⟩) hz2 _)));simp[results,Tryz.results12,go_sem,loadVar,s0,s1,s2,s3,s4,s5,s6]
end Go.Proofs.YtkfahppdklecdaaGreatDoor
