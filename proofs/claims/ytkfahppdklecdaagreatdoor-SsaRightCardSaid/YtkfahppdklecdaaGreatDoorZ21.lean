import Derived.Test.YtkfahppdklecdaaGreatDoorZ11
set_option maxRecDepth 100000
set_option maxHeartbeats 16000000
namespace Go.Proofs.YtkfahppdklecdaaGreatDoor.J
open Go.RowKit
open Dm
theorem leads1{e:Te}(h:e.op=1):aY e=[e.to']:=by unfold aY;rw[if_pos h]
theorem leads2{e:Te}(h:e.op=2):aY e=[e.to',e.els]:=by unfold aY;rw[if_neg (by omega),if_pos h]
theorem leads0{e:Te}(h1:¬ e.op=1)(h2:¬ e.op=2):aY e=[]:=by unfold aY;rw[if_neg h1,if_neg h2]
theorem box_grown{wr w8:World}{cs:Array Value}{t:TypeId}{fr:Nat×Nat}{o:Obj}{row:Option Nat}(hg:((wr.alloc (.cells cs t fr)).alloc o).grownBy w8 row)(hr:row≠some wr.heap.size){i:Nat}{v:Value}(h:cs[i]?=some v):w8.cell? ⟨wr.heap.size,i,none⟩=some v :=
 hg.cell (a:=⟨wr.heap.size,i,none⟩) ((b1.cell (p:=⟨wr.heap.size,i,none⟩) (by simp)).trans (aJ wr h)) (λ e=>hr e.symm)
theorem new_cells1(w:World)(cs:List Value)(t:TypeId){n:Nat}(hn:w.heap.size=n):∀ j u,cs[j]?=some u->(w.alloc (.cells cs.toArray t)).cell? ((⟨n,0,none⟩:Addr).add j)=some u:=by
 subst hn;exact dQ w cs t
theorem rsuccF_any(q:Option Addr)(qc:Nat)(l:List Pt)(V:Int)(w:World)(h:PartsAt w q l)(hN:l.length<=4096):Calls Tryz.prog 23 #[.agg #[.slice q l.length qc,.int .i64 V]] w (RowsQ (bF l) w):=by
 have HI:=aQ h
 have HQ:Hid (∀ w2 W P C p c,Below w.heap.size w w2->Fb w2 W l.length P C (λ a=>aY (pt l a).en) p c->RowsQ (bF l) w (.returned (.slice p l.length c)) W):=aQ (λ w2 W P C p c h1 h2=>by
  have hl:(bF l).length=l.length:=bP l;refine⟨p,c,by rw[hl],?_,h1.trans (h2.low.mono h1.size)⟩
  have e:bF l=(List.range l.length).map (λ a=>aY (pt l a).en):=by
   refine List.ext_getElem (by simp[bF]) (λ i h1 h2=>?_);have h1':i<l.length:=by simpa[bF]using h1
   simp[bF,pt,List.getD_eq_getElem?_getD,List.getElem?_eq_getElem h1']
  rw[e];exact h2.gs)
 generalize RowsQ (bF l) w=Q at *;obtain⟨N,hNl⟩:∃ N,l.length=N:=⟨_,rfl⟩;have HNL:=aQ hNl;rw[hNl]at hN HQ ⊢;have HN9:=aQ (λ (x:Int) W=>bH (k:=.i64) W 3 [x] #[.int .i64 x] rfl (by simp));have HN8:Hid (∀ (x:Int) (W:World) (n:Nat),W.heap.size=n->NumsAt .i64 (W.alloc (.cells #[.int .i64 x] 3)) (some ⟨n,0,none⟩) [x]):=aQ (λ x W n h=>by subst h;exact bH (k:=.i64) W 3 [x] #[.int .i64 x] rfl (by simp));clear h hNl;go_enter Tryz.func23,Tryz.ntmps23
 go_wp2_with fail
 have HW0:Hid (Below w.heap.size w (w.alloc (.cells #[.slice q N qc,.int .i64 V] 27))):=aQ b1;have f0:(w.alloc (.cells #[.slice q N qc,.int .i64 V] 27)).cell? ⟨w.heap.size,0,none⟩=some (.slice q N qc):=aJ w rfl;have fl:w.heap.size<(w.alloc (.cells #[.slice q N qc,.int .i64 V] 27)).heap.size:=by simp
 obtain⟨w2,hw2⟩:∃ W,w.alloc (.cells #[.slice q N qc,.int .i64 V] 27)=W:=⟨_,rfl⟩;rw[hw2]at HW0 f0 fl ⊢;have F0:=aQ f0;have FL:=aQ fl;clear f0 fl hw2
 go_loopw [3,4] (λ o v wr=>∃ (k:Nat) (P:Nat->Option Addr) (C:Nat->Nat) (p:Option Addr) (c:Nat),k<=N/\v=.int .i64 (k:Int)/\o=.slice p k c/\Fb w2 wr k P C (λ a=>aY (pt l a).en) p c) (λ _ v _=>N - (intOf v).toNat)
 case atStart=>exact⟨0,λ _=>none,λ _=>0,none,0,Nat.zero_le _,rfl,rfl,Below.refl _ _,World.ownsRow_nil _ _ _ _,λ a ha=>absurd ha (Nat.not_lt_zero _),λ a ha=>absurd ha (Nat.not_lt_zero _),λ a ha=>absurd ha (Nat.not_lt_zero _)⟩
 case round =>
  obtain⟨k,P,C,p,c,hk,rfl,rfl,hfb⟩:=hrel;have HFB:=aQ hfb;have g0:=(hfb.low.cell (p:=⟨w.heap.size,0,none⟩) FL.out).trans F0.out;have gl:w.heap.size<wr.heap.size:=Nat.lt_of_lt_of_le FL.out hfb.low.size;by_cases hlt:k<N
  ·obtain⟨g,qp,cp,qf,cf,qn,cn,rfl,hgl,_,_,_,c3,c4,c5,c6,c7,c8,c9,_⟩:=(HI.out.below (HW0.out.trans (hfb.low.mono HW0.out.size))).at (i:=k) (by rw[HNL.out];exact hlt)
   have HLEQ:Hid (∀ L,L=aY (pt l k).en->aY (pt l k).en=L):=aQ (λ L h=>h.symm);have H1:=aQ (λ h=>leads1 (e:=(pt l k).en) h);have H2:=aQ (λ h=>leads2 (e:=(pt l k).en) h);have H0:=aQ (λ h h'=>leads0 (e:=(pt l k).en) h h');clear hfb;generalize (pt l k).en.op=eo at *;generalize (pt l k).en.cond=ec at *;generalize (pt l k).en.wide=ew at *;generalize (pt l k).en.a=ea at *;generalize (pt l k).en.b=eb at *;generalize (pt l k).en.to'=et at *;generalize (pt l k).en.els=ee at *;by_cases h1:eo=1
   ·have HL:=aQ (H1.out h1)
    subst h1
    go_wp2_with (first
     | (at_builtin;refine aZ rfl (.tmp 28) (.tmp 31) rfl rfl wr.heap.size (some ⟨wr.heap.size+1,0,none⟩) [et] [] (.slice none 0 0) 1 1 rfl rfl rfl (World.ownsRow_nil _ _ _ _) (HN8.out _ _ _ (by simp)) (by simp;omega) (by simp) ?_;intro v8 w8 ho8 hg8 hb8;obtain⟨q8,c8,rfl⟩:=aW ho8;have x0:=box_grown hg8 (by simp[Value.ownBlock]) (i:=0) rfl;have x6:=box_grown hg8 (by simp[Value.ownBlock]) (i:=6) rfl;have x8:wr.heap.size<w8.heap.size:=(by have:=hg8.size;simp at this;omega);have HP:=aQ (((Ri.nil wr).next b2).app rfl ho8 rfl hg8);simp only[List.nil_append]at HP;clear ho8 hg8 hb8)
     | (at_builtin;refine eZ rfl (.tmp 41) (.tmp 43) rfl rfl w2.heap.size ⟨w8.heap.size,0,none⟩ (.slice q8 1 c8) ((List.range k).map λ a=>.slice (P a) (aY (pt l a).en).length (C a)) (.slice p k c) k 1 rfl rfl (own_below (HFB.out.next HP.out.low).own b1) (dQ _ _ _) rfl (by have:=HFB.out.low.size;have:=HP.out.low.size;simp at this ⊢;omega) (by omega) ?_;intro v9 w9 ho9 hg9 hb9;obtain⟨q9,c9',rfl⟩:=aW ho9;have HZ:=aQ (Fb.put (L:=λ a=>aY (pt l a).en) HFB.out (HP.out.next b1) (HL.out.symm) (by simp) ho9 hg9 hb9);clear ho9 hg9 hb9))
    go_roundw
    case rel=>exact⟨k+1,_,_,q9,c9',by omega,rfl,rfl,HZ.out⟩
    case measure=>simp[RowKit.intOf];omega
   ·by_cases h2:eo=2
    ·have HL:=aQ (H2.out h2)
     subst h2
     go_wp2_with (first
      | (at_builtin;refine aZ rfl (.tmp 28) (.tmp 31) rfl rfl wr.heap.size (some ⟨wr.heap.size+1,0,none⟩) [et] [] (.slice none 0 0) 1 1 rfl rfl rfl (World.ownsRow_nil _ _ _ _) (HN8.out _ _ _ (by simp)) (by simp;omega) (by simp) ?_;intro v8 w8 ho8 hg8 hb8;obtain⟨q8,c8,rfl⟩:=aW ho8;have x0:=box_grown hg8 (by simp[Value.ownBlock]) (i:=0) rfl;have x6:=box_grown hg8 (by simp[Value.ownBlock]) (i:=6) rfl;have x8:wr.heap.size<w8.heap.size:=(by have:=hg8.size;simp at this;omega);have HP:=aQ (((Ri.nil wr).next b2).app rfl ho8 rfl hg8);simp only[List.nil_append]at HP;clear ho8 hg8 hb8)
      | (at_builtin;refine aZ rfl (.tmp 36) (.tmp 39) rfl rfl wr.heap.size (some ⟨w8.heap.size,0,none⟩) [ee] [et] (.slice q8 1 c8) 1 1 rfl rfl rfl (HP.out.next b1).own (HN9.out _ _) (by have:=HP.out.low.size;simp;omega) (by simp) ?_;intro v7 w7 ho7 hg7 hb7;obtain⟨q7,c7',rfl⟩:=aW ho7;have HP2:=aQ ((HP.out.next b1).app rfl ho7 rfl hg7);simp only[List.cons_append,List.nil_append]at HP2;clear ho7 hg7 hb7)
      | (at_builtin;refine eZ rfl (.tmp 41) (.tmp 43) rfl rfl w2.heap.size ⟨w7.heap.size,0,none⟩ (.slice q7 2 c7') ((List.range k).map λ a=>.slice (P a) (aY (pt l a).en).length (C a)) (.slice p k c) k 1 rfl rfl (own_below (HFB.out.next HP2.out.low).own b1) (dQ _ _ _) rfl (by have:=HFB.out.low.size;have:=HP2.out.low.size;simp at this ⊢;omega) (by omega) ?_;intro v9 w9 ho9 hg9 hb9;obtain⟨q9,c9',rfl⟩:=aW ho9;have HZ:=aQ (Fb.put (L:=λ a=>aY (pt l a).en) HFB.out (HP2.out.next b1) (HL.out.symm) (by simp) ho9 hg9 hb9);clear ho9 hg9 hb9))
     go_roundw
     case rel=>exact⟨k+1,_,_,q9,c9',by omega,rfl,rfl,HZ.out⟩
     case measure=>simp[RowKit.intOf];omega
    ·have HL:=aQ (H0.out h1 h2)
     have b1':(eo == 1)=false:=by simpa using h1
     have b2':(eo == 2)=false:=by simpa using h2
     have HP:Hid (Ri wr (wr.alloc (.cells #[.int .i64 eo,.int .i64 ec,.bool ew,.int .i64 ea,.int .i64 eb,.int .i64 et,.int .i64 ee] 39)) [] none 0):=aQ ((Ri.nil wr).next b1);go_wp2_with (at_builtin;refine eZ rfl (.tmp 41) (.tmp 43) rfl rfl w2.heap.size ⟨wr.heap.size+1,0,none⟩ (.slice none 0 0) ((List.range k).map λ a=>.slice (P a) (aY (pt l a).en).length (C a)) (.slice p k c) k 1 rfl rfl (own_below (HFB.out.next HP.out.low).own b1) (new_cells1 _ _ _ (by simp)) rfl (by have:=HFB.out.low.size;have:=HP.out.low.size;simp at this ⊢;omega) (by omega) ?_;intro v9 w9 ho9 hg9 hb9;obtain⟨q9,c9',rfl⟩:=aW ho9;have HZ:=aQ (Fb.put (L:=λ a=>aY (pt l a).en) HFB.out (HP.out.next b1) (HL.out.symm) (by simp) ho9 hg9 hb9);clear ho9 hg9 hb9)
     go_roundw
     case rel=>exact⟨k+1,_,_,q9,c9',by omega,rfl,rfl,HZ.out⟩
     case measure=>simp[RowKit.intOf];omega
  ·obtain rfl:k=N:=by omega
   have HD:=aQ (HQ.out w2 wr P C p c HW0.out HFB.out);clear hfb;go_wp2_with fail
   exact HD.out
end Go.Proofs.YtkfahppdklecdaaGreatDoor.J
