import Derived.Test.YtkfahppdklecdaaGreatDoorZ37
set_option maxRecDepth 100000
set_option maxHeartbeats 16000000
namespace Go.Proofs.YtkfahppdklecdaaGreatDoor.J
open Go.RowKit
open M
theorem slay_any(l:List In)(q:Option Addr)(qc:Nat)(B:List Bk)(qB:Option Addr)(cB a:Nat)(w:World)(hI:InsAt w q l)(hB:BksAt w qB B)(hB0:0<B.length)(hBn:B.length<=998)(ha:a=if (bk B 0).pr.length=0 then 0 else 1)(hla:∀ k,k<B.length->0<=(bk B k).la/\(bk B k).la<(l.length:Int))(hsu:∀ k,k<B.length->(bk B k).su.length<=2/\∀ s∈(bk B k).su,0<=s/\s<(B.length:Int)) :
  Calls Tryz.prog 16 #[.slice q l.length qc,.slice qB B.length cB] w (LayQ w q qc l qB cB B a):=by
 obtain⟨bB,oB,sp0,sc0,pp0,pc0,rfl,lB,_,_,_,_,t04,_,_⟩:=hB.cells 0 hB0;have ha1:a<=1:=by rw[ha];split <;> omega
 have HRG:=aQ (layE_rng (l:=l) ha1 hB0 (λ k hk=>(hsu k hk).2));have HQ:Hid (∀ W k P C,k.q=q->k.qc=qc->k.l=l->k.qB=some ⟨bB,oB,none⟩->k.cB=cB->k.B=B->k.a=a->Ly w W k P C->LayQ w q qc l (some ⟨bB,oB,none⟩) cB B a (.returned (.pointer (some ⟨k.bb,0,none⟩))) W):=aQ (λ W k P C h1 h2 h3 h4 h5 h6 h7 h8=>⟨k,P,C,rfl,h1,h2,h3,h4,h5,h6,h7,h8⟩);generalize LayQ w q qc l (some ⟨bB,oB,none⟩) cB B a=Q at *;have HBK:=aQ (λ W (hb:Below w.heap.size w W)=>hB.below hb);have HBL:Hid (∀ W,Below w.heap.size w W->W.cell? ⟨bB,oB+4,none⟩=some (.slice pp0 (bk B 0).pr.length pc0)/\bB<W.heap.size):=aQ (λ W hb=>⟨(hb.cell (p:=⟨bB,oB+4,none⟩) lB).trans (by simpa using t04),Nat.lt_of_lt_of_le lB hb.size⟩);have HEND:=aQ (λ (k:Nat) (W:World) (bb:Nat) (sp pp:Option Addr) (sc pn pc:Nat) (hk:k<B.length) (c0:W.cell? ⟨bb,0,none⟩=some (.slice q l.length qc)) (c2:W.cell? ⟨bb,2,none⟩=some (.int .i64 (a:Int))) (hb:Below w.heap.size w W) (hbl:bb<W.heap.size) (hn:_root_.Go.Proofs.YtkfahppdklecdaaGreatDoor.NumsAt .i64 W sp (bk B k).su)=>send_any bb a l q qc (bk B k) sp pp sc pn pc W c0 c2 (hI.below hb) hbl hn (hsu k hk).1 (hla k hk) (λ s hs=>by have:=(hsu k hk).2 s hs;omega) ha1);obtain⟨NB,hNB⟩:∃ n,B.length=n:=⟨_,rfl⟩;obtain⟨E0,hE0⟩:∃ E:List Te,(if a=1 then [⟨1,0,false,0,0,1,0⟩]else [])=E:=⟨_,rfl⟩;have HNB:=aQ hNB;have hBsm:=hB.small;have HA:=aQ ha;have HE0:=aQ hE0;rw[hNB]at hB0 hBn hBsm ⊢;clear hI hB hla hsu ha hNB hE0 t04;go_enter Tryz.func16,Tryz.ntmps16
 have hmm:=@run_makeMap Tryz.prog;obtain⟨e04,_⟩:=HBL.out w (Below.refl _ _);obtain⟨pr0,hpr0⟩:∃ n,(bk B 0).pr.length=n:=⟨_,rfl⟩;rw[hpr0]at e04;have HP0:=aQ hpr0;clear hpr0
 go_upto_if 23 with fail
 go_cut [] from 23 (λ wx=>∃ W p c,wx=W/\Hid (Lyq w W (w.heap.size+1) w.heap.size q l.length qc (some ⟨bB,oB,none⟩) NB cB a E0 p c))
 case first =>
  by_cases hp:pr0=0
  ·have ha0:a=0:=by rw[HA.out,HP0.out,if_pos hp]
   subst hp;go_wp2_with fail
   go_meet
   refine⟨_,none,0,rfl,aQ ?_⟩;rw[<- HE0.out,if_neg (by omega),ha0];exact Lyq.start w q l.length qc (some ⟨bB,oB,none⟩) NB cB 0
  ·have ha0:a=1:=by rw[HA.out,HP0.out,if_neg hp]
   have hpI:(0:Int)<(pr0:Int):=by omega
   have HL1:=aQ (Lyq.start w q l.length qc (some ⟨bB,oB,none⟩) NB cB 1);go_wp2_with (at_builtin;refine wpList_app_pt rfl (.tmp 32) (.tmp 35) rfl rfl (w.heap.size+1+1) _ (dX ⟨1,0,false,0,0,1,0⟩) [] (.slice none 0 0) 0 1 rfl rfl (World.ownsRow_nil _ _ _ _) rfl (new_cellsK _ (dX ⟨1,0,false,0,0,1,0⟩) _ _ _ (by simp) rfl) (bareV_one _) (by simp) (by omega) ?_;intro v8 w8 ho8 hg8;obtain⟨q8,c8,rfl⟩:=aW ho8;obtain⟨⟨d8,f8,b8⟩,HX⟩:=(HL1.out.next b1).app (e:=⟨1,0,false,0,0,1,0⟩) ho8 rfl hg8;have HX:=aQ HX;clear ho8 hg8)
   go_meet
   refine⟨_,q8,c8,rfl,?_⟩;rw[<- HE0.out,if_pos ha0,ha0];exact HX
 case rest =>
  obtain⟨W0,p0,c0,rfl,HL0⟩:=hcut;clear hmm e04 HA HP0;obtain⟨bb,hbb⟩:∃ b,w.heap.size+1=b:=⟨_,rfl⟩;rw[hbb]at HL0 ⊢;have HBBW:Hid (w.heap.size<bb):=aQ (by omega);clear hbb;go_wp2_with fail
  go_loopw [42] (λ v wr=>∃ (k:Nat) (p:Option Addr) (c:Nat),k<=NB/\v=.int .i64 (k:Int)/\Hid (Lyq w wr bb w.heap.size q l.length qc (some ⟨bB,oB,none⟩) NB cB a (E0 ++ (B.take k).map (endB l a)) p c)) (λ v _=>NB - (intOf v).toNat)
  case atStart=>exact⟨0,p0,c0,Nat.zero_le _,rfl,by rw[List.take_zero,List.map_nil,List.append_nil];exact HL0⟩
  case round =>
   clear HL0;obtain⟨k,p,c,hk,rfl,HL⟩:=hrel;by_cases hkN:k<NB
   ·have hkB:k<B.length:=by rw[HNB.out];exact hkN
    obtain⟨b1,o1,sp,sc,pp,pc,hq1,l1,t0,t1,t2,t3,t4,n3,_⟩:=(HBK.out wr HL.out.low).cells k hkB;obtain⟨rfl,rfl⟩:bB=b1/\oB=o1:=by injection hq1 with h;injection h with h1 h2;exact⟨h1,h2⟩
    have hkI:(k:Int)<(NB:Int):=by omega
    have HTK:Hid (E0 ++ (B.take (k+1)).map (endB l a)=(E0 ++ (B.take k).map (endB l a)) ++ [endB l a (bk B k)]):=aQ (by
     rw[List.take_add_one,List.getElem?_eq_getElem hkB,List.map_append,List.append_assoc];unfold bk;rw[List.getD_eq_getElem?_getD,List.getElem?_eq_getElem hkB];rfl)
    have hEl:(E0 ++ (B.take k).map (endB l a)).length<=4096:=by
     rw[<- HE0.out,List.length_append,List.length_map,List.length_take];split <;> simp <;> omega
    have HC:=aQ (λ W (hb:Below wr.heap.size wr W)=>HEND.out k W bb sp pp sc (bk B k).pr.length pc hkB ((HL.out.next hb).c0) ((HL.out.next hb).c2) ((HL.out.next hb).low) ((HL.out.next hb).bbl) (n3.below hb));obtain⟨E,hE⟩:∃ E,E0 ++ (B.take k).map (endB l a)=E:=⟨_,rfl⟩;rw[hE]at HL HTK hEl;obtain⟨ne,hne⟩:∃ n,E.length=n:=⟨_,rfl⟩;rw[hne]at hEl;have HNE:=aQ hEl;obtain⟨e1,he1⟩:∃ e,endB l a (bk B k)=e:=⟨_,rfl⟩;rw[he1]at HC HTK
    have HN:Hid (∀ W,Below wr.heap.size wr W->Hid (W.cell? ⟨bb,3,none⟩=some (.slice p ne c)/\bb<W.heap.size/\(∀ W' q8 c8 n8,W'.ownsRow (bb+1) 41 10 (.slice q8 n8 c8) (ne+1) (fR E ++ dX e1)->W.grownBy W' (Value.slice p ne c).ownBlock->(W'.cell? ⟨bb,3,none⟩=some (.slice p ne c)/\W'.frozen? ⟨bb,3,none⟩=false/\bb<W'.heap.size)/\Hid (Lyq w (W'.setCell ⟨bb,3,none⟩ (.slice q8 (ne+1) c8)) bb w.heap.size q l.length qc (some ⟨bB,oB,none⟩) NB cB a (E ++ [e1]) q8 c8))/\W.ownsRow (bb+1) 41 10 (.slice p ne c) ne (fR E)/\bb+1<=W.heap.size)):=aQ (λ W hb=>by
     have h:=HL.out.next hb;have h3:=h.c3;have ho:=h.own;rw[hne]at h3 ho;refine aQ ⟨h3,h.bbl,λ W' q8 c8 n8 h1 h2=>?_,ho,h.bbl⟩
     have h8:n8=ne+1:=by
      obtain⟨_,hx⟩:=h1;rcases hx with ⟨_,e⟩|⟨g,cap,cur,e,_⟩
      ·omega
      ·injection e
     subst h8;have:=h.app (e:=e1) (p':=q8) (c':=c8) h1 (by rw[hne]) (by rw[hne];exact h2);rw[hne]at this;exact⟨this.1,aQ this.2⟩)
    have hbbl:=HL.out.bbl
    have HOW:Hid (∀ b,(Value.slice p ne c).ownBlock=some b->b<wr.heap.size):=aQ (λ b e=>by
     have ho:=HL.out.own;rw[hne]at ho;exact(ho.lt b e).2)
    generalize (bk B k).fr=x0 at *;generalize (bk B k).to=x1 at *;generalize (bk B k).la=x2 at *;obtain⟨sn,hsn⟩:∃ n,(bk B k).su.length=n:=⟨_,rfl⟩;obtain⟨pn,hpn⟩:∃ n,(bk B k).pr.length=n:=⟨_,rfl⟩;rw[hsn]at t3 HC;rw[hpn]at t4 HC;clear hsn hpn hE he1 hne hq1 n3;have HB1:Hid (Below wr.heap.size wr (wr.alloc (.cells #[.int .i64 x0,.int .i64 x1,.int .i64 x2,.slice sp sn sc,.slice pp pn pc] 94)).drew):=aQ (aD b1)
    have HSB:Hid (∀ W,Below (wr.alloc (.cells #[.int .i64 x0,.int .i64 x1,.int .i64 x2,.slice sp sn sc,.slice pp pn pc] 94)).drew.heap.size (wr.alloc (.cells #[.int .i64 x0,.int .i64 x1,.int .i64 x2,.slice sp sn sc,.slice pp pn pc] 94)).drew W->W.cell? ⟨wr.heap.size,0,none⟩=some (.int .i64 x0)/\W.cell? ⟨wr.heap.size,1,none⟩=some (.int .i64 x1)/\W.cell? ⟨wr.heap.size,2,none⟩=some (.int .i64 x2)/\W.cell? ⟨wr.heap.size,3,none⟩=some (.slice sp sn sc)/\W.cell? ⟨wr.heap.size,4,none⟩=some (.slice pp pn pc)):=aQ (λ W hb=>by
     have hc:∀ i u,(#[.int .i64 x0,.int .i64 x1,.int .i64 x2,.slice sp sn sc,.slice pp pn pc]:Array Value)[i]?=some u->W.cell? ⟨wr.heap.size,i,none⟩=some u:=λ i u hu=>(hb.cell (p:=⟨wr.heap.size,i,none⟩) (by simp)).trans (aJ wr hu)
     exact⟨hc 0 _ rfl,hc 1 _ rfl,hc 2 _ rfl,hc 3 _ rfl,hc 4 _ rfl⟩)
    have HS8:Hid (∀ W W',Below wr.heap.size wr W->(W.cell? ⟨wr.heap.size,0,none⟩=some (.int .i64 x0)/\W.cell? ⟨wr.heap.size,1,none⟩=some (.int .i64 x1)/\W.cell? ⟨wr.heap.size,2,none⟩=some (.int .i64 x2)/\W.cell? ⟨wr.heap.size,3,none⟩=some (.slice sp sn sc)/\W.cell? ⟨wr.heap.size,4,none⟩=some (.slice pp pn pc))->W.grownBy W' (Value.slice p ne c).ownBlock->(W'.cell? ⟨wr.heap.size,0,none⟩=some (.int .i64 x0)/\W'.cell? ⟨wr.heap.size,1,none⟩=some (.int .i64 x1)/\W'.cell? ⟨wr.heap.size,2,none⟩=some (.int .i64 x2)/\W'.cell? ⟨wr.heap.size,3,none⟩=some (.slice sp sn sc)/\W'.cell? ⟨wr.heap.size,4,none⟩=some (.slice pp pn pc))/\∀ v,(W'.setCell ⟨bb,3,none⟩ v).cell? ⟨wr.heap.size,0,none⟩=some (.int .i64 x0)/\(W'.setCell ⟨bb,3,none⟩ v).cell? ⟨wr.heap.size,1,none⟩=some (.int .i64 x1)/\(W'.setCell ⟨bb,3,none⟩ v).cell? ⟨wr.heap.size,2,none⟩=some (.int .i64 x2)/\(W'.setCell ⟨bb,3,none⟩ v).cell? ⟨wr.heap.size,3,none⟩=some (.slice sp sn sc)/\(W'.setCell ⟨bb,3,none⟩ v).cell? ⟨wr.heap.size,4,none⟩=some (.slice pp pn pc)):=aQ (λ W W' hb hS hg=>by
     have hne':∀ i,some (Addr.block ⟨wr.heap.size,i,none⟩)≠(Value.slice p ne c).ownBlock:=λ i e=>by have h9:=HOW.out wr.heap.size e.symm;omega
     have hS':W'.cell? ⟨wr.heap.size,0,none⟩=some (.int .i64 x0)/\W'.cell? ⟨wr.heap.size,1,none⟩=some (.int .i64 x1)/\W'.cell? ⟨wr.heap.size,2,none⟩=some (.int .i64 x2)/\W'.cell? ⟨wr.heap.size,3,none⟩=some (.slice sp sn sc)/\W'.cell? ⟨wr.heap.size,4,none⟩=some (.slice pp pn pc):=⟨hg.cell hS.1 (hne' _),hg.cell hS.2.1 (hne' _),hg.cell hS.2.2.1 (hne' _),hg.cell hS.2.2.2.1 (hne' _),hg.cell hS.2.2.2.2 (hne' _)⟩;have ho:∀ j,(⟨wr.heap.size,j,none⟩:Addr)≠⟨bb,3,none⟩:=λ j=>aM (.inl (by omega))
     exact⟨hS',λ v=>⟨aL hS'.1 (ho _),aL hS'.2.1 (ho _),aL hS'.2.2.1 (ho _),aL hS'.2.2.2.1 (ho _),aL hS'.2.2.2.2 (ho _)⟩⟩)
    have S1:=HSB.out (wr.alloc (.cells #[.int .i64 x0,.int .i64 x1,.int .i64 x2,.slice sp sn sc,.slice pp pn pc] 94)).drew (Below.refl _ _);have S0:(wr.alloc (.cells #[.int .i64 x0,.int .i64 x1,.int .i64 x2,.slice sp sn sc,.slice pp pn pc] 94)).cell? ⟨wr.heap.size,0,none⟩=some (.int .i64 x0)/\(wr.alloc (.cells #[.int .i64 x0,.int .i64 x1,.int .i64 x2,.slice sp sn sc,.slice pp pn pc] 94)).cell? ⟨wr.heap.size,1,none⟩=some (.int .i64 x1)/\(wr.alloc (.cells #[.int .i64 x0,.int .i64 x1,.int .i64 x2,.slice sp sn sc,.slice pp pn pc] 94)).cell? ⟨wr.heap.size,2,none⟩=some (.int .i64 x2)/\(wr.alloc (.cells #[.int .i64 x0,.int .i64 x1,.int .i64 x2,.slice sp sn sc,.slice pp pn pc] 94)).cell? ⟨wr.heap.size,3,none⟩=some (.slice sp sn sc)/\(wr.alloc (.cells #[.int .i64 x0,.int .i64 x1,.int .i64 x2,.slice sp sn sc,.slice pp pn pc] 94)).cell? ⟨wr.heap.size,4,none⟩=some (.slice pp pn pc):=S1;have d3a:(wr.alloc (.cells #[.int .i64 x0,.int .i64 x1,.int .i64 x2,.slice sp sn sc,.slice pp pn pc] 94)).drew.cell? ⟨bb,3,none⟩=some (.slice p ne c):=(HN.out _ HB1.out).out.1;go_wp2_with fail
    refine wp_region_held_drew (S:=(λ W'=>W'.cell? ⟨wr.heap.size,0,none⟩=some (.int .i64 x0)/\W'.cell? ⟨wr.heap.size,1,none⟩=some (.int .i64 x1)/\W'.cell? ⟨wr.heap.size,2,none⟩=some (.int .i64 x2)/\W'.cell? ⟨wr.heap.size,3,none⟩=some (.slice sp sn sc)/\W'.cell? ⟨wr.heap.size,4,none⟩=some (.slice pp pn pc))) (by kernel_rfl) ?_ (λ hHeld=>?_)
    ·(try dsimp only);first|exact S0|exact S1|exact S6|exact S7|exact S8|exact S9
    refine aT 0 rfl (h:=aT 1 rfl (h:=aT 2 rfl (h:=aT 3 rfl (h:=aT 4 rfl (h:=?_)))));try simp only[Act.put,aA,aB,aC]
    refine aT 6 rfl (h:=aT 7 rfl (h:=?_));try simp only[Act.put,aA,aB,aC]
    refine bY 5 8 (by kernel_rfl) rfl rfl (λ K hK=>?_) (λ K hK=>?_)
    ·
     go_simp
     refine hK.out _ _ ?_ (λ hHeld=>?_)
     ·(try dsimp only);first|exact S0|exact S1|exact S6|exact S7|exact S8|exact S9
     clear hK K;try simp only[Act.put,aA,aB,aC]
     refine aK 8 (by kernel_rfl) rfl (λ K hK=>?_);go_wp2_with (go_at_call 51;(with_reducible refine(HC.out _ HB1.out).mono ?_);rintro e w6 ⟨rfl,hb6⟩;have HB6:=aQ (HB1.out.trans (hb6.mono (by simp)));have H6:=HB6;have d3b:=(HN.out _ HB6.out).out.1;have d3l:=(HN.out _ HB6.out).out.2.1;have S6:=HSB.out _ (hb6.mono (Nat.le_refl _));have HA6:=aQ (HB6.out.trans (b1 (w:=w6) (o:=.cells #[.slice none 0 0,.slice none 0 0,.slice none 0 0,.int .i64 e1.op,.int .i64 e1.cond,.bool e1.wide,.int .i64 e1.a,.int .i64 e1.b,.int .i64 e1.to',.int .i64 e1.els] 41) |>.mono HB6.out.size));have d3c:=(HN.out _ HA6.out).out.1;have S7:=HSB.out (w6.alloc (.cells #[.slice none 0 0,.slice none 0 0,.slice none 0 0,.int .i64 e1.op,.int .i64 e1.cond,.bool e1.wide,.int .i64 e1.a,.int .i64 e1.b,.int .i64 e1.to',.int .i64 e1.els] 41)) (hb6.trans (b1.mono hb6.size));clear hb6)
     refine hK.out _ _ ?_ (λ hHeld=>?_)
     ·(try dsimp only);first|exact S0|exact S1|exact S6|exact S7|exact S8|exact S9
     clear hK K;try simp only[Act.put,aA,aB,aC]
     refine aT 9 rfl (h:=?_);try simp only[Act.put,aA,aB,aC]
     refine aK 10 (by kernel_rfl) rfl (λ K hK=>?_);go_simp
     refine hK.out _ _ ?_ (λ hHeld=>?_)
     ·(try dsimp only);first|exact S0|exact S1|exact S6|exact S7|exact S8|exact S9
     clear hK K;try simp only[Act.put,aA,aB,aC]
     refine aK 11 (by kernel_rfl) rfl (λ K hK=>?_)
     (refine step_app_pt rfl (.tmp 51) (.tmp 56) rfl rfl (bb+1) _ (dX e1) (fR E) (.slice p ne c) ne 1 (by simp[Act.eval]) (by simp[Act.eval];rfl) ((HN.out _ HA6.out).out.2.2.2.1) rfl (new_cellsK _ (dX e1) _ _ _ (by first|rfl|simp) rfl) (bareV_one _) ((HN.out _ HA6.out).out.2.2.2.2) HNE.out ?_;intro v8 w8 ho8 hg8;obtain⟨q8,c8,rfl⟩:=aW ho8;obtain⟨⟨d8,f8,b8⟩,HX⟩:=(HN.out _ HA6.out).out.2.2.1 _ _ _ _ ho8 hg8;obtain⟨S8,HS9⟩:=HS8.out _ _ HA6.out S7 hg8;have S9:=HS9 (.slice q8 (ne+1) c8);clear ho8 hg8)
     refine hK.out _ _ ?_ (λ hHeld=>?_)
     ·(try dsimp only);first|exact S0|exact S1|exact S6|exact S7|exact S8|exact S9
     clear hK K;try simp only[Act.put,aA,aB,aC]
     refine aT 12 rfl (h:=aT 13 rfl (h:=aT 14 rfl (h:=?_)));try simp only[Act.put,aA,aB,aC]
     refine aK 15 (by kernel_rfl) rfl (λ K hK=>?_);go_simp
     refine hK.out _ _ ?_ (λ hHeld=>?_)
     ·(try dsimp only);first|exact S0|exact S1|exact S6|exact S7|exact S8|exact S9
     clear hK K;try simp only[Act.put,aA,aB,aC]
     refine wpAnyH_done (by kernel_rfl) ?_ _;go_wp2_with fail
     go_roundw
     all_goals first
      | exact⟨k+1,q8,c8,by omega,rfl,by rw[HTK.out];exact HX⟩
      | ((simp[intOf]) <;> omega)
    ·
     go_wp2_with (go_at_call 51;(with_reducible refine(HC.out _ HB1.out).mono ?_);rintro e w6 ⟨rfl,hb6⟩;have HB6:=aQ (HB1.out.trans (hb6.mono (by simp)));have H6:=HB6;have d3b:=(HN.out _ HB6.out).out.1;have d3l:=(HN.out _ HB6.out).out.2.1;have S6:=HSB.out _ (hb6.mono (Nat.le_refl _));have HA6:=aQ (HB6.out.trans (b1 (w:=w6) (o:=.cells #[.slice none 0 0,.slice none 0 0,.slice none 0 0,.int .i64 e1.op,.int .i64 e1.cond,.bool e1.wide,.int .i64 e1.a,.int .i64 e1.b,.int .i64 e1.to',.int .i64 e1.els] 41) |>.mono HB6.out.size));have d3c:=(HN.out _ HA6.out).out.1;have S7:=HSB.out (w6.alloc (.cells #[.slice none 0 0,.slice none 0 0,.slice none 0 0,.int .i64 e1.op,.int .i64 e1.cond,.bool e1.wide,.int .i64 e1.a,.int .i64 e1.b,.int .i64 e1.to',.int .i64 e1.els] 41)) (hb6.trans (b1.mono hb6.size));clear hb6)
     refine hK.out _ _ ?_ (λ hHeld=>?_)
     ·(try dsimp only);first|exact S0|exact S1|exact S6|exact S7|exact S8|exact S9
     clear hK K;try simp only[Act.put,aA,aB,aC]
     refine aT 9 rfl (h:=?_);try simp only[Act.put,aA,aB,aC]
     refine bY 5 10 (by kernel_rfl) rfl rfl (λ K hK=>?_) (λ K hK=>?_)
     ·
      go_simp
      refine hK.out _ _ ?_ (λ hHeld=>?_)
      ·(try dsimp only);first|exact S0|exact S1|exact S6|exact S7|exact S8|exact S9
      clear hK K;try simp only[Act.put,aA,aB,aC]
      refine aK 10 (by kernel_rfl) rfl (λ K hK=>?_);go_simp
      refine hK.out _ _ ?_ (λ hHeld=>?_)
      ·(try dsimp only);first|exact S0|exact S1|exact S6|exact S7|exact S8|exact S9
      clear hK K;try simp only[Act.put,aA,aB,aC]
      refine aK 11 (by kernel_rfl) rfl (λ K hK=>?_)
      (refine step_app_pt rfl (.tmp 51) (.tmp 56) rfl rfl (bb+1) _ (dX e1) (fR E) (.slice p ne c) ne 1 (by simp[Act.eval]) (by simp[Act.eval];rfl) ((HN.out _ HA6.out).out.2.2.2.1) rfl (new_cellsK _ (dX e1) _ _ _ (by first|rfl|simp) rfl) (bareV_one _) ((HN.out _ HA6.out).out.2.2.2.2) HNE.out ?_;intro v8 w8 ho8 hg8;obtain⟨q8,c8,rfl⟩:=aW ho8;obtain⟨⟨d8,f8,b8⟩,HX⟩:=(HN.out _ HA6.out).out.2.2.1 _ _ _ _ ho8 hg8;obtain⟨S8,HS9⟩:=HS8.out _ _ HA6.out S7 hg8;have S9:=HS9 (.slice q8 (ne+1) c8);clear ho8 hg8)
      refine hK.out _ _ ?_ (λ hHeld=>?_)
      ·(try dsimp only);first|exact S0|exact S1|exact S6|exact S7|exact S8|exact S9
      clear hK K;try simp only[Act.put,aA,aB,aC]
      refine aT 12 rfl (h:=aT 13 rfl (h:=aT 14 rfl (h:=?_)));try simp only[Act.put,aA,aB,aC]
      refine aK 15 (by kernel_rfl) rfl (λ K hK=>?_);go_simp
      refine hK.out _ _ ?_ (λ hHeld=>?_)
      ·(try dsimp only);first|exact S0|exact S1|exact S6|exact S7|exact S8|exact S9
      clear hK K;try simp only[Act.put,aA,aB,aC]
      refine wpAnyH_done (by kernel_rfl) ?_ _;go_wp2_with fail
      go_roundw
      all_goals first
       | exact⟨k+1,q8,c8,by omega,rfl,by rw[HTK.out];exact HX⟩
       | ((simp[intOf]) <;> omega)
     ·
      go_simp
      refine hK.out _ _ ?_ (λ hHeld=>?_)
      ·(try dsimp only);first|exact S0|exact S1|exact S6|exact S7|exact S8|exact S9
      clear hK K;try simp only[Act.put,aA,aB,aC]
      refine aK 5 (by kernel_rfl) rfl (λ K hK=>?_);go_simp
      refine hK.out _ _ ?_ (λ hHeld=>?_)
      ·(try dsimp only);first|exact S0|exact S1|exact S6|exact S7|exact S8|exact S9
      clear hK K;try simp only[Act.put,aA,aB,aC]
      refine aK 11 (by kernel_rfl) rfl (λ K hK=>?_)
      (refine step_app_pt rfl (.tmp 51) (.tmp 56) rfl rfl (bb+1) _ (dX e1) (fR E) (.slice p ne c) ne 1 (by simp[Act.eval]) (by simp[Act.eval];rfl) ((HN.out _ HA6.out).out.2.2.2.1) rfl (new_cellsK _ (dX e1) _ _ _ (by first|rfl|simp) rfl) (bareV_one _) ((HN.out _ HA6.out).out.2.2.2.2) HNE.out ?_;intro v8 w8 ho8 hg8;obtain⟨q8,c8,rfl⟩:=aW ho8;obtain⟨⟨d8,f8,b8⟩,HX⟩:=(HN.out _ HA6.out).out.2.2.1 _ _ _ _ ho8 hg8;obtain⟨S8,HS9⟩:=HS8.out _ _ HA6.out S7 hg8;have S9:=HS9 (.slice q8 (ne+1) c8);clear ho8 hg8)
      refine hK.out _ _ ?_ (λ hHeld=>?_)
      ·(try dsimp only);first|exact S0|exact S1|exact S6|exact S7|exact S8|exact S9
      clear hK K;try simp only[Act.put,aA,aB,aC]
      refine aT 12 rfl (h:=aT 13 rfl (h:=aT 14 rfl (h:=?_)));try simp only[Act.put,aA,aB,aC]
      refine aK 15 (by kernel_rfl) rfl (λ K hK=>?_);go_simp
      refine hK.out _ _ ?_ (λ hHeld=>?_)
      ·(try dsimp only);first|exact S0|exact S1|exact S6|exact S7|exact S8|exact S9
      clear hK K;try simp only[Act.put,aA,aB,aC]
      refine wpAnyH_done (by kernel_rfl) ?_ _;go_wp2_with fail
      go_roundw
      all_goals first
       | exact⟨k+1,q8,c8,by omega,rfl,by rw[HTK.out];exact HX⟩
       | ((simp[intOf]) <;> omega)
   ·obtain rfl:k=NB:=by omega
    have hE:E0 ++ (B.take k).map (endB l a)=layE l a B:=by
     rw[<- HE0.out,List.take_of_length_le (by rw[HNB.out];exact Nat.le_refl _)];rfl
    rw[hE]at HL;obtain⟨n,hn⟩:∃ n,(layE l a B).length=n:=⟨_,rfl⟩
    have hnk:n=a+k:=by
     rw[<- hn];unfold layE;rw[List.length_append,List.length_map,HNB.out];split
     ·rename_i h;rw[h];rfl
     ·have:a=0:=by omega
      rw[this];rfl
    obtain⟨gp,hgp⟩:∃ g,p=some ⟨g,0,none⟩:=by
     rcases HL.out.own.2 with ⟨_,h0⟩|⟨g,cap,cur,e,_⟩
     ·omega
     ·injection e with e1;exact⟨g,e1⟩
    subst hgp;have hPA:=parts_own HL.out.own rfl (by omega)
    have HSUC:Hid (Calls Tryz.prog 52 #[.agg #[.slice (some ⟨gp,0,none⟩) n c,.int .i64 0]] wr (RowsG (bF (layP l a B)) wr)):=aQ (by
     have h:=ssucc_any (some ⟨gp,0,none⟩) c (layP l a B) 0 wr hPA (by rw[show(layP l a B).length=n by unfold layP;rw[List.length_map,hn]];omega);rw[show(layP l a B).length=n by unfold layP;rw[List.length_map,hn]]at h;exact h)
    have HSL:Hid ((bF (layP l a B)).length=n):=aQ (by rw[bP];unfold layP;rw[List.length_map,hn]);have HNN:=aQ hn;have HNK:=aQ hnk;have hn4:n<=4096:=by omega
    have hn0:0<n:=by omega
    clear hnk;have d3:=HL.out.c3;have d4:=HL.out.c4;have dl:=HL.out.bbl;have df:=HL.out.fz 5;have d5:=HL.out.c5;rw[hn]at d3;have HW2:Hid (∀ W,Below wr.heap.size wr W->W.cell? ⟨bb,5,none⟩=some (.slice none 0 0)/\W.frozen? ⟨bb,5,none⟩=false/\bb<W.heap.size):=aQ (λ W hb=>⟨(HL.out.next hb).c5,(HL.out.next hb).fz 5,(HL.out.next hb).bbl⟩);unfold RowsG at HSUC;rw[HSL.out]at HSUC;clear hE hPA hn;go_wp2_with (go_at_call 52;(with_reducible refine HSUC.out.mono ?_);rintro e w2 ⟨gs,rfl,hgs,hGB,hb2⟩;obtain⟨k5,f5,l5⟩:=HW2.out _ hb2;have HGS:=aQ (And.intro hgs hGB);have HB2:=aQ hb2;clear hgs hGB hb2)
    obtain⟨w1,hw1⟩:∃ W,w2.setCell ⟨bb,5,none⟩ (.slice (some ⟨gs,0,none⟩) n n)=W:=⟨_,rfl⟩;rw[hw1];have hbw:=HBBW.out;have hgpl:=(HL.out.own.lt gp (by rw[aH];rfl));have hs12:w1.heap.size=w2.heap.size:=by rw[<- hw1];simp[World.setCell]
    have hbo:∀ b,b≠bb->w1.heap[b]?=w2.heap[b]?:=λ b hb=>by rw[<- hw1];exact Below.heap_setCell w2 ⟨bb,5,none⟩ _ b hb
    have hco:∀ j,j≠5->w1.cell? ⟨bb,j,none⟩=w2.cell? ⟨bb,j,none⟩:=λ j hj=>by rw[<- hw1];exact bO (aM (.inr hj))
    have hc5:w1.cell? ⟨bb,5,none⟩=some (.slice (some ⟨gs,0,none⟩) n n):=by rw[<- hw1];exact World.cell?_setCell_same _ _ _ k5
    have hfb:∀ j,w1.frozen? ⟨bb,j,none⟩=false:=λ j=>by rw[<- hw1];exact(World.frozen?_setCell ..).trans ((HL.out.next HB2.out).fz j)
    have hws:wr.heap.size<=w1.heap.size:=by rw[hs12];exact HB2.out.size
    obtain⟨hR0,hcl,hg1,hbg⟩:=Lr.start HL.out w1 ((hbo gp (by omega)).trans (HB2.out.block gp hgpl.2)) hws;rw[HNN.out]at hR0;obtain⟨L,hLL⟩:∃ L,layP l a B=L:=⟨_,rfl⟩;rw[hLL]at HGS HSL HRG;rw[HNN.out]at HRG;have HR0:Hid (Lr w1 w1 gp n (prR L 0 0) (λ _=>none) (λ _=>0)):=aQ (by rw[prR_0];exact hR0)
    have HSU:Hid (GsF wr.heap.size w1.heap.size w1 (some ⟨gs,0,none⟩) (bF L)):=aQ (by
     rw[hs12];exact HGS.out.2.gsF.next (by omega) (λ b h1 _=>hbo b (by omega)))
    have HL2:=aQ (HL.out.next HB2.out);have hlow1:Below w.heap.size w w1:=by rw[<- hw1];exact HL2.out.low.setCell (p:=⟨bb,5,none⟩) (by show w.heap.size<=bb;omega) _
    have hms1:Ms w1 w.heap.size 0 (λ _ _=>none):=HL2.out.ms.block (hbo _ (by omega));have hbbs:bb<w1.heap.size:=by omega
    have hgsl:gs<w1.heap.size/\wr.heap.size<=gs:=by
     obtain⟨b,p,c',e,_,hl,_⟩:=HGS.out.2.cells 0 (by rw[HSL.out];exact hn0);injection e with e;injection e with e
     exact⟨by rw[e];omega,HGS.out.1⟩
    have HFIN:Hid (∀ W P C,Lr w1 W gp n (prR L n 0) P C->Q (.returned (.pointer (some ⟨bb,0,none⟩))) W):=aQ (λ W P C h=>by
     have hob:∀ j,W.cell? ⟨bb,j,none⟩=w1.cell? ⟨bb,j,none⟩:=λ j=>h.ch.cell hbbs (by show ¬ bb=gp;omega) j
     refine HQ.out W ⟨bb,gp,gs,w.heap.size,c,wr.heap.size,w1.heap.size,q,qc,l,some ⟨bB,oB,none⟩,cB,B,a⟩ P C rfl rfl rfl rfl rfl rfl rfl ?_;have hkn:Lk.n ⟨bb,gp,gs,w.heap.size,c,wr.heap.size,w1.heap.size,q,qc,l,some ⟨bB,oB,none⟩,cB,B,a⟩=n:=HNN.out;have hkL:Lk.L ⟨bb,gp,gs,w.heap.size,c,wr.heap.size,w1.heap.size,q,qc,l,some ⟨bB,oB,none⟩,cB,B,a⟩=L:=hLL;refine⟨hlow1.trans (h.ch.below (by omega) (λ b e=>by have:b=gp:=e;omega)),Nat.le_refl _,HBBW.out,hbg,hgpl.2,hgsl.2,hgsl.1,h.ch.size,λ j=>(h.ch.fz hbbs (by show ¬ bb=gp;omega) j).trans (hfb j),?_,?_,?_,?_,?_,?_,?_,?_,?_,?_,?_,?_⟩
     ·exact(hob 0).trans ((hco 0 (by decide)).trans HL2.out.c0)
     ·exact(hob 1).trans ((hco 1 (by decide)).trans (by rw[HL2.out.c1,<- HNB.out]))
     ·exact(hob 2).trans ((hco 2 (by decide)).trans HL2.out.c2)
     ·exact(hob 3).trans ((hco 3 (by decide)).trans (by rw[HL2.out.c3,hkn,HNN.out]))
     ·exact(hob 4).trans ((hco 4 (by decide)).trans HL2.out.c4)
     ·rw[hkn];exact(hob 5).trans hc5
     ·exact(hob 6).trans ((hco 6 (by decide)).trans HL2.out.c6)
     ·exact(hob 7).trans ((hco 7 (by decide)).trans HL2.out.c7)
     ·rw[hkL]
      exact HSU.out.next h.ch.size (λ b h1 h2=>h.ch.block b h2 (by show ¬ b=gp;omega))
     ·exact hms1.block (h.ch.block _ (by omega) (by show ¬ w.heap.size=gp;omega))
     ·rw[hkn,hkL];exact h.sr
     ·intro i e he j h1 h2 v hv
      exact(h.og _ (by omega)).trans (hcl i e he j h1 h2 v hv))
    have HD3:Hid (∀ W r P C,Lr w1 W gp n r P C->W.cell? ⟨bb,3,none⟩=some (.slice (some ⟨gp,0,none⟩) n c)/\W.cell? ⟨bb,5,none⟩=some (.slice (some ⟨gs,0,none⟩) n n)/\bb<W.heap.size/\GsB wr.heap.size W (some ⟨gs,0,none⟩) (bF L)):=aQ (λ W r P C h=>by
     have hob:∀ j,W.cell? ⟨bb,j,none⟩=w1.cell? ⟨bb,j,none⟩:=λ j=>h.ch.cell hbbs (by show ¬ bb=gp;omega) j
     exact⟨(hob 3).trans ((hco 3 (by decide)).trans (by rw[HL2.out.c3,HNN.out])),(hob 5).trans hc5,Nat.lt_of_lt_of_le hbbs h.ch.size,(HSU.out.next h.ch.size (λ b h1 h2=>h.ch.block b h2 (by show ¬ b=gp;omega))).gsB⟩)
    have HN9:=aQ (λ (x:Int) (W:World) k (e:k=W.heap.size)=>(e ▸ bH (k:=.i64) W 3 [x] #[.int .i64 x] rfl (by simp):NumsAt .i64 (W.alloc (.cells #[.int .i64 x] 3)) (some ⟨k,0,none⟩) [x]));have HG1:=aQ hg1;have HGSL:Hid (gs<w1.heap.size/\gs≠gp):=aQ ⟨hgsl.1,by omega⟩;have e5:=hc5;clear hR0 hcl hbg hlow1 hms1 hgsl hws hs12 hbo hco hc5 hfb hw1 hgpl d3 d4 df d5 dl k5 f5 l5 HL HL2 HB2 HGS hg1
    go_loopw [75] (λ v W=>∃ (k:Nat) (P:Nat->Option Addr) (C:Nat->Nat),k<=n/\v=.int .i64 (k:Int)/\Hid (Lr w1 W gp n (prR L k 0) P C)) (λ v _=>n - (intOf v).toNat)
    case atStart=>exact⟨0,_,_,Nat.zero_le _,rfl,HR0⟩
    case round =>
     clear HR0 e5;obtain⟨x,P,C,hx,rfl,HR⟩:=hrel;by_cases hxn:x<n
     ·obtain⟨_,_,_,hgb⟩:=HD3.out _ _ _ _ HR.out
      obtain⟨b4,p4,c4,hq4,_,lb4,e4,n4,hp4⟩:=hgb.cells x (by rw[HSL.out];exact hxn);obtain rfl:gs=b4:=by injection hq4 with h;injection h
      have hxl:x<L.length:=by have:=HSL.out;rw[bP]at this;omega
      rw[dY L x hxl]at e4 n4;obtain⟨row,hrow⟩:∃ row,aY (pt L x).en=row:=⟨_,rfl⟩;have HPN:=aQ (prR_next L x);have HPS:=aQ (prR_step L x);have HRX:=aQ (HRG.out x hxn);rw[hrow]at e4 n4 HPN HPS HRX;obtain⟨m,hm⟩:∃ m,row.length=m:=⟨_,rfl⟩;rw[hm]at e4 HPN;have HMM:=aQ hm;have hm2:m<=2:=by rw[<- hm,<- hrow];unfold aY;(repeat' split) <;> simp
      have HNW:Hid (∀ W r P C,Lr w1 W gp n r P C->NumsAt .i64 W p4 row):=aQ (λ W r P C h=>by
       obtain⟨_,_,_,hgb2⟩:=HD3.out _ _ _ _ h;obtain⟨b5,p5,c5,hq5,_,_,e5,n5,_⟩:=hgb2.cells x (by rw[HSL.out];exact hxn);obtain rfl:gs=b5:=by injection hq5 with h;injection h
       rw[dY L x hxl,hrow]at e5 n5;have e6:W.cell? ⟨gs,x,none⟩=wr.cell? ⟨gs,x,none⟩:=(h.ch.cell HGSL.out.1 HGSL.out.2 x).trans (HR.out.ch.cell HGSL.out.1 HGSL.out.2 x).symm;rw[e6,e4]at e5;injection e5 with e5
       injection e5 with e5
       rw[e5];exact n5)
      have hxI:(x:Int)<(n:Int):=by omega
      clear hgb hq4 n4 hp4 hm hrow;go_wp2_with fail
      go_loopw [82] (λ v W=>∃ (i:Nat) (P:Nat->Option Addr) (C:Nat->Nat),i<=m/\v=.int .i64 (i:Int)/\Hid (Lr w1 W gp n (prR L x i) P C)) (λ v _=>m - (intOf v).toNat)
      case atStart=>exact⟨0,P,C,Nat.zero_le _,rfl,HR⟩
      case round =>
       clear HR e4 lb4 HFIN;obtain⟨i,P,C,hi,rfl,HR⟩:=hrel;by_cases him:i<m
       ·obtain⟨d3,_,dl,_⟩:=HD3.out _ _ _ _ HR.out
        obtain⟨b6,o6,rfl,hl6,e6⟩:=(HNW.out _ _ _ _ HR.out).cells i (by rw[HMM.out];exact him)
        have hmr:row.getD i 0∈row:=by
         have:i<row.length:=by rw[HMM.out];exact him
         rw[List.getD_eq_getElem?_getD,List.getElem?_eq_getElem this];exact List.getElem_mem this
        obtain⟨x0,x1⟩:=HRX.out _ hmr;obtain⟨t,ht⟩:∃ t:Nat,row.getD i 0=(t:Int):=⟨(row.getD i 0).toNat,by omega⟩;have HPX:=aQ (HPS.out i t ht);rw[ht]at e6 x1;have htn:t<n:=by omega
        have hmem:t*10∈tens n:=mem_tens.2 ⟨t,htn,rfl⟩;have hln:=prR_len L x i (t*10);obtain⟨y,hy⟩:∃ y,prR L x i (t*10)=y:=⟨_,rfl⟩;obtain⟨zl,hz⟩:∃ z,y.length=z:=⟨_,rfl⟩;have HLN:Hid (y.length=zl/\(y ++ [(x:Int)]).length=zl+1/\y.length+[(x:Int)].length<=1099511627776):=aQ ⟨hz,by simp[hz],by rw[hy]at hln;simp;omega⟩;have HEN:Hid (t*10∈tens n/\prR L x i (t*10)=y):=aQ ⟨hmem,hy⟩;have g1:=HR.out.sr.clE (j:=t*10) hmem hy rfl rfl hz;have g2:=HR.out.sr.bl;have g3:=HR.out.sr.fz (t*10);have HSM:=aQ (HR.out.next (b1 (w:=wr) (o:=.cells #[.int .i64 (x:Int)] 3)));have HN8:=aQ (HN9.out (x:Int) wr _ rfl);have ht0:(0:Int)<=(t:Int):=by omega
        rw[hy]at HPX;clear hln hmem hy hz ht hmr;go_wp2_with (at_builtin;refine aZ rfl (.tmp 97) (.tmp 99) rfl rfl w1.heap.size _ [(x:Int)] y (.slice (P (t*10)) zl (C (t*10))) 1 1 rfl rfl rfl (HSM.out.sr.ownE (j:=t*10) HEN.out.1 HEN.out.2 rfl rfl HLN.out.1.symm) HN8.out HSM.out.ch.size HLN.out.2.2 ?_;intro v8 w8 ho8 hg8 hb8;rw[HLN.out.2.1]at ho8;obtain⟨q8,c8,rfl⟩:=aW ho8;obtain⟨e8,fz8,bl8⟩:=HSM.out.sr.mid (j:=t*10) HEN.out.1 hg8;rw[HEN.out.2,HLN.out.1]at e8;have HX:=aQ (HSM.out.app htn (by rw[HLN.out.2.1];exact ho8) HLN.out.2.1.symm hg8 hb8);clear ho8 hg8 hb8)
        go_roundw
        case rel=>exact⟨i+1,_,_,by omega,rfl,by rw[HPX.out];exact HX⟩
        case measure=>simp[intOf];omega
       ·obtain rfl:m=i:=by omega
        go_wp2_with fail
        go_roundw
        case rel=>exact⟨x+1,P,C,by omega,rfl,by rw[<- HPN.out];exact HR⟩
        case measure=>simp[intOf];omega
     ·obtain rfl:x=n:=by omega
      go_wp2_with fail
      exact HFIN.out _ _ _ HR.out
end Go.Proofs.YtkfahppdklecdaaGreatDoor.J
namespace Go.Proofs.YtkfahppdklecdaaGreatDoor
open Go.RowKit M
noncomputable def bD(k:J.Lk):Nat->List Int:=J.eH (J.Dm.frontL (bF k.L)) (J.setsA k.l k.B k.a k.B.length) 11
def bM(B:List Bk):Nat:=if (bk B 0).pr.length=0 then 0 else 1
structure Bh(k:J.Lk)(U rk:Nat->Nat)(M:Nat):Prop where
 gd:Gd k (bD k)
 bN:k.B.length<=998
 su:∀ i,i<k.B.length->(bk k.B i).su.length<=2/\∀ s∈(bk k.B i).su,0<=s/\s<(k.B.length:Int)
 sd:∀ i,i<k.l.length->dU (k.l.getD i z)=true->0<=cQ (k.l.getD i z)/\cQ (k.l.getD i z)<=10
 tot:J.tot (bF k.L)<=4096
 wd:J.Wd (bF k.L)
 we:J.WdE (J.Dm.frontL (bF k.L))
 sa:∀ j,j<11->(J.setsA k.l k.B k.a k.B.length j).length<=65536/\∀ x∈J.setsA k.l k.B k.a k.B.length j,0<=x/\x<(k.n:Int)
 id:∀ x,x≠0->x<k.n->(J.Dm.idomL (bF k.L)).getD x 0=((U x:Nat):Int)/\U x<k.n/\rk (U x)<rk x
 rM:∀ x,x<k.n->rk x<M
def BuildQ(l:List In)(U:Nat->Nat)(w:World)(e:Ending)(X:World):Prop :=
 ∃ (k:J.Lk) (F:Nat->Option Wq) (v:Int) (V0:Nat->Int),k.l=l/\k.B=aR l/\k.a=bM (aR l)/\e=.returned (.tuple #[.agg #[.slice (some ⟨k.gp,0,none⟩) k.n k.cap,.int .i64 v],.int .i64 0])/\PartsAt X (some ⟨k.gp,0,none⟩) (finL k (bD k) F)/\Rn k (bD k) U F V0 v/\(∀ x,x<k.n->F x≠none)/\Below w.heap.size w X
theorem sv_made{w1 w2 w3:World}{k:J.Lk}{P P':Nat->Option Addr}{C C':Nat->Nat}{gh:Nat}(hl:J.Ly w1 w2 k P C)(hld:LdA w1)(hI:InsAt w1 k.q k.l)(hB:BksAt w1 k.qB k.B)(hgh:w2.heap.size<=gh)(hch:J.Chg w2.heap.size (λ b=>b=k.bb) w2 w3)(hj:∀ j,j≠6->w3.cell? ⟨k.bb,j,none⟩=w2.cell? ⟨k.bb,j,none⟩)(hf:∀ j,w3.frozen? ⟨k.bb,j,none⟩=false)(h6:w3.cell? ⟨k.bb,6,none⟩=some (.slice (some ⟨gh,0,none⟩) k.n k.n)){regs:Nat->List Int}(hsr:J.Sr w2.heap.size w3 gh (List.range k.n) regs P' C') :
  Sv w3 k gh w2.heap.size regs P' C':=by
 have h1:=hl.mbw;have h2:=hl.mbb;have h3:=hl.bgp;have h4:=hl.gzs;have h5:=hl.zgs;have h6':=hl.gzp;have h7:=hl.zpW;have h8:=hch.size;have h9:=hl.low.size;have h0:=hld.1;have hlow:Below w1.heap.size w1 w3:=hl.low.trans (hch.below h9 (λ b e=>by have:b=k.bb:=e;omega));have hc:∀ b o,b<w2.heap.size->b≠k.bb->w3.cell? ⟨b,o,none⟩=w2.cell? ⟨b,o,none⟩:=λ b o hb hn=>hch.cell hb hn o
 exact⟨⟨by omega,λ i hi=>(hlow.cell (p:=⟨0,i,none⟩) hld.1).trans (hld.2 i hi)⟩,by omega,by omega,by omega,h3,h2,by omega,hf,λ j=>(hch.fz (by omega) (by show ¬ k.gp=k.bb;omega) j).trans (hl.sr.fz j),
  (hj 0 (by decide)).trans hl.c0,(hj 1 (by decide)).trans hl.c1,(hj 2 (by decide)).trans hl.c2,(hj 3 (by decide)).trans hl.c3,(hj 4 (by decide)).trans hl.c4,h6,(hj 7 (by decide)).trans hl.c7,hl.ms.block (hch.block _ (by omega) (by show ¬ k.mb=k.bb;omega)),⟨w1,hlow,hI,hB,h1⟩,hsr,by omega,hgh,
  λ i e he j hj1 hj2 v hv=>(hc _ _ (by omega) (by omega)).trans (hl.cl i e he j hj1 hj2 v hv)⟩
theorem predL_len(k:J.Lk)(i:Nat):(bK k i).length<=2*k.n:=prA_len k.L (i:Int) k.n
theorem preds_at{w1 w2 z:World}{k:J.Lk}{P:Nat->Option Addr}{C:Nat->Nat}(hl:J.Ly w1 w2 k P C)(hn:k.n<=999)(hs:w2.heap.size<=z.heap.size)(hz:∀ b,b<w2.heap.size->b≠k.bb->z.heap[b]?=w2.heap[b]?):∀ i,i<k.n->z.cell? ⟨k.gp,i*10,none⟩=some (.slice (P (i*10)) (bK k i).length (C (i*10)))/\NumsAt .i64 z (P (i*10)) (bK k i)/\∀ ad,P (i*10)=some ad->k.gp<ad.block/\ad.block<z.heap.size:=by
 intro i hi;have h3:=hl.bgp;have h4:=hl.gzs;have h5:=hl.zgs;have h6:=hl.gzp;have h7:=hl.zpW;have hmem:i*10∈J.tens k.n:=J.mem_tens.2 ⟨i,hi,rfl⟩
 have he:J.prR k.L k.n 0 (i*10)=bK k i:=by
  unfold J.prR bK;rw[if_pos (by omega),Nat.mul_div_cancel _ (by omega)];show prA k.L (i:Int) k.n ++ []=_;rw[List.append_nil]
 have hc:=hl.sr.cl _ hmem;have hlen:=predL_len k i;have hnu:=hl.sr.nums hmem (by rw[he];omega);have hbk:=λ b=>hl.sr.blk (k:=b) hmem
 rw[he]at hc hnu;refine⟨(World.cell?_of_block (a:=⟨k.gp,i*10,none⟩) (hz k.gp (by omega) (by omega))).trans hc,cT (w:=w2) ⟨hnu.small,hnu.cells⟩ hs (λ ad e=>?_),λ ad e=>?_⟩
 ·obtain⟨g1,g2⟩:=hbk ad.block (by rw[e];rfl)
  exact hz _ g2 (by omega)
 ·obtain⟨g1,g2⟩:=hbk ad.block (by rw[e];rfl)
  omega
theorem predL_rng{k:J.Lk}{i:Nat}:∀ p∈bK k i,0<=p/\p<(k.n:Int):=by
 have hK:∀ (b:Int) (a:Nat) (m:Nat),∀ p∈prK k.L b (a:Int) a m,p=(a:Int):=λ b a m=>by
  induction m with
  | zero=>intro p hp;cases hp
  | succ m ih =>
   intro p hp;have hp:p∈prK k.L b (a:Int) a m ++ (if (aY (pt k.L a).en).getD m 0=b then [(a:Int)]else []):=hp;rcases List.mem_append.1 hp with h|h
   ·exact ih p h
   ·split at h
    ·exact List.mem_singleton.1 h
    ·cases h
 have hA:∀ (b:Int) (a:Nat),∀ p∈prA k.L b a,0<=p/\p<(a:Int):=λ b a=>by
  induction a with
  | zero=>intro p hp;cases hp
  | succ a ih =>
   intro p hp;have hp:p∈prA k.L b a ++ prK k.L b (a:Int) a (aY (pt k.L a).en).length:=hp;rcases List.mem_append.1 hp with h|h
   ·have:=ih p h;omega
   ·have:=hK _ _ _ p h;omega
 exact hA _ _
theorem sbuild_yes(q:Option Addr)(qc:Nat)(l:List In)(U rk:Nat->Nat)(M:Nat)(w:World)(hI:InsAt w q l)(hqc:l.length<=qc)(hld:LdA w)(hch:(aS l).2=0)(hB:∀ k:J.Lk,k.l=l->k.B=aR l->k.a=bM (aR l)->Bh k U rk M) :
  Calls Tryz.prog 7 #[.slice q l.length qc] w (BuildQ l U w):=by
 have HQ:Hid (∀ (k:J.Lk) F v V0 X,k.l=l->k.B=aR l->k.a=bM (aR l)->PartsAt X (some ⟨k.gp,0,none⟩) (finL k (bD k) F)->Rn k (bD k) U F V0 v->(∀ x,x<k.n->F x≠none)->Below w.heap.size w X->BuildQ l U w (.returned (.tuple #[.agg #[.slice (some ⟨k.gp,0,none⟩) k.n k.cap,.int .i64 v],.int .i64 0])) X):=aQ (λ k F v V0 X h1 h2 h3 h4 h5 h6 h7=>⟨k,F,v,V0,h1,h2,h3,rfl,h4,h5,h6,h7⟩);generalize BuildQ l U w=Q at *;have hs0:(w.alloc (.cells #[.slice none 0 0,.int .i64 0] 27)).heap.size=w.heap.size+1:=by simp
 have hb0:Below w.heap.size w (w.alloc (.cells #[.slice none 0 0,.int .i64 0] 27)):=b1;have HR0:Hid ((w.alloc (.cells #[.slice none 0 0,.int .i64 0] 27)).cell? ⟨w.heap.size,0,none⟩=some (.slice none 0 0)/\(w.alloc (.cells #[.slice none 0 0,.int .i64 0] 27)).cell? ⟨w.heap.size,1,none⟩=some (.int .i64 0)/\∀ j,(w.alloc (.cells #[.slice none 0 0,.int .i64 0] 27)).frozen? ⟨w.heap.size,j,none⟩=false):=aQ ⟨aJ w rfl,aJ w rfl,λ j=>World.frozen?_alloc_new _ _ _ j⟩;have HBLK:=aQ (sblocks_any q qc l (w.alloc (.cells #[.slice none 0 0,.int .i64 0] 27)) (hI.below hb0));rw[hch]at HBLK;obtain⟨B,hBe⟩:∃ B,aR l=B:=⟨_,rfl⟩;rw[hBe]at HBLK hB HQ;obtain⟨nB,hnB⟩:∃ n,B.length=n:=⟨_,rfl⟩;obtain⟨w0,hw0⟩:∃ W,(w.alloc (.cells #[.slice none 0 0,.int .i64 0] 27))=W:=⟨_,rfl⟩;obtain⟨nl,hnl⟩:∃ n,l.length=n:=⟨_,rfl⟩;rw[hw0]at HBLK hb0 hs0 HR0;have hI0:=hI.below hb0;have hld0:LdA w0:=⟨by have:=hld.1;omega,λ i hi=>(hb0.cell (p:=⟨0,i,none⟩) hld.1).trans (hld.2 i hi)⟩;have hk0:=hB ⟨0,0,0,0,0,0,0,none,0,l,none,0,B,bM B⟩ rfl rfl rfl;have HLAY:Hid (∀ w1 p c,Below w0.heap.size w0 w1->BksAt w1 p B->Calls Tryz.prog 16 #[.slice q l.length qc,.slice p B.length c] w1 (J.LayQ w1 q qc l p c B (bM B))):=aQ (λ w1 p c hb hbk=>J.slay_any l q qc B p c (bM B) w1 (hI0.below hb) hbk hk0.gd.B0 hk0.bN rfl (λ k hk=>⟨(hk0.gd.bks k hk).2.2.2.1,(hk0.gd.bks k hk).2.2.2.2⟩) hk0.su)
 have HMEET:Hid (∀ w1 w2 (k:J.Lk) P C,k.q=q->k.qc=qc->k.l=l->k.B=B->k.a=bM B->Below w0.heap.size w0 w1->BksAt w1 k.qB B->J.Ly w1 w2 k P C->Calls Tryz.prog 17 #[.pointer (some ⟨k.bb,0,none⟩)] w2 (J.MeQ k w2)):=aQ (λ w1 w2 k P C h1 h2 h3 h4 h5 hb hbk hl=>by
  have hk:=hB k h3 h4 h5;exact J.bmeet_any k P C w1 w2 hl (by rw[h1,h3];exact hI0.below hb) (by rw[h4];exact hbk) hk.gd.l0 hk.gd.lN (by rw[h2,h3];exact hqc) hk.bN hk.gd.a1 (λ i hi=>⟨(hk.gd.bks i hi).1,(hk.gd.bks i hi).2.1,(hk.gd.bks i hi).2.2.1⟩) hk.sd hk.gd.nN hk.tot hk.wd hk.we hk.sa)
 have HREN:Hid (∀ w1 w2 w3 (k:J.Lk) P C gh P' C',k.q=q->k.qc=qc->k.l=l->k.B=B->k.a=bM B->Below w0.heap.size w0 w1->BksAt w1 k.qB B->J.Ly w1 w2 k P C->w2.heap.size<=gh->J.Chg w2.heap.size (λ b=>b=k.bb) w2 w3->(∀ j,j≠6->w3.cell? ⟨k.bb,j,none⟩=w2.cell? ⟨k.bb,j,none⟩)->(∀ j,w3.frozen? ⟨k.bb,j,none⟩=false)->w3.cell? ⟨k.bb,6,none⟩=some (.slice (some ⟨gh,0,none⟩) k.n k.n)->J.Sr w2.heap.size w3 gh (List.range k.n) (bD k) P' C'->Calls Tryz.prog 18 #[.pointer (some ⟨k.bb,0,none⟩)] w3 (J.RnQ k gh w2.heap.size (bD k) P' C' U w3)):=aQ (λ w1 w2 w3 k P C gh P' C' h1 h2 h3 h4 h5 hb hbk hl hgh hc hj hf h6 hsr=>by
  have hk:=hB k h3 h4 h5;have hld1:LdA w1:=⟨by have:=hld0.1;have:=hb.size;omega,λ i hi=>(hb.cell (p:=⟨0,i,none⟩) hld0.1).trans (hld0.2 i hi)⟩;have hsv:=sv_made hl hld1 (by rw[h1,h3];exact hI0.below hb) (by rw[h4];exact hbk) hgh hc hj hf h6 hsr;have hgs:=hl.su.move (W':=w3) (Nat.le_trans hl.zpW hc.size) (λ b hb1 hb2=>hc.block b (by have:=hl.zpW;omega) (by show ¬ b=k.bb;have:=hl.bgp;have:=hl.gzs;omega));exact J.brename_any k gh w2.heap.size (bD k) P' C' U rk (bF k.L) k.gs w3 hsv hk.gd ((hj 5 (by decide)).trans hl.c5) hgs.at (by rw[bP];unfold J.Lk.L J.Lk.n layP;rw[List.length_map]) hk.tot hk.wd hk.id M hk.rM)
 have HCHO:Hid (∀ w1 w2 w3 z w4 (k:J.Lk) P C gh P' C' F,k.l=l->k.B=B->k.a=bM B->Below w0.heap.size w0 w1->J.Ly w1 w2 k P C->J.Chg w2.heap.size (λ b=>b=k.bb) w2 w3->Below w3.heap.size w3 z->Sv z k gh w2.heap.size (bD k) P' C'->Vx z w4 k (bD k) U F->(∀ x,x<k.n->F x≠none)->Calls Tryz.prog 19 #[.pointer (some ⟨k.bb,0,none⟩)] w4 λ e X=>e=.returned (.tuple #[])/\Hid (∃ v V0,Rn k (bD k) U F V0 v/\X.cell? ⟨k.bb,3,none⟩=some (.slice (some ⟨k.gp,0,none⟩) k.n k.cap)/\X.cell? ⟨k.bb,4,none⟩=some (.int .i64 v)/\k.bb<X.heap.size/\w0.heap.size<=k.bb/\w0.heap.size<=k.gp/\Below w0.heap.size w0 X/\∀ X':World,X'.heap.size=X.heap.size->(∀ b,k.gp<=b->X'.heap[b]?=X.heap[b]?)->PartsAt X' (some ⟨k.gp,0,none⟩) (finL k (bD k) F))):=aQ (λ w1 w2 w3 z w4 k P C gh P' C' F h3 h4 h5 hb hl hc hbz hsv hv hall=>by
  have hk:=hB k h3 h4 h5;obtain⟨v,c,f,lo,hi,V0,hrv,hrn,hfm,_⟩:=hv;obtain⟨Qf,CF,hw⟩:=hrv.wps hall;have g1:=hl.mbw;have g2:=hl.mbb;have g3:=hl.bgp;have g4:=hl.gzs;have g5:=hl.zgs;have g6:=hl.gzp;have g7:=hl.zpW;have g8:=hc.size;have g9:=hbz.size;have g10:=hb.size;have g11:=hl.low.size;have g12:=hrv.size;have hp:=preds_at hl hk.gd.nN (z:=z) (by omega) (λ b h6 h7=>(hbz.block b (by omega)).trans (hc.block b h6 (by show ¬ b=k.bb;omega)));have hcs:=Cs.made hsv hk.gd hrv hrn hfm hall hw hp (λ i _=>⟨by have:=predL_len k i;have:=hk.gd.nN;omega,predL_rng⟩);refine(bchoose_any hcs).mono ?_;rintro e X ⟨rfl,B',PF,hx⟩;obtain⟨x3,_,_,xb,_⟩:=hx.at hcs;have xs:=hx.size;have hQb:=hcs.qb;have hXz:∀ b,b<z.heap.size->X.heap[b]?=w4.heap[b]?:=λ b hb=>hx.old b (by omega) (λ i hi e=>by have:=(hQb i hi b e).1;omega)
  have hlow:Below w0.heap.size w0 X:=by
   have h1:Below w0.heap.size w0 z:=((hb.trans (hl.low.mono g10)).trans (hc.below (by omega) (λ b e=>by have:b=k.bb:=e;omega))).trans (hbz.mono (by omega));exact⟨hx.os.trans (hrv.os.trans h1.os),hx.tape.trans (hrv.tape.trans h1.tape),hx.output.trans (hrv.output.trans h1.output),by omega,λ b hb=>(hXz b (by omega)).trans ((hrv.old b (by omega) (by omega) (by omega) (by omega)).trans (h1.block b hb))⟩
  refine⟨rfl,aQ ⟨v,V0,hrn,x3,?_,xb,by omega,by omega,hlow,λ X' hs' mv=>fin_parts hsv hk.gd hrv hrn hcs hw hx hs' mv⟩⟩;exact(World.cell?_of_block (a:=⟨k.bb,4,none⟩) (hXz k.bb (by omega))).trans hrv.cv)
 have HS0:=aQ (And.intro hs0 hb0);unfold J.LayQ at HLAY;unfold J.MeQ at HMEET;unfold J.RnQ at HREN;have HREG:Hid (∀ k:J.Lk,J.eH (J.Dm.frontL (bF k.L)) (J.setsA k.l k.B k.a k.B.length) 11=bD k):=aQ (λ k=>rfl);rw[hnl,hnB]at HBLK HLAY;rw[hnl];have HBLK0:Hid (Calls Tryz.prog 15 #[.slice q nl qc] (w.alloc (.cells #[.slice none 0 0,.int .i64 0] 27)) λ e w'=>∃ p c,e=.returned (.tuple #[.slice p nB c,.int .i64 0])/\BksAt w' p B/\Below w0.heap.size w0 w'):=aQ (by rw[hw0];exact HBLK.out);clear hw0;clear hI hI0 hld hld0 hch hB hk0 hBe hnB hs0 hb0;go_enter Tryz.func7,Tryz.ntmps7
 go_wp2_with (first
  | (go_at_call 15;(with_reducible refine HBLK0.out.mono ?_);rintro e w1 ⟨p,cB,rfl,hbk,hb1⟩;have HBK:=aQ (And.intro hbk hb1);clear hbk hb1)
  | (go_at_call 16;(with_reducible refine(HLAY.out _ p cB HBK.out.2 HBK.out.1).mono ?_);rintro e w2 ⟨k,P,C,rfl,e1,e2,e3,e4,e5,e6,e7,hly⟩;have HK:=aQ (And.intro e1 (And.intro e2 (And.intro e3 (And.intro e4 (And.intro e6 e7)))));have HLY:=aQ hly;clear e1 e2 e3 e4 e5 e6 e7 hly)
  | (go_at_call 17;(with_reducible refine(HMEET.out _ _ k P C HK.out.1 HK.out.2.1 HK.out.2.2.1 HK.out.2.2.2.2.1 HK.out.2.2.2.2.2 HBK.out.2 (by rw[HK.out.2.2.2.1];exact HBK.out.1) HLY.out).mono ?_);rintro e w3 ⟨gh,P',C',rfl,hgh,hcg,hj,hf,h6,hsr⟩;rw[HREG.out k]at hsr;have HM:=aQ (And.intro hgh (And.intro hcg (And.intro hj (And.intro hf (And.intro h6 hsr)))));clear hgh hcg hj hf h6 hsr)
  | (go_at_call 18;(with_reducible refine(HREN.out _ _ _ k P C gh P' C' HK.out.1 HK.out.2.1 HK.out.2.2.1 HK.out.2.2.2.2.1 HK.out.2.2.2.2.2 HBK.out.2 (by rw[HK.out.2.2.2.1];exact HBK.out.1) HLY.out HM.out.1 HM.out.2.1 HM.out.2.2.1 HM.out.2.2.2.1 HM.out.2.2.2.2.1 HM.out.2.2.2.2.2).mono ?_);rintro e w4 ⟨rfl,zz,F,hbz,hsv,hvx,hall⟩;have HV:=aQ (And.intro hbz (And.intro hsv (And.intro hvx hall)));clear hbz hsv hvx hall)
  | (go_at_call 19;(with_reducible refine(HCHO.out _ _ _ zz _ k P C gh P' C' F HK.out.2.2.1 HK.out.2.2.2.2.1 HK.out.2.2.2.2.2 HBK.out.2 HLY.out HM.out.2.1 HV.out.1 HV.out.2.1 HV.out.2.2.1 HV.out.2.2.2).mono ?_);rintro e X ⟨rfl,HX⟩;obtain⟨v,V0,hrn,x3,x4,xb,xbb,xg,xlow,xpa⟩:=HX.out;have HFN:=aQ (And.intro hrn (And.intro xlow (And.intro xpa (And.intro xg xbb))));have r0:=(xlow.cell (p:=⟨w.heap.size,0,none⟩) (by show w.heap.size<_;have:=HS0.out.1;omega)).trans HR0.out.1;have r1:=(xlow.cell (p:=⟨w.heap.size,1,none⟩) (by show w.heap.size<_;have:=HS0.out.1;omega)).trans HR0.out.2.1;have z0:=(xlow.frozen (p:=⟨w.heap.size,0,none⟩) (by show w.heap.size<_;have:=HS0.out.1;omega)).trans (HR0.out.2.2 0);have z1:=(xlow.frozen (p:=⟨w.heap.size,1,none⟩) (by show w.heap.size<_;have:=HS0.out.1;omega)).trans (HR0.out.2.2 1);have xl:w.heap.size<X.heap.size:=(by have:=HS0.out.1;have:=xlow.size;omega);clear hrn xlow xpa xg))
 refine bodyPost_ret (v:=.tuple #[.agg #[.slice (some ⟨k.gp,0,none⟩) k.n k.cap,.int .i64 v],.int .i64 0]) ?_ rfl ?_
 ·simp[results,Tryz.results7,go_sem,loadVar,r0,r1]
 ·have hne:∀ b,k.gp<=b->b≠w.heap.size:=λ b hb=>by have h1:=HFN.out.2.2.2.1;have h2:=HS0.out.1;omega
  refine HQ.out k F v V0 _ HK.out.2.2.1 HK.out.2.2.2.2.1 HK.out.2.2.2.2.2 (HFN.out.2.2.1 _ (by simp[World.setCell]) (λ b hb=>(heap_setCell_other _ ⟨w.heap.size,1,none⟩ b _ (hne b hb)).trans (heap_setCell_other _ ⟨w.heap.size,0,none⟩ b _ (hne b hb)))) HFN.out.1 HV.out.2.2.2 ?_;exact Below.setCell (Below.setCell (HS0.out.2.trans (HFN.out.2.1.mono HS0.out.2.size)) (p:=⟨w.heap.size,0,none⟩) (Nat.le_refl _) _) (p:=⟨w.heap.size,1,none⟩) (Nat.le_refl _) _
theorem sbuild_no(q:Option Addr)(qc:Nat)(l:List In)(w:World)(hI:InsAt w q l)(hch:¬ (aS l).2=0) :
  Calls Tryz.prog 7 #[.slice q l.length qc] w λ e X=>e=.returned (.tuple #[.agg #[.slice none 0 0,.int .i64 0],.int .i64 (aS l).2])/\Below w.heap.size w X:=by
 have HBLK:=aQ (sblocks_any q qc l (w.alloc (.cells #[.slice none 0 0,.int .i64 0] 27)) (hI.below b1));rw[blocks_no hch]at HBLK;obtain⟨nl,hnl⟩:∃ n,l.length=n:=⟨_,rfl⟩;obtain⟨er,her⟩:∃ n,(aS l).2=n:=⟨_,rfl⟩;rw[hnl,her]at HBLK;rw[hnl,her];rw[her]at hch
 have HR0:Hid (∀ X,Below (w.alloc (.cells #[.slice none 0 0,.int .i64 0] 27)).heap.size (w.alloc (.cells #[.slice none 0 0,.int .i64 0] 27)) X->X.cell? ⟨w.heap.size,0,none⟩=some (.slice none 0 0)/\X.cell? ⟨w.heap.size,1,none⟩=some (.int .i64 0)/\X.frozen? ⟨w.heap.size,0,none⟩=false/\X.frozen? ⟨w.heap.size,1,none⟩=false/\w.heap.size<X.heap.size/\Below w.heap.size w X):=aQ (λ X hb=>by
  have hl:w.heap.size<(w.alloc (.cells #[.slice none 0 0,.int .i64 0] 27)).heap.size:=by simp
  exact⟨(hb.cell (p:=⟨w.heap.size,0,none⟩) hl).trans (aJ w rfl),(hb.cell (p:=⟨w.heap.size,1,none⟩) hl).trans (aJ w rfl),(hb.frozen (p:=⟨w.heap.size,0,none⟩) hl).trans (World.frozen?_alloc_new _ _ _ 0),(hb.frozen (p:=⟨w.heap.size,1,none⟩) hl).trans (World.frozen?_alloc_new _ _ _ 1),Nat.lt_of_lt_of_le hl hb.size,(b1 (w:=w) (o:=.cells #[.slice none 0 0,.int .i64 0] 27)).trans (hb.mono (by simp))⟩)
 have hch':(er != 0)=true:=by simpa using hch
 clear hI hnl her hch;go_enter Tryz.func7,Tryz.ntmps7
 go_wp2_with (go_at_call 15;(with_reducible refine HBLK.out.mono ?_);rintro e w1 ⟨p,cB,rfl,_,hb1⟩;obtain⟨r0,r1,z0,z1,hl,hbw⟩:=HR0.out _ hb1;have HBW:=aQ hbw;clear hb1 hbw)
 refine bodyPost_ret (v:=.tuple #[.agg #[.slice none 0 0,.int .i64 0],.int .i64 er]) ?_ rfl ⟨rfl,?_⟩
 ·simp[results,Tryz.results7,go_sem,loadVar,r0,r1]
 ·exact Below.setCell (Below.setCell HBW.out (p:=⟨w.heap.size,0,none⟩) (Nat.le_refl _) _) (p:=⟨w.heap.size,1,none⟩) (Nat.le_refl _) _
end Go.Proofs.YtkfahppdklecdaaGreatDoor
