import Derived.Test.YtkfahppdklecdaaGreatDoorZ27
import Derived.Test.YtkfahppdklecdaaGreatDoorShelf
set_option maxRecDepth 100000
set_option maxHeartbeats 16000000
namespace Go.Proofs.YtkfahppdklecdaaGreatDoor
open Go.RowKit M
def LdA(W:World):Prop:=0<W.heap.size/\∀ i,i<6->W.cell? ⟨0,i,none⟩=some (.int .i64 ((arity (i:Int):Nat):Int))
theorem arity_le(n:Int):arity n<=3:=by unfold arity;(repeat' split) <;> omega
structure Zk(Z:World)(k:Kx):Prop where
 ld:LdA Z
 b0:k.bb≠0
 g0:k.gp≠0
theorem Wa.ld{Z W:World}{k:Kx}{s:Wq}{T:Nat->Prop}(h:Wa Z W k s T)(hz:Zk Z k):LdA W:=by
 obtain⟨L,qn,cn,qf,cf,h,_⟩:=h;obtain⟨h1,h2⟩:=hz.ld;exact⟨Nat.lt_of_lt_of_le h1 h.size,λ i hi=>(World.cell?_of_block (a:=⟨0,i,none⟩) (h.old 0 h1 (λ e=>hz.b0 e.symm) (λ e=>hz.g0 e.symm))).trans (h2 i hi)⟩
theorem call_fin{Z w W w':World}{k:Kx}{s:Wq}{T:Nat->Prop}{n:Nd}{q:Option Addr}{w2:World}(h0:Wa Z w k s T)(hb:Below w.heap.size w W)(hq:∀ ad,q=some ad->W.heap.size<=ad.block)(hb2:Below W.heap.size W w2){s':Wq}(h:Wa Z w' k s' (Tq n q (Tn T w w2))/\Kt (Tn T w w2) w2 w'):Wa Z w' k s' T/\Kt T w w':=by
 have hs:=hb.size;refine⟨h.1.mono (λ x hx=>⟨.inl hx,.inr (λ ad e e2=>?_)⟩),(h0.kt (hb.trans (hb2.mono hb.size))).trans (h.2.mono Tn.old)⟩;have:=h0.tlt x hx;have:=hq ad e;omega
theorem gJ(b a:Nat)(ha:a<=3)(W:World):(Instr.sliceAt 137 (.pointer (some ⟨b,2,none⟩)) (some (.int .i64 1)) (some (.int .i64 (1+(a:Int)))) none).run Tryz.prog W=.ok (.slice (some ⟨b,3,none⟩) a 10) W:=by
 have hal:Tryz.prog.arrayLen 137=11:=by kernel_rfl
 rw[run_sliceAt_array_lh W 137 ⟨b,2,none⟩ (by kernel_rfl) .i64 .i64 1 (1+(a:Int)) (by omega) (by omega) (by rw[hal];omega)];have hz:(sizeOf (Tryz.prog.elem 137)).run Tryz.prog W=.ok 1 W:=by kernel_rfl
 rw[hz,hal];have h1:(1+(a:Int)).toNat=1+a:=by omega
 simp[slicedAt,Addr.add,h1]
theorem sdo_call1{Z:World}{k:Kx}{s:Wq}{T:Nat->Prop}(x:In)(w:World)(h0:Wa Z w k s T)(hz:Zk Z k)(hq:Bq s 2)(h133:x.op=133)(hm:x.imm=1) :
  Calls Tryz.prog 142 #[.pointer (some ⟨k.wb,0,none⟩),.agg #[.int .i64 x.op,.int .i64 x.dst,.int .i64 x.src,.int .i64 x.off,.int .i64 x.imm,.int .u64 x.wide]] w λ e w'=>e=.returned (.int .i64 s.v)/\Wa Z w' k (putS s (eK s x)) T/\Kt T w w':=by
 have HAL:=aQ (λ W=>fD 133 W (by decide) (by decide));have ea:aluB 133=false:=by decide
 unfold AluP at HAL;rw[ea]at HAL;simp only[Bool.false_and,if_neg (show ¬ false=true by simp)]at HAL
 have hcn:eK s x = { Nd.z with op:=7,imm:=1,args:=[] }:=by
  unfold eK;rw[hm];rfl
 rw[hcn];have HNW:Hid (∀ W,Below w.heap.size w W->∀ r,r<11->W.cell? ⟨k.wb,2+r,none⟩=some (.int .i64 (s.now r))):=aQ (λ W hb=>(h0.next hb).now.2.1);have HLD:Hid (∀ W s' T',Wa Z W k s' T'->W.cell? ⟨0,1,none⟩=some (.int .i64 0)):=aQ (λ W s' T' h=>(h.ld hz).2 1 (by decide));have HT0:=aQ (λ W (hb:Below w.heap.size w W)=>h0.tn hb);have HW0:=aQ h0
 have HCL:Hid (∀ W:World,Below w.heap.size w W->Calls Tryz.prog 161 #[.slice (some ⟨k.wb,3,none⟩) 0 10] W λ e w'=>∃ q c,e=.returned (.slice q 0 c)/\NumsAt .i64 w' q []/\(∀ ad,q=some ad->W.heap.size<=ad.block/\ad.block<w'.heap.size)/\Below W.heap.size W w'):=aQ (λ W hb=>by
  have hn:=HNW.out W hb;refine(Tryz.slices_Clone_int k.wb 3 0 10 [] W (Nat.le_refl _) (by omega) (λ j hj=>?_)).mono ?_
  ·have hj':j<0:=hj
   omega
  ·rintro e w' ⟨v,rfl,ho,_,hb'⟩
   have ho':w'.ownsRow W.heap.size 3 1 v ([]:List Int).length (aX []):=ho;obtain⟨q,c,rfl⟩:=aW ho';exact⟨q,c,rfl,cA ho' (by simp),λ ad e=>ho'.lt ad.block (by rw[aH,e];rfl),hb'⟩)
 have HP:Hid (∀ (W:World) (q:Option Addr) (c:Nat) (T1:Nat->Prop),Wa Z W k s T1->NumsAt .i64 W q []->(∀ ad,q=some ad->T1 ad.block)->Calls Tryz.prog 141 #[.pointer (some ⟨k.wb,0,none⟩),.agg #[.int .i64 7,.int .i64 0,.int .i64 0,.bool false,.int .i64 0,.int .i64 0,.int .u64 1,.int .i64 0,.int .i64 0,.bool false,.slice q 0 c,.int .i64 0]] W λ e w'=>e=.returned (.int .i64 s.v)/\Wa Z w' k (putS s { Nd.z with op:=7,imm:=1,args:=[] }) (Tq { Nd.z with op:=7,imm:=1,args:=[] } q T1)/\Kt T1 W w'):=aQ (λ W q c T1 h1 h2 h3=>gI { Nd.z with op:=7,imm:=1,args:=[] } q c W h1 (.inr ⟨h2,h3⟩) hq.v0 (by have:=hq.v1;omega) (by have:=hq.n;omega));have HFN:=aQ (λ (W w' w2:World) (q:Option Addr) (hb:Below w.heap.size w W) hq' hb2 h=>call_fin (n:={ Nd.z with op:=7,imm:=1,args:=[] }) (q:=q) (w2:=w2) (w':=w') (s':=putS s { Nd.z with op:=7,imm:=1,args:=[] }) h0 hb hq' (hb2:Below W.heap.size W w2) h);have l:=h0.now.1;have hw1:IntKind.i64.wrap 1=1:=by decide
 have hw2:IntKind.u64.wrap 1=1:=by decide
 have hsl:∀ W,(Instr.sliceAt 137 (.pointer (some ⟨k.wb,2,none⟩)) (some (.int .i64 1)) (some (.int .i64 1)) none).run Tryz.prog W=.ok (.slice (some ⟨k.wb,3,none⟩) 0 10) W:=λ W=>gJ k.wb 0 (by omega) W
 rw[h133,hm];generalize putS s { Nd.z with op:=7,imm:=1,args:=[] } = S' at *;clear hcn h0 hz hq h133 hm ea;go_enter Tryz.func142,Tryz.ntmps142
 go_wp2_with (go_at_call 138;(with_reducible refine(HAL.out _).mono ?_);rintro e w1 ⟨rfl,rfl⟩)
 have HSB:Hid (∀ W,Below (w.alloc (.cells #[.int .i64 133,.int .i64 x.dst,.int .i64 x.src,.int .i64 x.off,.int .i64 1,.int .u64 x.wide] 65)).heap.size (w.alloc (.cells #[.int .i64 133,.int .i64 x.dst,.int .i64 x.src,.int .i64 x.off,.int .i64 1,.int .u64 x.wide] 65)) W->W.cell? ⟨0,1,none⟩=some (.int .i64 0)/\W.cell? ⟨w.heap.size,4,none⟩=some (.int .i64 1)):=aQ (λ W hb=>⟨HLD.out W s T (HW0.out.next (bR hb)),bE hb rfl⟩);have S1:=HSB.out _ (Below.refl _ _)
 go_region_held3 (λ W'=>W'.cell? ⟨0,1,none⟩=some (.int .i64 0)/\W'.cell? ⟨w.heap.size,4,none⟩=some (.int .i64 1))
  (first|with_reducible exact S1|with_reducible exact S3|with_reducible exact S4|exact S1|exact S3|exact S4)
  (first
   | (go_at_call 161;(with_reducible refine(HCL.out _ (aD b1)).mono ?_);rintro e w3 ⟨q3,c3,rfl,hn3,hq3,hb3⟩;have S3:=HSB.out w3 ((aD (Below.refl _ _)).trans hb3);have HN3:=aQ hn3;have HQ3:=aQ hq3;have HB3:=aQ hb3;have HT3:=aQ (HT0.out w3 ((aD b1).trans (hb3.mono (by simp))));have HX3:Hid (∀ ad,q3=some ad->Tn T w w3 ad.block):=aQ (λ ad e=>Or.inr ⟨Nat.le_trans (by simp) (hq3 ad e).1,(hq3 ad e).2⟩);clear hn3 hq3 hb3)
   | (go_at_call 141;(with_reducible refine(HP.out _ q3 c3 _ HT3.out HN3.out HX3.out).mono ?_);rintro e w4 ⟨rfl,h4⟩;have S4:w4.cell? ⟨0,1,none⟩=some (.int .i64 0)/\w4.cell? ⟨w.heap.size,4,none⟩=some (.int .i64 1):=⟨HLD.out _ _ _ h4.1,h4.2.cell (x:=w.heap.size) (Or.inr ⟨Nat.le_refl _,Nat.lt_of_lt_of_le (by simp) HB3.out.size⟩) S3.2⟩;have H4:=aQ (HFN.out _ _ _ _ (aD b1) (λ ad e=>(HQ3.out ad e).1) HB3.out h4);clear h4))
 all_goals go_wp2_with fail
 all_goals go_ret
 all_goals exact⟨rfl,H4.out⟩
theorem sdo_call2{Z:World}{k:Kx}{s:Wq}{T:Nat->Prop}(x:In)(w:World)(h0:Wa Z w k s T)(hz:Zk Z k)(hq:Bq s 2)(h133:x.op=133)(hm:x.imm=2) :
  Calls Tryz.prog 142 #[.pointer (some ⟨k.wb,0,none⟩),.agg #[.int .i64 x.op,.int .i64 x.dst,.int .i64 x.src,.int .i64 x.off,.int .i64 x.imm,.int .u64 x.wide]] w λ e w'=>e=.returned (.int .i64 s.v)/\Wa Z w' k (putS s (eK s x)) T/\Kt T w w':=by
 have HAL:=aQ (λ W=>fD 133 W (by decide) (by decide));have ea:aluB 133=false:=by decide
 unfold AluP at HAL;rw[ea]at HAL;simp only[Bool.false_and,if_neg (show ¬ false=true by simp)]at HAL
 have hcn:eK s x = { Nd.z with op:=7,imm:=2,args:=[s.now 1] }:=by
  unfold eK;rw[hm];rfl
 rw[hcn];have HNW:Hid (∀ W,Below w.heap.size w W->∀ r,r<11->W.cell? ⟨k.wb,2+r,none⟩=some (.int .i64 (s.now r))):=aQ (λ W hb=>(h0.next hb).now.2.1);have HLD:Hid (∀ W s' T',Wa Z W k s' T'->W.cell? ⟨0,2,none⟩=some (.int .i64 1)):=aQ (λ W s' T' h=>(h.ld hz).2 2 (by decide));have HT0:=aQ (λ W (hb:Below w.heap.size w W)=>h0.tn hb);have HW0:=aQ h0
 have HCL:Hid (∀ W:World,Below w.heap.size w W->Calls Tryz.prog 161 #[.slice (some ⟨k.wb,3,none⟩) 1 10] W λ e w'=>∃ q c,e=.returned (.slice q 1 c)/\NumsAt .i64 w' q [s.now 1]/\(∀ ad,q=some ad->W.heap.size<=ad.block/\ad.block<w'.heap.size)/\Below W.heap.size W w'):=aQ (λ W hb=>by
  have hn:=HNW.out W hb;refine(Tryz.slices_Clone_int k.wb 3 1 10 [s.now 1] W (Nat.le_refl _) (by omega) (λ j hj=>?_)).mono ?_
  ·have hj':j<1:=hj
   have hjj:j=0:=by omega
   rcases hjj with rfl
   ·exact hn 1 (by omega)
  ·rintro e w' ⟨v,rfl,ho,_,hb'⟩
   have ho':w'.ownsRow W.heap.size 3 1 v ([s.now 1]:List Int).length (aX [s.now 1]):=ho;obtain⟨q,c,rfl⟩:=aW ho';exact⟨q,c,rfl,cA ho' (by simp),λ ad e=>ho'.lt ad.block (by rw[aH,e];rfl),hb'⟩)
 have HP:Hid (∀ (W:World) (q:Option Addr) (c:Nat) (T1:Nat->Prop),Wa Z W k s T1->NumsAt .i64 W q [s.now 1]->(∀ ad,q=some ad->T1 ad.block)->Calls Tryz.prog 141 #[.pointer (some ⟨k.wb,0,none⟩),.agg #[.int .i64 7,.int .i64 0,.int .i64 0,.bool false,.int .i64 0,.int .i64 0,.int .u64 2,.int .i64 0,.int .i64 0,.bool false,.slice q 1 c,.int .i64 0]] W λ e w'=>e=.returned (.int .i64 s.v)/\Wa Z w' k (putS s { Nd.z with op:=7,imm:=2,args:=[s.now 1] }) (Tq { Nd.z with op:=7,imm:=2,args:=[s.now 1] } q T1)/\Kt T1 W w'):=aQ (λ W q c T1 h1 h2 h3=>gI { Nd.z with op:=7,imm:=2,args:=[s.now 1] } q c W h1 (.inr ⟨h2,h3⟩) hq.v0 (by have:=hq.v1;omega) (by have:=hq.n;omega));have HFN:=aQ (λ (W w' w2:World) (q:Option Addr) (hb:Below w.heap.size w W) hq' hb2 h=>call_fin (n:={ Nd.z with op:=7,imm:=2,args:=[s.now 1] }) (q:=q) (w2:=w2) (w':=w') (s':=putS s { Nd.z with op:=7,imm:=2,args:=[s.now 1] }) h0 hb hq' (hb2:Below W.heap.size W w2) h);have l:=h0.now.1;have hw1:IntKind.i64.wrap 2=2:=by decide
 have hw2:IntKind.u64.wrap 2=2:=by decide
 have hsl:∀ W,(Instr.sliceAt 137 (.pointer (some ⟨k.wb,2,none⟩)) (some (.int .i64 1)) (some (.int .i64 2)) none).run Tryz.prog W=.ok (.slice (some ⟨k.wb,3,none⟩) 1 10) W:=λ W=>gJ k.wb 1 (by omega) W
 rw[h133,hm];generalize putS s { Nd.z with op:=7,imm:=2,args:=[s.now 1] } = S' at *;clear hcn h0 hz hq h133 hm ea;go_enter Tryz.func142,Tryz.ntmps142
 go_wp2_with (go_at_call 138;(with_reducible refine(HAL.out _).mono ?_);rintro e w1 ⟨rfl,rfl⟩)
 have HSB:Hid (∀ W,Below (w.alloc (.cells #[.int .i64 133,.int .i64 x.dst,.int .i64 x.src,.int .i64 x.off,.int .i64 2,.int .u64 x.wide] 65)).heap.size (w.alloc (.cells #[.int .i64 133,.int .i64 x.dst,.int .i64 x.src,.int .i64 x.off,.int .i64 2,.int .u64 x.wide] 65)) W->W.cell? ⟨0,2,none⟩=some (.int .i64 1)/\W.cell? ⟨w.heap.size,4,none⟩=some (.int .i64 2)):=aQ (λ W hb=>⟨HLD.out W s T (HW0.out.next (bR hb)),bE hb rfl⟩);have S1:=HSB.out _ (Below.refl _ _)
 go_region_held3 (λ W'=>W'.cell? ⟨0,2,none⟩=some (.int .i64 1)/\W'.cell? ⟨w.heap.size,4,none⟩=some (.int .i64 2))
  (first|with_reducible exact S1|with_reducible exact S3|with_reducible exact S4|exact S1|exact S3|exact S4)
  (first
   | (go_at_call 161;(with_reducible refine(HCL.out _ (aD b1)).mono ?_);rintro e w3 ⟨q3,c3,rfl,hn3,hq3,hb3⟩;have S3:=HSB.out w3 ((aD (Below.refl _ _)).trans hb3);have HN3:=aQ hn3;have HQ3:=aQ hq3;have HB3:=aQ hb3;have HT3:=aQ (HT0.out w3 ((aD b1).trans (hb3.mono (by simp))));have HX3:Hid (∀ ad,q3=some ad->Tn T w w3 ad.block):=aQ (λ ad e=>Or.inr ⟨Nat.le_trans (by simp) (hq3 ad e).1,(hq3 ad e).2⟩);clear hn3 hq3 hb3)
   | (go_at_call 141;(with_reducible refine(HP.out _ q3 c3 _ HT3.out HN3.out HX3.out).mono ?_);rintro e w4 ⟨rfl,h4⟩;have S4:w4.cell? ⟨0,2,none⟩=some (.int .i64 1)/\w4.cell? ⟨w.heap.size,4,none⟩=some (.int .i64 2):=⟨HLD.out _ _ _ h4.1,h4.2.cell (x:=w.heap.size) (Or.inr ⟨Nat.le_refl _,Nat.lt_of_lt_of_le (by simp) HB3.out.size⟩) S3.2⟩;have H4:=aQ (HFN.out _ _ _ _ (aD b1) (λ ad e=>(HQ3.out ad e).1) HB3.out h4);clear h4))
 all_goals go_wp2_with fail
 all_goals go_ret
 all_goals exact⟨rfl,H4.out⟩
theorem sdo_call3{Z:World}{k:Kx}{s:Wq}{T:Nat->Prop}(x:In)(w:World)(h0:Wa Z w k s T)(hz:Zk Z k)(hq:Bq s 2)(h133:x.op=133)(hm:x.imm=3) :
  Calls Tryz.prog 142 #[.pointer (some ⟨k.wb,0,none⟩),.agg #[.int .i64 x.op,.int .i64 x.dst,.int .i64 x.src,.int .i64 x.off,.int .i64 x.imm,.int .u64 x.wide]] w λ e w'=>e=.returned (.int .i64 s.v)/\Wa Z w' k (putS s (eK s x)) T/\Kt T w w':=by
 have HAL:=aQ (λ W=>fD 133 W (by decide) (by decide));have ea:aluB 133=false:=by decide
 unfold AluP at HAL;rw[ea]at HAL;simp only[Bool.false_and,if_neg (show ¬ false=true by simp)]at HAL
 have hcn:eK s x = { Nd.z with op:=7,imm:=3,args:=[s.now 1,s.now 2] }:=by
  unfold eK;rw[hm];rfl
 rw[hcn];have HNW:Hid (∀ W,Below w.heap.size w W->∀ r,r<11->W.cell? ⟨k.wb,2+r,none⟩=some (.int .i64 (s.now r))):=aQ (λ W hb=>(h0.next hb).now.2.1);have HLD:Hid (∀ W s' T',Wa Z W k s' T'->W.cell? ⟨0,3,none⟩=some (.int .i64 2)):=aQ (λ W s' T' h=>(h.ld hz).2 3 (by decide));have HT0:=aQ (λ W (hb:Below w.heap.size w W)=>h0.tn hb);have HW0:=aQ h0
 have HCL:Hid (∀ W:World,Below w.heap.size w W->Calls Tryz.prog 161 #[.slice (some ⟨k.wb,3,none⟩) 2 10] W λ e w'=>∃ q c,e=.returned (.slice q 2 c)/\NumsAt .i64 w' q [s.now 1,s.now 2]/\(∀ ad,q=some ad->W.heap.size<=ad.block/\ad.block<w'.heap.size)/\Below W.heap.size W w'):=aQ (λ W hb=>by
  have hn:=HNW.out W hb;refine(Tryz.slices_Clone_int k.wb 3 2 10 [s.now 1,s.now 2] W (Nat.le_refl _) (by omega) (λ j hj=>?_)).mono ?_
  ·have hj':j<2:=hj
   have hjj:j=0∨j=1:=by omega
   rcases hjj with rfl|rfl
   ·exact hn 1 (by omega)
   ·exact hn 2 (by omega)
  ·rintro e w' ⟨v,rfl,ho,_,hb'⟩
   have ho':w'.ownsRow W.heap.size 3 1 v ([s.now 1,s.now 2]:List Int).length (aX [s.now 1,s.now 2]):=ho;obtain⟨q,c,rfl⟩:=aW ho';exact⟨q,c,rfl,cA ho' (by simp),λ ad e=>ho'.lt ad.block (by rw[aH,e];rfl),hb'⟩)
 have HP:Hid (∀ (W:World) (q:Option Addr) (c:Nat) (T1:Nat->Prop),Wa Z W k s T1->NumsAt .i64 W q [s.now 1,s.now 2]->(∀ ad,q=some ad->T1 ad.block)->Calls Tryz.prog 141 #[.pointer (some ⟨k.wb,0,none⟩),.agg #[.int .i64 7,.int .i64 0,.int .i64 0,.bool false,.int .i64 0,.int .i64 0,.int .u64 3,.int .i64 0,.int .i64 0,.bool false,.slice q 2 c,.int .i64 0]] W λ e w'=>e=.returned (.int .i64 s.v)/\Wa Z w' k (putS s { Nd.z with op:=7,imm:=3,args:=[s.now 1,s.now 2] }) (Tq { Nd.z with op:=7,imm:=3,args:=[s.now 1,s.now 2] } q T1)/\Kt T1 W w'):=aQ (λ W q c T1 h1 h2 h3=>gI { Nd.z with op:=7,imm:=3,args:=[s.now 1,s.now 2] } q c W h1 (.inr ⟨h2,h3⟩) hq.v0 (by have:=hq.v1;omega) (by have:=hq.n;omega));have HFN:=aQ (λ (W w' w2:World) (q:Option Addr) (hb:Below w.heap.size w W) hq' hb2 h=>call_fin (n:={ Nd.z with op:=7,imm:=3,args:=[s.now 1,s.now 2] }) (q:=q) (w2:=w2) (w':=w') (s':=putS s { Nd.z with op:=7,imm:=3,args:=[s.now 1,s.now 2] }) h0 hb hq' (hb2:Below W.heap.size W w2) h);have l:=h0.now.1;have hw1:IntKind.i64.wrap 3=3:=by decide
 have hw2:IntKind.u64.wrap 3=3:=by decide
 have hsl:∀ W,(Instr.sliceAt 137 (.pointer (some ⟨k.wb,2,none⟩)) (some (.int .i64 1)) (some (.int .i64 3)) none).run Tryz.prog W=.ok (.slice (some ⟨k.wb,3,none⟩) 2 10) W:=λ W=>gJ k.wb 2 (by omega) W
 rw[h133,hm];generalize putS s { Nd.z with op:=7,imm:=3,args:=[s.now 1,s.now 2] } = S' at *;clear hcn h0 hz hq h133 hm ea;go_enter Tryz.func142,Tryz.ntmps142
 go_wp2_with (go_at_call 138;(with_reducible refine(HAL.out _).mono ?_);rintro e w1 ⟨rfl,rfl⟩)
 have HSB:Hid (∀ W,Below (w.alloc (.cells #[.int .i64 133,.int .i64 x.dst,.int .i64 x.src,.int .i64 x.off,.int .i64 3,.int .u64 x.wide] 65)).heap.size (w.alloc (.cells #[.int .i64 133,.int .i64 x.dst,.int .i64 x.src,.int .i64 x.off,.int .i64 3,.int .u64 x.wide] 65)) W->W.cell? ⟨0,3,none⟩=some (.int .i64 2)/\W.cell? ⟨w.heap.size,4,none⟩=some (.int .i64 3)):=aQ (λ W hb=>⟨HLD.out W s T (HW0.out.next (bR hb)),bE hb rfl⟩);have S1:=HSB.out _ (Below.refl _ _)
 go_region_held3 (λ W'=>W'.cell? ⟨0,3,none⟩=some (.int .i64 2)/\W'.cell? ⟨w.heap.size,4,none⟩=some (.int .i64 3))
  (first|with_reducible exact S1|with_reducible exact S3|with_reducible exact S4|exact S1|exact S3|exact S4)
  (first
   | (go_at_call 161;(with_reducible refine(HCL.out _ (aD b1)).mono ?_);rintro e w3 ⟨q3,c3,rfl,hn3,hq3,hb3⟩;have S3:=HSB.out w3 ((aD (Below.refl _ _)).trans hb3);have HN3:=aQ hn3;have HQ3:=aQ hq3;have HB3:=aQ hb3;have HT3:=aQ (HT0.out w3 ((aD b1).trans (hb3.mono (by simp))));have HX3:Hid (∀ ad,q3=some ad->Tn T w w3 ad.block):=aQ (λ ad e=>Or.inr ⟨Nat.le_trans (by simp) (hq3 ad e).1,(hq3 ad e).2⟩);clear hn3 hq3 hb3)
   | (go_at_call 141;(with_reducible refine(HP.out _ q3 c3 _ HT3.out HN3.out HX3.out).mono ?_);rintro e w4 ⟨rfl,h4⟩;have S4:w4.cell? ⟨0,3,none⟩=some (.int .i64 2)/\w4.cell? ⟨w.heap.size,4,none⟩=some (.int .i64 3):=⟨HLD.out _ _ _ h4.1,h4.2.cell (x:=w.heap.size) (Or.inr ⟨Nat.le_refl _,Nat.lt_of_lt_of_le (by simp) HB3.out.size⟩) S3.2⟩;have H4:=aQ (HFN.out _ _ _ _ (aD b1) (λ ad e=>(HQ3.out ad e).1) HB3.out h4);clear h4))
 all_goals go_wp2_with fail
 all_goals go_ret
 all_goals exact⟨rfl,H4.out⟩
theorem sdo_call4{Z:World}{k:Kx}{s:Wq}{T:Nat->Prop}(x:In)(w:World)(h0:Wa Z w k s T)(hz:Zk Z k)(hq:Bq s 2)(h133:x.op=133)(hm:x.imm=4) :
  Calls Tryz.prog 142 #[.pointer (some ⟨k.wb,0,none⟩),.agg #[.int .i64 x.op,.int .i64 x.dst,.int .i64 x.src,.int .i64 x.off,.int .i64 x.imm,.int .u64 x.wide]] w λ e w'=>e=.returned (.int .i64 s.v)/\Wa Z w' k (putS s (eK s x)) T/\Kt T w w':=by
 have HAL:=aQ (λ W=>fD 133 W (by decide) (by decide));have ea:aluB 133=false:=by decide
 unfold AluP at HAL;rw[ea]at HAL;simp only[Bool.false_and,if_neg (show ¬ false=true by simp)]at HAL
 have hcn:eK s x = { Nd.z with op:=7,imm:=4,args:=[s.now 1,s.now 2] }:=by
  unfold eK;rw[hm];rfl
 rw[hcn];have HNW:Hid (∀ W,Below w.heap.size w W->∀ r,r<11->W.cell? ⟨k.wb,2+r,none⟩=some (.int .i64 (s.now r))):=aQ (λ W hb=>(h0.next hb).now.2.1);have HLD:Hid (∀ W s' T',Wa Z W k s' T'->W.cell? ⟨0,4,none⟩=some (.int .i64 2)):=aQ (λ W s' T' h=>(h.ld hz).2 4 (by decide));have HT0:=aQ (λ W (hb:Below w.heap.size w W)=>h0.tn hb);have HW0:=aQ h0
 have HCL:Hid (∀ W:World,Below w.heap.size w W->Calls Tryz.prog 161 #[.slice (some ⟨k.wb,3,none⟩) 2 10] W λ e w'=>∃ q c,e=.returned (.slice q 2 c)/\NumsAt .i64 w' q [s.now 1,s.now 2]/\(∀ ad,q=some ad->W.heap.size<=ad.block/\ad.block<w'.heap.size)/\Below W.heap.size W w'):=aQ (λ W hb=>by
  have hn:=HNW.out W hb;refine(Tryz.slices_Clone_int k.wb 3 2 10 [s.now 1,s.now 2] W (Nat.le_refl _) (by omega) (λ j hj=>?_)).mono ?_
  ·have hj':j<2:=hj
   have hjj:j=0∨j=1:=by omega
   rcases hjj with rfl|rfl
   ·exact hn 1 (by omega)
   ·exact hn 2 (by omega)
  ·rintro e w' ⟨v,rfl,ho,_,hb'⟩
   have ho':w'.ownsRow W.heap.size 3 1 v ([s.now 1,s.now 2]:List Int).length (aX [s.now 1,s.now 2]):=ho;obtain⟨q,c,rfl⟩:=aW ho';exact⟨q,c,rfl,cA ho' (by simp),λ ad e=>ho'.lt ad.block (by rw[aH,e];rfl),hb'⟩)
 have HP:Hid (∀ (W:World) (q:Option Addr) (c:Nat) (T1:Nat->Prop),Wa Z W k s T1->NumsAt .i64 W q [s.now 1,s.now 2]->(∀ ad,q=some ad->T1 ad.block)->Calls Tryz.prog 141 #[.pointer (some ⟨k.wb,0,none⟩),.agg #[.int .i64 7,.int .i64 0,.int .i64 0,.bool false,.int .i64 0,.int .i64 0,.int .u64 4,.int .i64 0,.int .i64 0,.bool false,.slice q 2 c,.int .i64 0]] W λ e w'=>e=.returned (.int .i64 s.v)/\Wa Z w' k (putS s { Nd.z with op:=7,imm:=4,args:=[s.now 1,s.now 2] }) (Tq { Nd.z with op:=7,imm:=4,args:=[s.now 1,s.now 2] } q T1)/\Kt T1 W w'):=aQ (λ W q c T1 h1 h2 h3=>gI { Nd.z with op:=7,imm:=4,args:=[s.now 1,s.now 2] } q c W h1 (.inr ⟨h2,h3⟩) hq.v0 (by have:=hq.v1;omega) (by have:=hq.n;omega));have HFN:=aQ (λ (W w' w2:World) (q:Option Addr) (hb:Below w.heap.size w W) hq' hb2 h=>call_fin (n:={ Nd.z with op:=7,imm:=4,args:=[s.now 1,s.now 2] }) (q:=q) (w2:=w2) (w':=w') (s':=putS s { Nd.z with op:=7,imm:=4,args:=[s.now 1,s.now 2] }) h0 hb hq' (hb2:Below W.heap.size W w2) h);have l:=h0.now.1;have hw1:IntKind.i64.wrap 3=3:=by decide
 have hw2:IntKind.u64.wrap 4=4:=by decide
 have hsl:∀ W,(Instr.sliceAt 137 (.pointer (some ⟨k.wb,2,none⟩)) (some (.int .i64 1)) (some (.int .i64 3)) none).run Tryz.prog W=.ok (.slice (some ⟨k.wb,3,none⟩) 2 10) W:=λ W=>gJ k.wb 2 (by omega) W
 rw[h133,hm];generalize putS s { Nd.z with op:=7,imm:=4,args:=[s.now 1,s.now 2] } = S' at *;clear hcn h0 hz hq h133 hm ea;go_enter Tryz.func142,Tryz.ntmps142
 go_wp2_with (go_at_call 138;(with_reducible refine(HAL.out _).mono ?_);rintro e w1 ⟨rfl,rfl⟩)
 have HSB:Hid (∀ W,Below (w.alloc (.cells #[.int .i64 133,.int .i64 x.dst,.int .i64 x.src,.int .i64 x.off,.int .i64 4,.int .u64 x.wide] 65)).heap.size (w.alloc (.cells #[.int .i64 133,.int .i64 x.dst,.int .i64 x.src,.int .i64 x.off,.int .i64 4,.int .u64 x.wide] 65)) W->W.cell? ⟨0,4,none⟩=some (.int .i64 2)/\W.cell? ⟨w.heap.size,4,none⟩=some (.int .i64 4)):=aQ (λ W hb=>⟨HLD.out W s T (HW0.out.next (bR hb)),bE hb rfl⟩);have S1:=HSB.out _ (Below.refl _ _)
 go_region_held3 (λ W'=>W'.cell? ⟨0,4,none⟩=some (.int .i64 2)/\W'.cell? ⟨w.heap.size,4,none⟩=some (.int .i64 4))
  (first|with_reducible exact S1|with_reducible exact S3|with_reducible exact S4|exact S1|exact S3|exact S4)
  (first
   | (go_at_call 161;(with_reducible refine(HCL.out _ (aD b1)).mono ?_);rintro e w3 ⟨q3,c3,rfl,hn3,hq3,hb3⟩;have S3:=HSB.out w3 ((aD (Below.refl _ _)).trans hb3);have HN3:=aQ hn3;have HQ3:=aQ hq3;have HB3:=aQ hb3;have HT3:=aQ (HT0.out w3 ((aD b1).trans (hb3.mono (by simp))));have HX3:Hid (∀ ad,q3=some ad->Tn T w w3 ad.block):=aQ (λ ad e=>Or.inr ⟨Nat.le_trans (by simp) (hq3 ad e).1,(hq3 ad e).2⟩);clear hn3 hq3 hb3)
   | (go_at_call 141;(with_reducible refine(HP.out _ q3 c3 _ HT3.out HN3.out HX3.out).mono ?_);rintro e w4 ⟨rfl,h4⟩;have S4:w4.cell? ⟨0,4,none⟩=some (.int .i64 2)/\w4.cell? ⟨w.heap.size,4,none⟩=some (.int .i64 4):=⟨HLD.out _ _ _ h4.1,h4.2.cell (x:=w.heap.size) (Or.inr ⟨Nat.le_refl _,Nat.lt_of_lt_of_le (by simp) HB3.out.size⟩) S3.2⟩;have H4:=aQ (HFN.out _ _ _ _ (aD b1) (λ ad e=>(HQ3.out ad e).1) HB3.out h4);clear h4))
 all_goals go_wp2_with fail
 all_goals go_ret
 all_goals exact⟨rfl,H4.out⟩
theorem sdo_call5{Z:World}{k:Kx}{s:Wq}{T:Nat->Prop}(x:In)(w:World)(h0:Wa Z w k s T)(hz:Zk Z k)(hq:Bq s 2)(h133:x.op=133)(hm:x.imm=5) :
  Calls Tryz.prog 142 #[.pointer (some ⟨k.wb,0,none⟩),.agg #[.int .i64 x.op,.int .i64 x.dst,.int .i64 x.src,.int .i64 x.off,.int .i64 x.imm,.int .u64 x.wide]] w λ e w'=>e=.returned (.int .i64 s.v)/\Wa Z w' k (putS s (eK s x)) T/\Kt T w w':=by
 have HAL:=aQ (λ W=>fD 133 W (by decide) (by decide));have ea:aluB 133=false:=by decide
 unfold AluP at HAL;rw[ea]at HAL;simp only[Bool.false_and,if_neg (show ¬ false=true by simp)]at HAL
 have hcn:eK s x = { Nd.z with op:=7,imm:=5,args:=[s.now 1,s.now 2,s.now 3] }:=by
  unfold eK;rw[hm];rfl
 rw[hcn];have HNW:Hid (∀ W,Below w.heap.size w W->∀ r,r<11->W.cell? ⟨k.wb,2+r,none⟩=some (.int .i64 (s.now r))):=aQ (λ W hb=>(h0.next hb).now.2.1);have HLD:Hid (∀ W s' T',Wa Z W k s' T'->W.cell? ⟨0,5,none⟩=some (.int .i64 3)):=aQ (λ W s' T' h=>(h.ld hz).2 5 (by decide));have HT0:=aQ (λ W (hb:Below w.heap.size w W)=>h0.tn hb);have HW0:=aQ h0
 have HCL:Hid (∀ W:World,Below w.heap.size w W->Calls Tryz.prog 161 #[.slice (some ⟨k.wb,3,none⟩) 3 10] W λ e w'=>∃ q c,e=.returned (.slice q 3 c)/\NumsAt .i64 w' q [s.now 1,s.now 2,s.now 3]/\(∀ ad,q=some ad->W.heap.size<=ad.block/\ad.block<w'.heap.size)/\Below W.heap.size W w'):=aQ (λ W hb=>by
  have hn:=HNW.out W hb;refine(Tryz.slices_Clone_int k.wb 3 3 10 [s.now 1,s.now 2,s.now 3] W (Nat.le_refl _) (by omega) (λ j hj=>?_)).mono ?_
  ·have hj':j<3:=hj
   have hjj:j=0∨j=1∨j=2:=by omega
   rcases hjj with rfl|rfl|rfl
   ·exact hn 1 (by omega)
   ·exact hn 2 (by omega)
   ·exact hn 3 (by omega)
  ·rintro e w' ⟨v,rfl,ho,_,hb'⟩
   have ho':w'.ownsRow W.heap.size 3 1 v ([s.now 1,s.now 2,s.now 3]:List Int).length (aX [s.now 1,s.now 2,s.now 3]):=ho;obtain⟨q,c,rfl⟩:=aW ho';exact⟨q,c,rfl,cA ho' (by simp),λ ad e=>ho'.lt ad.block (by rw[aH,e];rfl),hb'⟩)
 have HP:Hid (∀ (W:World) (q:Option Addr) (c:Nat) (T1:Nat->Prop),Wa Z W k s T1->NumsAt .i64 W q [s.now 1,s.now 2,s.now 3]->(∀ ad,q=some ad->T1 ad.block)->Calls Tryz.prog 141 #[.pointer (some ⟨k.wb,0,none⟩),.agg #[.int .i64 7,.int .i64 0,.int .i64 0,.bool false,.int .i64 0,.int .i64 0,.int .u64 5,.int .i64 0,.int .i64 0,.bool false,.slice q 3 c,.int .i64 0]] W λ e w'=>e=.returned (.int .i64 s.v)/\Wa Z w' k (putS s { Nd.z with op:=7,imm:=5,args:=[s.now 1,s.now 2,s.now 3] }) (Tq { Nd.z with op:=7,imm:=5,args:=[s.now 1,s.now 2,s.now 3] } q T1)/\Kt T1 W w'):=aQ (λ W q c T1 h1 h2 h3=>gI { Nd.z with op:=7,imm:=5,args:=[s.now 1,s.now 2,s.now 3] } q c W h1 (.inr ⟨h2,h3⟩) hq.v0 (by have:=hq.v1;omega) (by have:=hq.n;omega));have HFN:=aQ (λ (W w' w2:World) (q:Option Addr) (hb:Below w.heap.size w W) hq' hb2 h=>call_fin (n:={ Nd.z with op:=7,imm:=5,args:=[s.now 1,s.now 2,s.now 3] }) (q:=q) (w2:=w2) (w':=w') (s':=putS s { Nd.z with op:=7,imm:=5,args:=[s.now 1,s.now 2,s.now 3] }) h0 hb hq' (hb2:Below W.heap.size W w2) h);have l:=h0.now.1;have hw1:IntKind.i64.wrap 4=4:=by decide
 have hw2:IntKind.u64.wrap 5=5:=by decide
 have hsl:∀ W,(Instr.sliceAt 137 (.pointer (some ⟨k.wb,2,none⟩)) (some (.int .i64 1)) (some (.int .i64 4)) none).run Tryz.prog W=.ok (.slice (some ⟨k.wb,3,none⟩) 3 10) W:=λ W=>gJ k.wb 3 (by omega) W
 rw[h133,hm];generalize putS s { Nd.z with op:=7,imm:=5,args:=[s.now 1,s.now 2,s.now 3] } = S' at *;clear hcn h0 hz hq h133 hm ea;go_enter Tryz.func142,Tryz.ntmps142
 go_wp2_with (go_at_call 138;(with_reducible refine(HAL.out _).mono ?_);rintro e w1 ⟨rfl,rfl⟩)
 have HSB:Hid (∀ W,Below (w.alloc (.cells #[.int .i64 133,.int .i64 x.dst,.int .i64 x.src,.int .i64 x.off,.int .i64 5,.int .u64 x.wide] 65)).heap.size (w.alloc (.cells #[.int .i64 133,.int .i64 x.dst,.int .i64 x.src,.int .i64 x.off,.int .i64 5,.int .u64 x.wide] 65)) W->W.cell? ⟨0,5,none⟩=some (.int .i64 3)/\W.cell? ⟨w.heap.size,4,none⟩=some (.int .i64 5)):=aQ (λ W hb=>⟨HLD.out W s T (HW0.out.next (bR hb)),bE hb rfl⟩);have S1:=HSB.out _ (Below.refl _ _)
 go_region_held3 (λ W'=>W'.cell? ⟨0,5,none⟩=some (.int .i64 3)/\W'.cell? ⟨w.heap.size,4,none⟩=some (.int .i64 5))
  (first|with_reducible exact S1|with_reducible exact S3|with_reducible exact S4|exact S1|exact S3|exact S4)
  (first
   | (go_at_call 161;(with_reducible refine(HCL.out _ (aD b1)).mono ?_);rintro e w3 ⟨q3,c3,rfl,hn3,hq3,hb3⟩;have S3:=HSB.out w3 ((aD (Below.refl _ _)).trans hb3);have HN3:=aQ hn3;have HQ3:=aQ hq3;have HB3:=aQ hb3;have HT3:=aQ (HT0.out w3 ((aD b1).trans (hb3.mono (by simp))));have HX3:Hid (∀ ad,q3=some ad->Tn T w w3 ad.block):=aQ (λ ad e=>Or.inr ⟨Nat.le_trans (by simp) (hq3 ad e).1,(hq3 ad e).2⟩);clear hn3 hq3 hb3)
   | (go_at_call 141;(with_reducible refine(HP.out _ q3 c3 _ HT3.out HN3.out HX3.out).mono ?_);rintro e w4 ⟨rfl,h4⟩;have S4:w4.cell? ⟨0,5,none⟩=some (.int .i64 3)/\w4.cell? ⟨w.heap.size,4,none⟩=some (.int .i64 5):=⟨HLD.out _ _ _ h4.1,h4.2.cell (x:=w.heap.size) (Or.inr ⟨Nat.le_refl _,Nat.lt_of_lt_of_le (by simp) HB3.out.size⟩) S3.2⟩;have H4:=aQ (HFN.out _ _ _ _ (aD b1) (λ ad e=>(HQ3.out ad e).1) HB3.out h4);clear h4))
 all_goals go_wp2_with fail
 all_goals go_ret
 all_goals exact⟨rfl,H4.out⟩
structure Dk(x:In):Prop where
 bd:-9223372036854775808<=x.op/\x.op<=9223372036854775807
 ri:Ri x
 call:x.op=133->1<=x.imm/\x.imm<=5
 wide:x.op=24->(0<=x.imm/\x.imm<=7∨x.src=0)
theorem sdo_any{Z:World}{k:Kx}{s:Wq}{T:Nat->Prop}(x:In)(w:World)(h0:Wa Z w k s T)(hz:Zk Z k)(hq:Bq s 2)(hd:Dk x) :
  Calls Tryz.prog 142 #[.pointer (some ⟨k.wb,0,none⟩),.agg #[.int .i64 x.op,.int .i64 x.dst,.int .i64 x.src,.int .i64 x.off,.int .i64 x.imm,.int .u64 x.wide]] w λ e w'=>e=.returned (.int .i64 (doR s x))/\Wa Z w' k (doS s x) T/\Kt T w w':=by
 by_cases h133:x.op=133
 ·have e1:doR s x=s.v:=by unfold doR;rw[h133,if_neg (by decide),if_neg (by decide),if_pos rfl]
  have e2:doS s x=putS s (eK s x):=by unfold doS;rw[h133,if_neg (by decide),if_neg (by decide),if_pos rfl]
  rw[e1,e2];obtain⟨i1,i2⟩:=hd.call h133;have:x.imm=1∨x.imm=2∨x.imm=3∨x.imm=4∨x.imm=5:=by omega
  rcases this with h|h|h|h|h
  ·exact sdo_call1 x w h0 hz hq h133 h
  ·exact sdo_call2 x w h0 hz hq h133 h
  ·exact sdo_call3 x w h0 hz hq h133 h
  ·exact sdo_call4 x w h0 hz hq h133 h
  ·exact sdo_call5 x w h0 hz hq h133 h
 ·have HAL:=aQ (λ W=>fD x.op W hd.bd.1 hd.bd.2)
  unfold AluP at HAL;have HA:=aQ (λ W op wide (hb:Below w.heap.size w W)=>salu_any x op wide W (h0.tn hb) hq hd.ri);have HC:=aQ (λ W (hb:Below w.heap.size w W)=>sacc_any x W (h0.tn hb) hq hd.ri);have HN:=aQ (λ v W (hb:Below w.heap.size w W)=>snum_any v W (h0.tn hb) (hq.mono (by omega)));have HZ:=aQ (λ W=>size_any x.op W);have HF:=aQ (λ W w' s' (hb:Below w.heap.size w W) h=>tn_fin (w':=w') (s':=s') h0 hb h);have H0:=aQ h0;cases ha:aluB x.op with
  | true =>
   have e1:doR s x=aluR s x (x.op - x.op % 16) (decide (x.op % 8=7)):=by unfold doR;rw[if_pos ha]
   have e2:doS s x=aluS s x (x.op - x.op % 16) (decide (x.op % 8=7)):=by unfold doS;rw[if_pos ha]
   rw[e1,e2];rw[ha]at HAL;simp only[if_pos,Bool.true_and]at HAL;clear h0 hz hq hd e1 e2 ha h133;go_enter Tryz.func142,Tryz.ntmps142
   go_wp2_with (first
    | (go_at_call 138;(with_reducible refine(HAL.out _).mono ?_);rintro e w1 ⟨rfl,rfl⟩)
    | (go_at_call 159;refine(HA.out _ _ _ b1).mono ?_;rintro e w2 ⟨rfl,h2⟩;have H2:=aQ (HF.out _ _ _ b1 h2);clear h2))
   go_ret;exact⟨rfl,H2.out⟩
  | false =>
   have b133:(x.op == 133)=false:=by simpa using h133
   rw[ha]at HAL;simp only[Bool.false_and,if_neg (show ¬ false=true by simp)]at HAL;by_cases h24:x.op=24
   ·have e1:doR s x=s.v:=by unfold doR;rw[ha,if_neg (by simp),if_pos h24]
    have e2:doS s x=numS s (wholeV x):=by unfold doS;rw[ha,if_neg (by simp),if_pos h24]
    rw[e1,e2];have HWH:=aQ (λ W=>swhole_any x W (hd.wide h24));have HWB:Hid (∀ W W',Below w.heap.size w W->Below W.heap.size W W'->Below w.heap.size w W'):=aQ (λ W W' h1 h2=>h1.trans (h2.mono h1.size));generalize wholeV x=V at *;clear h0 hz hq hd e1 e2 ha h133 b133;generalize x.op=o at *;subst h24;go_enter Tryz.func142,Tryz.ntmps142
    go_wp2_with (first
     | (go_at_call 138;(with_reducible refine(HAL.out _).mono ?_);rintro e w1 ⟨rfl,rfl⟩)
     | (go_at_call 160;(with_reducible refine(HWH.out _).mono ?_);rintro e w1 ⟨rfl,hb1⟩;have HB1:=aQ (HWB.out _ _ b1 hb1);clear hb1)
     | (go_at_call 140;(with_reducible refine(HN.out _ _ HB1.out).mono ?_);rintro e w2 ⟨rfl,h2⟩;have H2:=aQ (HF.out _ _ _ HB1.out h2);clear h2))
    go_ret;exact⟨rfl,H2.out⟩
   ·have b24:(x.op == 24)=false:=by simpa using h24
    by_cases hs:0<dJ x.op
    ·have e1:doR s x=accR s x:=by unfold doR;rw[ha,if_neg (by simp),if_neg h24,if_neg h133,if_pos hs]
     have e2:doS s x=accS s x:=by unfold doS;rw[ha,if_neg (by simp),if_neg h24,if_neg h133,if_pos hs]
     rw[e1,e2];generalize accR s x=R at *;generalize dJ x.op=z at *;clear h0 hz hq hd e1 e2 ha h133 h24;go_enter Tryz.func142,Tryz.ntmps142
     go_wp2_with (first
      | (go_at_call 138;(with_reducible refine(HAL.out _).mono ?_);rintro e w1 ⟨rfl,rfl⟩)
      | (go_at_call 162;(with_reducible refine(HZ.out _).mono ?_);rintro e w1 ⟨rfl,rfl⟩)
      | (go_at_call 163;(with_reducible refine(HC.out _ b1).mono ?_);rintro e w2 ⟨rfl,h2⟩;have H2:=aQ (HF.out _ _ _ b1 h2);clear h2))
     go_ret;exact⟨rfl,H2.out⟩
    ·have e1:doR s x = -1:=by unfold doR;rw[ha,if_neg (by simp),if_neg h24,if_neg h133,if_neg hs]
     have e2:doS s x=s:=by unfold doS;rw[ha,if_neg (by simp),if_neg h24,if_neg h133,if_neg hs]
     rw[e1,e2];generalize dJ x.op=z at *;clear h0 hz hq hd e1 e2 ha h133 h24;go_enter Tryz.func142,Tryz.ntmps142
     go_wp2_with (first
      | (go_at_call 138;(with_reducible refine(HAL.out _).mono ?_);rintro e w1 ⟨rfl,rfl⟩)
      | (go_at_call 162;(with_reducible refine(HZ.out _).mono ?_);rintro e w1 ⟨rfl,rfl⟩))
     go_ret;exact⟨rfl,H0.out.next b1,H0.out.kt b1⟩
theorem do_bq{s:Wq}{d:Nat}(h:Bq s (d+2))(x:In):Bq (doS s x) d:=by
 have h1:∀ y,Bq (numS s y) (d+1):=λ y=>h.num y
 have h2:∀ n,Bq (putS s n) (d+1):=λ n=>h.put n
 unfold doS;split
 ·unfold aluS
  split
  ·unfold aluM
   split
   ·exact h.mono (by omega)
   ·exact(opd_bq h _ _).mono (by omega)
  ·refine Bq.put ?_ _
   unfold aluM;split
   ·exact h.mono (by omega)
   ·exact opd_bq h _ _
 ·split
  ·exact(h1 _).mono (by omega)
  ·split
   ·exact(h2 _).mono (by omega)
   ·split
    ·unfold accS
     split
     ·exact(h2 _).mono (by omega)
     ·split
      ·exact(h2 _).mono (by omega)
      ·exact(h1 _).put _
    ·exact h.mono (by omega)
structure Zp(Z:World)(k:Kx)(q:Option Addr)(qc:Nat)(l:List In):Prop where
 c0:Z.cell? ⟨k.bb,0,none⟩=some (.slice q l.length qc)
 ins:InsAt Z q l
 ne:∀ ad,q=some ad->ad.block≠k.bb/\ad.block≠k.gp
theorem Wa.prog{Z W:World}{k:Kx}{s:Wq}{T:Nat->Prop}{q:Option Addr}{qc:Nat}{l:List In}(h:Wa Z W k s T)(hp:Zp Z k q qc l):W.cell? ⟨k.bb,0,none⟩=some (.slice q l.length qc)/\InsAt W q l/\k.bb<W.heap.size:=by
 obtain⟨L,qn,cn,qf,cf,h,_⟩:=h;refine⟨(h.ob 0 (by decide)).trans hp.c0,⟨hp.ins.small,λ i hi=>?_,hp.ins.bd⟩,h.bw.2.2.1⟩;obtain⟨b,off,e,hl,c0,c1,c2,c3,c4,c5⟩:=hp.ins.cells i hi;obtain⟨n1,n2⟩:=hp.ne _ e;have hc:∀ o,W.cell? ⟨b,o,none⟩=Z.cell? ⟨b,o,none⟩:=λ o=>World.cell?_of_block (a:=⟨b,o,none⟩) (h.old b hl n1 n2)
 exact⟨b,off,e,Nat.lt_of_lt_of_le hl h.size,(hc _).trans c0,(hc _).trans c1,(hc _).trans c2,(hc _).trans c3,(hc _).trans c4,(hc _).trans c5⟩
theorem Wa.part{Z W:World}{k:Kx}{s:Wq}{T:Nat->Prop}(h:Wa Z W k s T){j:Nat}(h1:j≠k.o+1)(h2:j≠k.o+2)(h6:j≠k.o+6)(h7:j≠k.o+7):W.cell? ⟨k.gp,j,none⟩=Z.cell? ⟨k.gp,j,none⟩:=by
 obtain⟨L,qn,cn,qf,cf,h,_⟩:=h;exact h.og j h1 h2 h6 h7
theorem Wa.gl{Z W:World}{k:Kx}{s:Wq}{T:Nat->Prop}(h:Wa Z W k s T):k.gp<W.heap.size/\(∀ j,W.frozen? ⟨k.gp,j,none⟩=false)/\(∀ j,W.frozen? ⟨k.wb,j,none⟩=false)/\W.cell? ⟨k.gp,k.o+6,none⟩=some (.int .i64 s.ta)/\W.cell? ⟨k.gp,k.o+7,none⟩=some (.int .i64 s.tb):=by
 obtain⟨L,qn,cn,qf,cf,h,_⟩:=h;exact⟨h.bw.2.2.2,h.fg,h.fw,h.ta,h.tb⟩
theorem Wa.gw{Z W:World}{k:Kx}{s:Wq}{T:Nat->Prop}(h:Wa Z W k s T):k.gp≠k.wb:=by
 obtain⟨L,qn,cn,qf,cf,h,_⟩:=h;exact h.bw.2.1
theorem Tok.set{Z W:World}{k:Kx}{L:List NdP}{qn qf:Option Addr}{T:Nat->Prop}(h:Tok Z W k L qn qf T)(a:Addr)(v:Value):Tok Z (W.setCell a v) k L qn qf T:=h.next (by simp[World.setCell])
theorem Wa.setA{Z W:World}{k:Kx}{s:Wq}{T:Nat->Prop}(h:Wa Z W k s T)(x:Int):Wa Z (W.setCell ⟨k.gp,k.o+6,none⟩ (.int .i64 x)) k { s with ta:=x } T:=by
 obtain⟨L,qn,cn,qf,cf,h,ht⟩:=h;exact⟨L,qn,cn,qf,cf,h.a x,ht.set _ _⟩
theorem Wa.setB{Z W:World}{k:Kx}{s:Wq}{T:Nat->Prop}(h:Wa Z W k s T)(x:Int):Wa Z (W.setCell ⟨k.gp,k.o+7,none⟩ (.int .i64 x)) k { s with tb:=x } T:=by
 obtain⟨L,qn,cn,qf,cf,h,ht⟩:=h;exact⟨L,qn,cn,qf,cf,h.b x,ht.set _ _⟩
theorem Wa.setNow{Z W:World}{k:Kx}{s:Wq}{T:Nat->Prop}(h:Wa Z W k s T){r:Nat}(hr:r<11)(x:Int):Wa Z (W.setCell ⟨k.wb,2+r,none⟩ (.int .i64 x)) k { s with now:=updI s.now r x } T:=by
 obtain⟨L,qn,cn,qf,cf,h,ht⟩:=h;exact⟨L,qn,cn,qf,cf,h.now hr x,ht.set _ _⟩
theorem Wa.setAt{Z W:World}{k:Kx}{s:Wq}{T:Nat->Prop}(h:Wa Z W k s T)(x:Int):Wa Z (W.setCell ⟨k.wb,13,none⟩ (.int .i64 x)) k { s with at':=x } T:=by
 obtain⟨L,qn,cn,qf,cf,h,ht⟩:=h;exact⟨L,qn,cn,qf,cf,h.at x,ht.set _ _⟩
theorem Kt.setW{Z w W:World}{k:Kx}{s:Wq}{T:Nat->Prop}(h:Kt T w W)(ha:Wa Z W k s T){b:Nat}(hb:b=k.bb∨b=k.gp∨b=k.wb)(j:Nat)(v:Value):Kt T w (W.setCell ⟨b,j,none⟩ v):=by
 obtain⟨L,qn,cn,qf,cf,h2,ht⟩:=ha;refine⟨by simpa[World.setCell]using h.size,λ x hx=>?_⟩;obtain⟨t1,t2,t3,_⟩:=ht x hx;refine((bC W ⟨b,j,none⟩ v).block x t2 (λ e=>?_)).trans (h.blk x hx);have e2:x=b:=Option.some.inj e;rcases hb with rfl|rfl|rfl
 ·have:=h2.bbl;omega
 ·have:=h2.gpl;omega
 ·exact t3 e2
theorem sask_any{Z:World}{k:Kx}{s:Wq}{T:Nat->Prop}{q:Option Addr}{qc:Nat}{l:List In}(i:Nat)(op:Int)(wide:Bool)(w:World)(h0:Wa Z w k s T)(hp:Zp Z k q qc l)(hq:Bq s 1)(hat:s.at'=(i:Int))(hi:i<l.length)(hr:Ri (l.getD i z))
  (c3:Z.cell? ⟨k.gp,k.o+3,none⟩=some (.int .i64 op)) (c5:Z.cell? ⟨k.gp,k.o+5,none⟩=some (.bool wide)) :
  Calls Tryz.prog 143 #[.pointer (some ⟨k.wb,0,none⟩),.pointer (some ⟨k.gp,k.o+3,none⟩)] w λ e w'=>e=.returned (.tuple #[])/\Wa Z w' k (askS s op wide (l.getD i z)) T/\Kt T w w':=by
 obtain⟨p0,pins,pbl⟩:=h0.prog hp;have H0:=aQ h0;obtain⟨bp,off,rfl,hbp,i0,i1,i2,i3,i4,i5⟩:=pins.cells i hi;have hsm:=pins.small;obtain⟨lw,hnow,w0,w1,w13⟩:=h0.now;rw[hat]at w13;obtain⟨gl,fg,fw,ta,tb⟩:=h0.gl;have fgA:=fg (k.o+6);have fgB:=fg (k.o+7);have n0:=hnow 0 (by omega);have g3:=(h0.part (j:=k.o+3) (by omega) (by omega) (by omega) (by omega)).trans c3;have g5:=(h0.part (j:=k.o+5) (by omega) (by omega) (by omega) (by omega)).trans c5;have HPT:Hid (∀ W s' T',Wa Z W k s' T'->W.cell? ⟨k.gp,k.o+5,none⟩=some (.bool wide)):=aQ (λ W s' T' h=>(h.part (by omega) (by omega) (by omega) (by omega)).trans c5);have hil:(i:Int)<(l.length:Int):=by omega
 have HO:=aQ (λ W (hb:Below w.heap.size w W)=>sopd_any (l.getD i z) wide W (h0.tn hb) hq hr.src);obtain⟨j,hj⟩:∃ j:Nat,(l.getD i z).dst=(j:Int):=⟨(l.getD i z).dst.toNat,by have:=hr.dst;omega⟩;have hj11:j<11:=by have:=hr.dst;omega
 have hnj:=hnow j hj11;have HNJ:Hid (∀ W,Below w.heap.size w W->W.cell? ⟨k.wb,2+j,none⟩=some (.int .i64 (s.now j))):=aQ (λ W hb=>(h0.next hb).now.2.1 j hj11);have HNJ2:Hid (∀ W T',Wa Z W k (opdS s (l.getD i z) wide) T'->W.cell? ⟨k.wb,2+j,none⟩=some (.int .i64 (s.now j))):=aQ (λ W T' h=>by have:=h.now.2.1 j hj11;rw[opd_now]at this;exact this);have HS:Hid (askS s op wide (l.getD i z)=if op=2 then { opdS s (l.getD i z) wide with ta:=s.now j,tb:=opdR s (l.getD i z) } else if op=3 then { s with ta:=s.now 0 } else s):=aQ (by unfold askS;rw[hj,Int.toNat_natCast]);obtain⟨S',hS⟩:∃ S,askS s op wide (l.getD i z)=S:=⟨_,rfl⟩;rw[hS]at HS ⊢;rw[hj]at i1 HO;generalize opdS s (l.getD i z) wide=SO at *;generalize opdR s (l.getD i z)=RO at *;generalize (l.getD i z).op=x0 at *;generalize (l.getD i z).src=x2 at *;generalize (l.getD i z).off=x3 at *;generalize (l.getD i z).imm=x4 at *;generalize (l.getD i z).wide=x5 at *;generalize l.length=N at *;have hjI:(j:Int)<11:=by omega
 have hjI0:(0:Int)<=(j:Int):=by omega
 clear hnow fg fw pins h0 hp hat hr c3 c5 hj hS;go_enter Tryz.func143,Tryz.ntmps143
 go_wp2_with fail
 go_cut [4] (λ s4 wx=>s4=.pointer (some ⟨w.heap.size,0,none⟩)/\wx=(w.alloc (.cells #[.int .i64 x0,.int .i64 (j:Int),.int .i64 x2,.int .i64 x3,.int .i64 x4,.int .u64 x5] 65)).drew)
 case first =>
  go_region
  all_goals (go_wp2_with fail;go_meet)
  all_goals exact⟨rfl,rfl⟩
 case rest =>
  obtain⟨rfl,hwx⟩:=hcut;rw[hwx];clear hwx;by_cases h2:op=2
  ·have HES:=aQ (HS.out.trans (if_pos h2))
   subst h2;have HSB:Hid (∀ W,Below (w.alloc (.cells #[.int .i64 x0,.int .i64 (j:Int),.int .i64 x2,.int .i64 x3,.int .i64 x4,.int .u64 x5] 65)).heap.size (w.alloc (.cells #[.int .i64 x0,.int .i64 (j:Int),.int .i64 x2,.int .i64 x3,.int .i64 x4,.int .u64 x5] 65)) W->W.cell? ⟨k.wb,2+j,none⟩=some (.int .i64 (s.now j))/\W.cell? ⟨k.gp,k.o+5,none⟩=some (.bool wide)/\W.cell? ⟨w.heap.size,0,none⟩=some (.int .i64 x0)/\W.cell? ⟨w.heap.size,1,none⟩=some (.int .i64 (j:Int))/\W.cell? ⟨w.heap.size,2,none⟩=some (.int .i64 x2)/\W.cell? ⟨w.heap.size,3,none⟩=some (.int .i64 x3)/\W.cell? ⟨w.heap.size,4,none⟩=some (.int .i64 x4)/\W.cell? ⟨w.heap.size,5,none⟩=some (.int .u64 x5)):=aQ (λ W hb=>⟨HNJ.out W (bR hb),HPT.out W s T (H0.out.next (bR hb)),bE hb rfl,bE hb rfl,bE hb rfl,bE hb rfl,bE hb rfl,bE hb rfl⟩);have S1:=HSB.out (w.alloc (.cells #[.int .i64 x0,.int .i64 (j:Int),.int .i64 x2,.int .i64 x3,.int .i64 x4,.int .u64 x5] 65)).drew (aD (Below.refl _ _));have HGW:Hid (k.gp≠k.wb/\k.gp≠w.heap.size):=aQ ⟨H0.out.gw,by omega⟩
   have HFIN:Hid (∀ w2,Wa Z w2 k SO (Tn T w (w.alloc (.cells #[.int .i64 x0,.int .i64 (j:Int),.int .i64 x2,.int .i64 x3,.int .i64 x4,.int .u64 x5] 65)).drew.drew)->Kt (Tn T w (w.alloc (.cells #[.int .i64 x0,.int .i64 (j:Int),.int .i64 x2,.int .i64 x3,.int .i64 x4,.int .u64 x5] 65)).drew.drew) (w.alloc (.cells #[.int .i64 x0,.int .i64 (j:Int),.int .i64 x2,.int .i64 x3,.int .i64 x4,.int .u64 x5] 65)).drew.drew w2->(w2.cell? ⟨k.wb,2+j,none⟩=some (.int .i64 (s.now j))/\w2.cell? ⟨k.gp,k.o+5,none⟩=some (.bool wide)/\w2.cell? ⟨w.heap.size,0,none⟩=some (.int .i64 x0)/\w2.cell? ⟨w.heap.size,1,none⟩=some (.int .i64 (j:Int))/\w2.cell? ⟨w.heap.size,2,none⟩=some (.int .i64 x2)/\w2.cell? ⟨w.heap.size,3,none⟩=some (.int .i64 x3)/\w2.cell? ⟨w.heap.size,4,none⟩=some (.int .i64 x4)/\w2.cell? ⟨w.heap.size,5,none⟩=some (.int .u64 x5))/\((w2.setCell ⟨k.gp,k.o+6,none⟩ (.int .i64 (s.now j))).cell? ⟨k.wb,2+j,none⟩=some (.int .i64 (s.now j))/\(w2.setCell ⟨k.gp,k.o+6,none⟩ (.int .i64 (s.now j))).cell? ⟨k.gp,k.o+5,none⟩=some (.bool wide)/\(w2.setCell ⟨k.gp,k.o+6,none⟩ (.int .i64 (s.now j))).cell? ⟨w.heap.size,0,none⟩=some (.int .i64 x0)/\(w2.setCell ⟨k.gp,k.o+6,none⟩ (.int .i64 (s.now j))).cell? ⟨w.heap.size,1,none⟩=some (.int .i64 (j:Int))/\(w2.setCell ⟨k.gp,k.o+6,none⟩ (.int .i64 (s.now j))).cell? ⟨w.heap.size,2,none⟩=some (.int .i64 x2)/\(w2.setCell ⟨k.gp,k.o+6,none⟩ (.int .i64 (s.now j))).cell? ⟨w.heap.size,3,none⟩=some (.int .i64 x3)/\(w2.setCell ⟨k.gp,k.o+6,none⟩ (.int .i64 (s.now j))).cell? ⟨w.heap.size,4,none⟩=some (.int .i64 x4)/\(w2.setCell ⟨k.gp,k.o+6,none⟩ (.int .i64 (s.now j))).cell? ⟨w.heap.size,5,none⟩=some (.int .u64 x5))/\((w2.setCell ⟨k.gp,k.o+7,none⟩ (.int .i64 RO)).cell? ⟨k.wb,2+j,none⟩=some (.int .i64 (s.now j))/\(w2.setCell ⟨k.gp,k.o+7,none⟩ (.int .i64 RO)).cell? ⟨k.gp,k.o+5,none⟩=some (.bool wide)/\(w2.setCell ⟨k.gp,k.o+7,none⟩ (.int .i64 RO)).cell? ⟨w.heap.size,0,none⟩=some (.int .i64 x0)/\(w2.setCell ⟨k.gp,k.o+7,none⟩ (.int .i64 RO)).cell? ⟨w.heap.size,1,none⟩=some (.int .i64 (j:Int))/\(w2.setCell ⟨k.gp,k.o+7,none⟩ (.int .i64 RO)).cell? ⟨w.heap.size,2,none⟩=some (.int .i64 x2)/\(w2.setCell ⟨k.gp,k.o+7,none⟩ (.int .i64 RO)).cell? ⟨w.heap.size,3,none⟩=some (.int .i64 x3)/\(w2.setCell ⟨k.gp,k.o+7,none⟩ (.int .i64 RO)).cell? ⟨w.heap.size,4,none⟩=some (.int .i64 x4)/\(w2.setCell ⟨k.gp,k.o+7,none⟩ (.int .i64 RO)).cell? ⟨w.heap.size,5,none⟩=some (.int .u64 x5))/\(((w2.setCell ⟨k.gp,k.o+6,none⟩ (.int .i64 (s.now j))).setCell ⟨k.gp,k.o+7,none⟩ (.int .i64 RO)).cell? ⟨k.wb,2+j,none⟩=some (.int .i64 (s.now j))/\((w2.setCell ⟨k.gp,k.o+6,none⟩ (.int .i64 (s.now j))).setCell ⟨k.gp,k.o+7,none⟩ (.int .i64 RO)).cell? ⟨k.gp,k.o+5,none⟩=some (.bool wide)/\((w2.setCell ⟨k.gp,k.o+6,none⟩ (.int .i64 (s.now j))).setCell ⟨k.gp,k.o+7,none⟩ (.int .i64 RO)).cell? ⟨w.heap.size,0,none⟩=some (.int .i64 x0)/\((w2.setCell ⟨k.gp,k.o+6,none⟩ (.int .i64 (s.now j))).setCell ⟨k.gp,k.o+7,none⟩ (.int .i64 RO)).cell? ⟨w.heap.size,1,none⟩=some (.int .i64 (j:Int))/\((w2.setCell ⟨k.gp,k.o+6,none⟩ (.int .i64 (s.now j))).setCell ⟨k.gp,k.o+7,none⟩ (.int .i64 RO)).cell? ⟨w.heap.size,2,none⟩=some (.int .i64 x2)/\((w2.setCell ⟨k.gp,k.o+6,none⟩ (.int .i64 (s.now j))).setCell ⟨k.gp,k.o+7,none⟩ (.int .i64 RO)).cell? ⟨w.heap.size,3,none⟩=some (.int .i64 x3)/\((w2.setCell ⟨k.gp,k.o+6,none⟩ (.int .i64 (s.now j))).setCell ⟨k.gp,k.o+7,none⟩ (.int .i64 RO)).cell? ⟨w.heap.size,4,none⟩=some (.int .i64 x4)/\((w2.setCell ⟨k.gp,k.o+6,none⟩ (.int .i64 (s.now j))).setCell ⟨k.gp,k.o+7,none⟩ (.int .i64 RO)).cell? ⟨w.heap.size,5,none⟩=some (.int .u64 x5))/\(((w2.setCell ⟨k.gp,k.o+7,none⟩ (.int .i64 RO)).setCell ⟨k.gp,k.o+6,none⟩ (.int .i64 (s.now j))).cell? ⟨k.wb,2+j,none⟩=some (.int .i64 (s.now j))/\((w2.setCell ⟨k.gp,k.o+7,none⟩ (.int .i64 RO)).setCell ⟨k.gp,k.o+6,none⟩ (.int .i64 (s.now j))).cell? ⟨k.gp,k.o+5,none⟩=some (.bool wide)/\((w2.setCell ⟨k.gp,k.o+7,none⟩ (.int .i64 RO)).setCell ⟨k.gp,k.o+6,none⟩ (.int .i64 (s.now j))).cell? ⟨w.heap.size,0,none⟩=some (.int .i64 x0)/\((w2.setCell ⟨k.gp,k.o+7,none⟩ (.int .i64 RO)).setCell ⟨k.gp,k.o+6,none⟩ (.int .i64 (s.now j))).cell? ⟨w.heap.size,1,none⟩=some (.int .i64 (j:Int))/\((w2.setCell ⟨k.gp,k.o+7,none⟩ (.int .i64 RO)).setCell ⟨k.gp,k.o+6,none⟩ (.int .i64 (s.now j))).cell? ⟨w.heap.size,2,none⟩=some (.int .i64 x2)/\((w2.setCell ⟨k.gp,k.o+7,none⟩ (.int .i64 RO)).setCell ⟨k.gp,k.o+6,none⟩ (.int .i64 (s.now j))).cell? ⟨w.heap.size,3,none⟩=some (.int .i64 x3)/\((w2.setCell ⟨k.gp,k.o+7,none⟩ (.int .i64 RO)).setCell ⟨k.gp,k.o+6,none⟩ (.int .i64 (s.now j))).cell? ⟨w.heap.size,4,none⟩=some (.int .i64 x4)/\((w2.setCell ⟨k.gp,k.o+7,none⟩ (.int .i64 RO)).setCell ⟨k.gp,k.o+6,none⟩ (.int .i64 (s.now j))).cell? ⟨w.heap.size,5,none⟩=some (.int .u64 x5))/\Hid (Wa Z ((w2.setCell ⟨k.gp,k.o+6,none⟩ (.int .i64 (s.now j))).setCell ⟨k.gp,k.o+7,none⟩ (.int .i64 RO)) k S' T/\Kt T w ((w2.setCell ⟨k.gp,k.o+6,none⟩ (.int .i64 (s.now j))).setCell ⟨k.gp,k.o+7,none⟩ (.int .i64 RO)))/\Hid (Wa Z ((w2.setCell ⟨k.gp,k.o+7,none⟩ (.int .i64 RO)).setCell ⟨k.gp,k.o+6,none⟩ (.int .i64 (s.now j))) k S' T/\Kt T w ((w2.setCell ⟨k.gp,k.o+7,none⟩ (.int .i64 RO)).setCell ⟨k.gp,k.o+6,none⟩ (.int .i64 (s.now j))))/\w2.cell? ⟨k.gp,k.o+6,none⟩=some (.int .i64 SO.ta)/\w2.cell? ⟨k.gp,k.o+7,none⟩=some (.int .i64 SO.tb)/\w2.frozen? ⟨k.gp,k.o+6,none⟩=false/\w2.frozen? ⟨k.gp,k.o+7,none⟩=false/\k.gp<w2.heap.size):=aQ (λ w2 h1 h2=>by
    obtain⟨n1,n2⟩:=HGW.out;have n1':k.wb≠k.gp:=λ e=>n1 e.symm
    have n2':w.heap.size≠k.gp:=λ e=>n2 e.symm
    have hm:Tn T w (w.alloc (.cells #[.int .i64 x0,.int .i64 (j:Int),.int .i64 x2,.int .i64 x3,.int .i64 x4,.int .u64 x5] 65)).drew.drew w.heap.size:=Or.inr ⟨Nat.le_refl _,by simp⟩;obtain⟨g1,g2,g3,g4,g5⟩:=h1.gl;obtain⟨a0,a1,a2,a3,a4,a5,a6,a7⟩:w2.cell? ⟨k.wb,2+j,none⟩=some (.int .i64 (s.now j))/\w2.cell? ⟨k.gp,k.o+5,none⟩=some (.bool wide)/\w2.cell? ⟨w.heap.size,0,none⟩=some (.int .i64 x0)/\w2.cell? ⟨w.heap.size,1,none⟩=some (.int .i64 (j:Int))/\w2.cell? ⟨w.heap.size,2,none⟩=some (.int .i64 x2)/\w2.cell? ⟨w.heap.size,3,none⟩=some (.int .i64 x3)/\w2.cell? ⟨w.heap.size,4,none⟩=some (.int .i64 x4)/\w2.cell? ⟨w.heap.size,5,none⟩=some (.int .u64 x5):=⟨HNJ2.out w2 _ h1,HPT.out w2 _ _ h1,h2.cell hm S1.2.2.1,h2.cell hm S1.2.2.2.1,h2.cell hm S1.2.2.2.2.1,h2.cell hm S1.2.2.2.2.2.1,h2.cell hm S1.2.2.2.2.2.2.1,h2.cell hm S1.2.2.2.2.2.2.2⟩
    have cs:∀ W:World,(W.cell? ⟨k.wb,2+j,none⟩=some (.int .i64 (s.now j))/\W.cell? ⟨k.gp,k.o+5,none⟩=some (.bool wide)/\W.cell? ⟨w.heap.size,0,none⟩=some (.int .i64 x0)/\W.cell? ⟨w.heap.size,1,none⟩=some (.int .i64 (j:Int))/\W.cell? ⟨w.heap.size,2,none⟩=some (.int .i64 x2)/\W.cell? ⟨w.heap.size,3,none⟩=some (.int .i64 x3)/\W.cell? ⟨w.heap.size,4,none⟩=some (.int .i64 x4)/\W.cell? ⟨w.heap.size,5,none⟩=some (.int .u64 x5))->∀ o v,o≠k.o+5->((W.setCell ⟨k.gp,o,none⟩ v).cell? ⟨k.wb,2+j,none⟩=some (.int .i64 (s.now j))/\(W.setCell ⟨k.gp,o,none⟩ v).cell? ⟨k.gp,k.o+5,none⟩=some (.bool wide)/\(W.setCell ⟨k.gp,o,none⟩ v).cell? ⟨w.heap.size,0,none⟩=some (.int .i64 x0)/\(W.setCell ⟨k.gp,o,none⟩ v).cell? ⟨w.heap.size,1,none⟩=some (.int .i64 (j:Int))/\(W.setCell ⟨k.gp,o,none⟩ v).cell? ⟨w.heap.size,2,none⟩=some (.int .i64 x2)/\(W.setCell ⟨k.gp,o,none⟩ v).cell? ⟨w.heap.size,3,none⟩=some (.int .i64 x3)/\(W.setCell ⟨k.gp,o,none⟩ v).cell? ⟨w.heap.size,4,none⟩=some (.int .i64 x4)/\(W.setCell ⟨k.gp,o,none⟩ v).cell? ⟨w.heap.size,5,none⟩=some (.int .u64 x5)):=λ W hW o v ho=>by
     obtain⟨b0,b1,b2,b3,b4,b5,b6,b7⟩:=hW;exact⟨aL b0 (aM (.inl n1')),aL b1 (aM (.inr (λ e=>ho e.symm))),aL b2 (aM (.inl n2')),aL b3 (aM (.inl n2')),aL b4 (aM (.inl n2')),aL b5 (aM (.inl n2')),aL b6 (aM (.inl n2')),aL b7 (aM (.inl n2'))⟩
    have s0:w2.cell? ⟨k.wb,2+j,none⟩=some (.int .i64 (s.now j))/\w2.cell? ⟨k.gp,k.o+5,none⟩=some (.bool wide)/\w2.cell? ⟨w.heap.size,0,none⟩=some (.int .i64 x0)/\w2.cell? ⟨w.heap.size,1,none⟩=some (.int .i64 (j:Int))/\w2.cell? ⟨w.heap.size,2,none⟩=some (.int .i64 x2)/\w2.cell? ⟨w.heap.size,3,none⟩=some (.int .i64 x3)/\w2.cell? ⟨w.heap.size,4,none⟩=some (.int .i64 x4)/\w2.cell? ⟨w.heap.size,5,none⟩=some (.int .u64 x5):=⟨a0,a1,a2,a3,a4,a5,a6,a7⟩;have sA:=cs w2 s0 (k.o+6) (.int .i64 (s.now j)) (by omega);have sB:=cs w2 s0 (k.o+7) (.int .i64 RO) (by omega);have k0:Kt T w w2:=(H0.out.kt (aD (aD b1))).trans (h2.mono Tn.old);have hA:=(h1.setA (s.now j)).setB RO;have hB:=(h1.setB RO).setA (s.now j);have kA:=(h2.mono Tn.old).setW (h1.mono Tn.old) (.inr (.inl rfl)) (k.o+6) (.int .i64 (s.now j));have kB:=(h2.mono Tn.old).setW (h1.mono Tn.old) (.inr (.inl rfl)) (k.o+7) (.int .i64 RO);refine⟨s0,sA,sB,cs _ sA (k.o+7) _ (by omega),cs _ sB (k.o+6) _ (by omega),aQ ⟨?_,?_⟩,aQ ⟨?_,?_⟩,g4,g5,g2 _,g2 _,g1⟩
    ·rw[HES.out];exact hA.mono Tn.old
    ·exact(H0.out.kt (aD (aD b1))).trans (kA.setW ((h1.setA (s.now j)).mono Tn.old) (.inr (.inl rfl)) (k.o+7) (.int .i64 RO))
    ·rw[HES.out];exact hB.mono Tn.old
    ·exact(H0.out.kt (aD (aD b1))).trans (kB.setW ((h1.setB RO).mono Tn.old) (.inr (.inl rfl)) (k.o+6) (.int .i64 (s.now j))))
   go_wp2_with fail
   go_region_held3 (λ W'=>W'.cell? ⟨k.wb,2+j,none⟩=some (.int .i64 (s.now j))/\W'.cell? ⟨k.gp,k.o+5,none⟩=some (.bool wide)/\W'.cell? ⟨w.heap.size,0,none⟩=some (.int .i64 x0)/\W'.cell? ⟨w.heap.size,1,none⟩=some (.int .i64 (j:Int))/\W'.cell? ⟨w.heap.size,2,none⟩=some (.int .i64 x2)/\W'.cell? ⟨w.heap.size,3,none⟩=some (.int .i64 x3)/\W'.cell? ⟨w.heap.size,4,none⟩=some (.int .i64 x4)/\W'.cell? ⟨w.heap.size,5,none⟩=some (.int .u64 x5))
    (first|with_reducible exact S1|with_reducible exact S2|with_reducible exact SA|with_reducible exact SB|with_reducible exact SAB|with_reducible exact SBA|exact S1|exact S2|exact SA|exact SB|exact SAB|exact SBA)
    (first|(go_at_call 164;(with_reducible refine(HO.out _ (aD (aD b1))).mono ?_);rintro e w2 ⟨rfl,h2⟩;obtain⟨S2,SA,SB,SAB,SBA,HFA,HFB,e6,e7,z6,z7,lg⟩:=HFIN.out _ h2.1 h2.2;clear h2))
   all_goals go_wp2_with fail
   all_goals go_end0
   all_goals first
    | exact⟨rfl,HFA.out⟩
    | exact⟨rfl,HFB.out⟩
  ·by_cases h3:op=3
   ·have HES:=aQ (HS.out.trans ((if_neg h2).trans (if_pos h3)))
    subst h3;clear HS h2;go_wp2_with fail
    go_end0
    exact⟨rfl,by rw[HES.out];exact(H0.out.setA (s.now 0)).next (aD b1),((Kt.refl T w).setW H0.out (.inr (.inl rfl)) (k.o+6) (.int .i64 (s.now 0))).trans ((H0.out.setA (s.now 0)).kt (aD b1))⟩
   ·have HES:=aQ (HS.out.trans ((if_neg h2).trans (if_neg h3)))
    have d2:(op == 2)=false:=by simpa using h2
    have d3:(op == 3)=false:=by simpa using h3
    clear HS h2 h3;go_wp2_with fail
    go_end0
    exact⟨rfl,by rw[HES.out];exact H0.out.next (aD b1),H0.out.kt (aD b1)⟩
def ctxN(op:Int):Nd:={ Nd.z with op:=op }
def dO(s:Wq):Wq:={ numS s 0 with now:=λ _=>s.v }
def dF(s:Wq):Wq:={ putS (dO s) (ctxN 2)with now:=updI (dO s).now 1 (dO s).v }
def gC(s:Wq):Wq:={ putS (dF s) (ctxN 3)with now:=updI (dF s).now 10 (dF s).v }
theorem Wa.congr{Z W:World}{k:Kx}{s:Wq}{T:Nat->Prop}(h:Wa Z W k s T)(f:Nat->Int)(hf:∀ r,r<11->f r=s.now r):Wa Z W k { s with now:=f } T:=by
 obtain⟨L,qn,cn,qf,cf,h,ht⟩:=h;exact⟨L,qn,cn,qf,cf,⟨h.os,h.tape,h.output,h.size,h.old,h.ob,h.og,h.bbl,h.gpl,h.bg,h.wz,h.wl,h.fb,h.fg,h.fw,h.cv,h.w0,h.w1,λ r hr=>by rw[h.wn r hr];exact congrArg (λ v=>some (Value.int .i64 v)) (hf r hr).symm,h.w13,h.ef,h.en,h.ta,h.tb,h.nodes,h.on,h.of,h.nn,h.nf,h.nnf,h.ar⟩,ht⟩
theorem sstart_any{Z:World}{k:Kx}{s:Wq}{T:Nat->Prop}(w:World)(h0:Wa Z w k s T)(hq:Bq s 3) :
  Calls Tryz.prog 104 #[.pointer (some ⟨k.wb,0,none⟩)] w λ e w'=>e=.returned (.tuple #[])/\Wa Z w' k (gC s) T/\Kt T w w':=by
 have HN:=aQ (snum_any 0 w h0 (hq.mono (by omega)));have HQA:Hid (Bq (dO s) 2):=aQ ⟨(hq.num 0).v0,(hq.num 0).v1,(hq.num 0).n⟩;have HQB:Hid (Bq (dF s) 1):=aQ ⟨(HQA.out.put (ctxN 2)).v0,(HQA.out.put (ctxN 2)).v1,(HQA.out.put (ctxN 2)).n⟩
 have HP:Hid (∀ (s1:Wq) (op:Int) (W:World),op≠6->Wa Z W k s1 T->Bq s1 1->Calls Tryz.prog 141 #[.pointer (some ⟨k.wb,0,none⟩),.agg #[.int .i64 op,.int .i64 0,.int .i64 0,.bool false,.int .i64 0,.int .i64 0,.int .u64 0,.int .i64 0,.int .i64 0,.bool false,.slice none 0 0,.int .i64 0]] W λ e w'=>e=.returned (.int .i64 s1.v)/\Wa Z w' k (putS s1 (ctxN op)) T/\Kt T W w'):=aQ (λ s1 op W h6 h1 h2=>by
  have:=sput_p (ctxN op) W h1 rfl h2
  rwa [show putR s1 (ctxN op)=s1.v from if_neg h6]at this)
 have H0:=aQ h0;obtain⟨v,hv⟩:∃ v,s.v=v:=⟨_,rfl⟩;have HV:=aQ hv;rw[hv]at HN;clear h0 hq hv;go_enter Tryz.func104,Tryz.ntmps104
 go_wp2_with (go_at_call 140;(with_reducible refine HN.out.mono ?_);rintro e w1 ⟨rfl,h1⟩;have H1:=aQ h1;clear h1)
 go_loopw [6] (λ u W=>∃ r:Nat,r<=11/\u=.int .i64 (r:Int)/\Hid (Wa Z W k { numS s 0 with now:=λ i=>if i<r then v else s.now i } T/\Kt T w W)) (λ u _=>11 - (RowKit.intOf u).toNat)
 case atStart=>exact⟨0,by omega,rfl,aQ ⟨H1.out.1.congr _ (λ r hr=>by simp;rfl),H1.out.2⟩⟩
 case round =>
  clear H1 HN;obtain⟨r,hr,rfl,HR⟩:=hrel;have hrI:(0:Int)<=(r:Int):=by omega
  by_cases hlt:r<11
  ·have hrI2:(r:Int)<11:=by omega
   obtain⟨l,hn,_⟩:=HR.out.1.now;have hn':=hn r hlt;have fz:=HR.out.1.gl.2.2.1 (2+r)
   have HX:Hid (Wa Z (wr.setCell ⟨k.wb,2+r,none⟩ (.int .i64 v)) k { numS s 0 with now:=λ i=>if i<r+1 then v else s.now i } T/\Kt T w (wr.setCell ⟨k.wb,2+r,none⟩ (.int .i64 v))):=aQ ⟨(HR.out.1.setNow hlt v).congr _ (λ i hi=>by
    show(if i<r+1 then v else s.now i)=updI (λ i=>if i<r then v else s.now i) r v i;unfold updI;by_cases c:i=r
    ·subst c;simp
    ·rw[if_neg c]
     show(if i<r+1 then v else s.now i)=if i<r then v else s.now i
     by_cases c2:i<r
     ·rw[if_pos c2,if_pos (by omega)]
     ·rw[if_neg c2,if_neg (by omega)]),HR.out.2.setW HR.out.1 (.inr (.inr rfl)) _ _⟩
   clear hn;go_wp2_with fail
   go_roundw
   case rel=>exact⟨r+1,by omega,rfl,HX⟩
   case measure=>simp[RowKit.intOf];omega
  ·obtain rfl:r=11:=by omega
   have HA:Hid (Wa Z wr k (dO s) T):=aQ (HR.out.1.congr _ (λ i hi=>by show s.v=if i<11 then v else s.now i;rw[if_pos hi];exact HV.out));have HK:=aQ HR.out.2;have l:=HR.out.1.now.1;clear HR;have HPA:=aQ (λ W (h:Wa Z W k (dO s) T)=>HP.out (dO s) 2 W (by decide) h (HQA.out.mono (by omega)))
   have HSB:Hid (∀ W s' x y,s' = { putS (dO s) (ctxN 2)with now:=updI (dO s).now 1 (dO s).v }->Wa Z W k (putS (dO s) (ctxN 2)) T->Kt T x W->y=(dO s).v->Hid (Wa Z (W.setCell ⟨k.wb,3,none⟩ (.int .i64 y)) k s' T/\Kt T x (W.setCell ⟨k.wb,3,none⟩ (.int .i64 y)))):=aQ (λ W s' x y e1 h1 h2 e2=>by
    subst e1 e2;exact aQ ⟨h1.setNow (r:=1) (by omega) _,h2.setW h1 (.inr (.inr rfl)) _ _⟩)
   have HSC:Hid (∀ W s' x y,s' = { putS (dF s) (ctxN 3)with now:=updI (dF s).now 10 (dF s).v }->Wa Z W k (putS (dF s) (ctxN 3)) T->Kt T x W->y=(dF s).v->Hid (Wa Z (W.setCell ⟨k.wb,12,none⟩ (.int .i64 y)) k s' T/\Kt T x (W.setCell ⟨k.wb,12,none⟩ (.int .i64 y)))):=aQ (λ W s' x y e1 h1 h2 e2=>by
    subst e1 e2;exact aQ ⟨h1.setNow (r:=10) (by omega) _,h2.setW h1 (.inr (.inr rfl)) _ _⟩)
   have HPB:=aQ (λ W (h:Wa Z W k (dF s) T)=>HP.out (dF s) 3 W (by decide) h HQB.out);have HSTB:Hid (dF s = { putS (dO s) (ctxN 2)with now:=updI (dO s).now 1 (dO s).v }):=aQ rfl;have HSTC:Hid (gC s = { putS (dF s) (ctxN 3)with now:=updI (dF s).now 10 (dF s).v }):=aQ rfl;have HW1:Hid (∀ W s',Wa Z W k s' T->W.cell? ⟨k.wb,3,none⟩=some (.int .i64 (s'.now 1))/\W.cell? ⟨k.wb,12,none⟩=some (.int .i64 (s'.now 10))/\W.frozen? ⟨k.wb,3,none⟩=false/\W.frozen? ⟨k.wb,12,none⟩=false/\k.wb<W.heap.size):=aQ (λ W s' h=>⟨h.now.2.1 1 (by omega),h.now.2.1 10 (by omega),h.gl.2.2.1 _,h.gl.2.2.1 _,h.now.1⟩);obtain⟨wr0,hwr⟩:∃ W,wr=W:=⟨_,rfl⟩;rw[hwr]at HA HK l ⊢;clear hwr;go_wp2_with fail
   go_cut [] (λ wx=>∃ W,wx=W/\Hid (Wa Z W k (dF s) T/\Kt T w W))
   case first =>
    go_region_held3 (λ _=>True) (trivial) (first|(go_at_call 141;(with_reducible refine(HPA.out _ (HA.out.next (aD (Below.refl _ _)))).mono ?_);rintro e w2 ⟨rfl,h2⟩;obtain⟨y1,y2,y3,y4,y5⟩:=HW1.out _ _ h2.1;have HX:=HSB.out w2 (dF s) w _ HSTB.out h2.1 (HK.out.trans ((HA.out.kt (aD (Below.refl _ _))).trans h2.2)) rfl;clear h2))
    all_goals (go_wp2_with fail;go_meet)
    all_goals exact⟨_,rfl,HX⟩
   case rest =>
    obtain⟨w3,hw3,HX⟩:=hcut;rw[hw3];clear hw3;obtain⟨y1,y2,y3,y4,y5⟩:=HW1.out _ _ HX.out.1;go_wp2_with fail
    go_region_held3 (λ _=>True) (trivial) (first|(go_at_call 141;(with_reducible refine(HPB.out _ (HX.out.1.next (aD (Below.refl _ _)))).mono ?_);rintro e w2 ⟨rfl,h2⟩;obtain⟨q1,q2,q3,q4,q5⟩:=HW1.out _ _ h2.1;have HY:=HSC.out w2 (gC s) w _ HSTC.out h2.1 (HX.out.2.trans ((HX.out.1.kt (aD (Below.refl _ _))).trans h2.2)) rfl;clear h2))
    all_goals go_wp2_with fail
    all_goals go_end0
    all_goals exact⟨rfl,HY.out⟩
end Go.Proofs.YtkfahppdklecdaaGreatDoor
