import Derived.RangeFuncNested
import Derived.RangeFuncBound
import Derived.RangeFuncCalls
import Derived.RangeFuncLeaves
import Derived.Test.YtkfahppdklecdaaGreatDoorProg
import Derived.Test.YtkfahppdklecdaaGreatDoorZ15
import Derived.Shelf.Abstract
import Derived.Shelf.RegionOpen
import Derived.OwnWalkIn
import Derived.TacticsInMore
import Derived.LoopNIn
import Derived.LoopIn
set_option maxRecDepth 100000
set_option maxHeartbeats 16000000
namespace Go.Proofs.YtkfahppdklecdaaGreatDoor.J
open Go.RowKit
theorem range_ord{P:Program}{n:Nat}{g:Operand}{ps:Array Tmp}{assign body:Code}{Q:Exit->Act->World->Prop}{a:Act}{w:World}{gf:Nat}{lb:Array Value}(hg:a.eval g=.func (.func gf) #[] lb)(eg:∀ args w,(callFunc gf args).run P w=.ok (.enter gf args) w)
  (N:Nat) (es:Nat->Array Value) (hps:∀ k,(es k).size=ps.size) (I:Nat->World->Prop) (hI:OwnFrom w.heap.size I) (h0:I 0 w) (a₁:Nat->Act)
  (hassign:∀ (l k:Nat) (W:World) (K:Act->World->Prop),K (a₁ k) W->assign.wpIn (Fence.wide.inRound l) (n - 1 - 1) P (Exit.then K (λ _ _ _=>False)) { tmps:=(ps.zip (es k)).foldl (λ t (p,v)=>t.setIfInBounds p v) a.tmps,defers:=[] } W)
  (hbody:∀ (l k:Nat) (W:World),k<N->I k W->body.wpIn (Fence.wide.inRound l) (n - 1 - 1) P (λ e _ W'=>e=.normal/\KeepsOthers W W'/\I (k+1) W') (a₁ k) W)
  (hiter:∀ (l:Nat) (J:Nat->World->Prop) (W:World),(∀ k W,J k W->I k W)->(∀ k W1,k<N->J k W1->YieldAt Fence.wide (n - 1 - 1) P l (es k) W1 λ e W'=>e=.returned (.bool true)/\J (k+1) W')->J 0 W ->
   CallsIn Fence.wide (n - 1) P gf (#[.func (.yield l) #[] #[]] ++ lb) W λ e W'=>(∃ v,e=.returned v)/\J N W')
  (hdone:∀ (D:Nat) (W:World),w.heap.size<=D->I N W->W.heap[D]?=some (.deferred (some []))->Q .normal { a with defers:={ target:=.collected D,args:=#[] } :: a.defers } W) :
  (Code.rangeFunc g ps assign body).wpIn Fence.wide n P Q a w:=by
 refine wpIn_rangeFunc λ fn hfn=>?_
 let rec0:LoopState->Loop:=λ st=>{ state:=st,pending:=none,fn,tmps:=a.tmps,params:=ps,assign,body,defers:=w.heap.size }
 have sz:(w.alloc (.deferred (some []))).heap.size=w.heap.size+1:=World.size_alloc ..;obtain⟨W1,hW1⟩:∃ W1,(w.alloc (.deferred (some []))).alloc (.loop (rec0 .ready))=W1:=⟨_,rfl⟩
 have hL:W1.heap[w.heap.size+1]?=some (.loop (rec0 .ready)):=by
  rw[<- hW1,<- sz];exact World.alloc_heap_new _ _
 have hD:W1.heap[w.heap.size]?=some (.deferred (some [])):=by
  rw[<- hW1];exact(Below.heap_alloc _ _ _ (by rw[sz];omega)).trans (World.alloc_heap_new w _)
 have hI1:I 0 W1:=by rw[<- hW1];exact hI.alloc _ (hI.alloc _ h0)
 refine⟨w.heap.size+1,[{ target:=.collected w.heap.size,args:=#[] }],W1,{ target:=.fn (.func gf) lb,args:=#[.func (.yield (w.heap.size+1)) #[] #[]] },W1,gf,#[.func (.yield (w.heap.size+1)) #[] #[]] ++ lb,W1,?_,?_,?_,?_,λ h=>(by cases h),?_⟩
 ·rw[<- hW1];exact run_enterLoop_outer _ _ _ _ _
 ·simp only[resolve,hg]
  simp[go_sem]
 ·intro f' _;trivial
 ·simp[invoke,go_sem,eg]
 refine(hiter (w.heap.size+1) (λ k W=>I k W/\W.heap[w.heap.size+1]?=some (.loop (rec0 .ready))/\W.heap[w.heap.size]?=some (.deferred (some []))) W1 (λ _ _ h=>h.1) ?_ ⟨hI1,hL,hD⟩).mono ?_
 ·rintro k W hk ⟨hi,hl,hd⟩
  have hlt:w.heap.size+1<W.heap.size:=(Array.getElem?_eq_some_iff.1 hl).1;refine⟨fn,_,assign,body,run_yield hl (hps k),roundIn_of_wpIn hfn (hassign _ k W _ ⟨_,run_beginRound hl rfl,?_⟩)⟩;have hl2:(W.putObj (w.heap.size+1) (.loop { rec0 .ready with state:=.busy })).heap[w.heap.size+1]?=some (.loop { rec0 .ready with state:=.busy }):=World.putObj_heap_same hlt;have hd2:(W.putObj (w.heap.size+1) (.loop { rec0 .ready with state:=.busy })).heap[w.heap.size]?=some (.deferred (some [])):=(World.putObj_heap_other (by omega)).trans hd;refine wpIn_mono (hbody _ k _ hk (hI.putObj _ hi (by omega) hl rfl)) ?_;rintro e a3 W3 ⟨rfl,hk3,hi3⟩;have hl3:=hk3.same _ _ hl2 rfl;have hd3:=hk3.same _ _ hd2 rfl;exact⟨_,_,run_endRound none hl3,rfl,hI.putObj _ hi3 (by omega) hl3 rfl,World.putObj_heap_same (Array.getElem?_eq_some_iff.1 hl3).1,(World.putObj_heap_other (by omega)).trans hd3⟩
 ·rintro e W2 ⟨⟨v,rfl⟩,hi,hl,hd⟩
  exact⟨none,_,run_endLoop hl (by simp[rec0]),hdone _ _ (Nat.le_refl _) (hI.putObj _ hi (by omega) hl rfl) ((World.putObj_heap_other (by omega)).trans hd)⟩
end Go.Proofs.YtkfahppdklecdaaGreatDoor.J
namespace Go.Proofs.YtkfahppdklecdaaGreatDoor.J
open Go.RowKit Go.Shelf
attribute [local go_sem] Oper.semAt_some
def bes(xs:List Int)(k:Nat):Array Value:=#[.int .i64 ((xs.length - 1 - k:Nat):Int),.int .i64 (xs.getD (xs.length - 1 - k) 0)]
theorem back_it(m l bx cap:Nat)(q:Option Addr)(xs:List Int)(hN:xs.length<=1048576)(J:Nat->World->Prop)(W:World)(hr:∀ k W,J k W->W.cell? ⟨bx,0,none⟩=some (.slice q xs.length cap)/\NumsAt .i64 W q xs)
  (hY:∀ k W1,k<xs.length->J k W1->YieldAt Fence.wide (m - 1) Tryz.prog l (bes xs k) W1 λ e W'=>e=.returned (.bool true)/\J (k+1) W') (h0:J 0 W) :
  CallsIn Fence.wide m Tryz.prog 181 #[.func (.yield l) #[] #[],.pointer (some ⟨bx,0,none⟩)] W λ e W'=>(∃ v,e=.returned v)/\J xs.length W':=by
 have h3:=(hr 0 W h0).1;obtain⟨N,hNd⟩:∃ N,xs.length=N:=⟨_,rfl⟩;have HNN:=aQ hNd;have HR:=aQ hr;have HY:=aQ hY;rw[hNd]at h3 hN HR HY ⊢;have hro:Fence.wide.round=none:=rfl;clear hr hY hNd;refine callsIn_of_wp Tryz.func181 rfl trivial ?_ hro;simp only[Tryz.ntmps181,List.size_toArray,List.length_cons,List.length_nil,Nat.reduceAdd,Nat.reduceSub,Array.replicate_succ,Array.replicate_zero,List.push_toArray,List.append_toArray,List.nil_append,List.cons_append]
 gi_wp2
 gi_loopw [3] (λ v wr=>∃ (k:Nat) (x:Int),k<=N/\v=.int .i64 x/\Hid (x=(N:Int) - 1 - (k:Int))/\J k wr) (λ v _=>(RowKit.intOf v+1).toNat)
 case atStart=>exact⟨0,_,Nat.zero_le _,rfl,aQ (by omega),h0⟩
 case round =>
  obtain⟨k,x,hk,rfl,HX,hJ⟩:=hrel;have HJ:=aQ hJ;obtain⟨h4,n4⟩:=HR.out k wr hJ;have hx:x<1048576:=by have:=HX.out;omega
  have hx2:-1<=x:=by have:=HX.out;omega
  by_cases hkN:k<N
  ·obtain⟨i,rfl,hi⟩:∃ i:Nat,x=(i:Int)/\N - 1 - k=i:=⟨x.toNat,by have:=HX.out;omega,by have:=HX.out;omega⟩
   have hiN:i<N:=by omega
   obtain⟨fn,tmps,assign,body,hy,hR⟩:=HY.out k wr hkN hJ;unfold bes at hy;rw[HNN.out,hi]at hy;obtain⟨b5,o5,rfl,hl5,e5⟩:=n4.cells i (by rw[HNN.out];exact hiN);have HRD:=aQ hR;have HI:=aQ hi;clear n4 hJ hR hi;generalize xs.getD i 0=y at *
   gi_wp2
   refine⟨λ h=>(by cases h),HRD.out.mono ?_⟩;rintro e W3 ⟨rfl,hJ3⟩;have HJ3:=aQ hJ3;clear hJ3
   gi_wp2
   go_roundw
   case rel=>exact⟨k+1,_,by omega,rfl,aQ (by have:=HI.out;omega),HJ3.out⟩
   case measure=>(simp[RowKit.intOf]) <;> omega
  ·obtain rfl:N=k:=by omega
   have hx0:x<0:=by have:=HX.out;omega
   clear n4 hJ
   gi_wp2
   go_end0
   exact⟨⟨_,rfl⟩,HJ.out⟩
end Go.Proofs.YtkfahppdklecdaaGreatDoor.J
