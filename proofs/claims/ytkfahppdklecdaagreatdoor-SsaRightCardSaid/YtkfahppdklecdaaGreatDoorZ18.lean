import Derived.Test.YtkfahppdklecdaaGreatDoorShelf
import Derived.Test.YtkfahppdklecdaaGreatDoorZ14
import Derived.Deep.DeepCutAuto
import Derived.Test.YtkfahppdklecdaaGreatDoorZ17
set_option maxRecDepth 100000
set_option maxHeartbeats 16000000
namespace Go.Proofs.YtkfahppdklecdaaGreatDoor.J
open Go.RowKit
open Dm
def rpc(x:Int)(N n:Nat):List Value:=List.replicate n (.int .i64 x) ++ List.replicate (N - n) (.int .i64 0)
theorem cell_al'{w:World}{o:Obj}{a:Addr}{v:Value}(h:w.cell? a=some v):(w.alloc o).cell? a=some v:=(b1.cell (World.block_lt_of_cell? w a h)).trans h
theorem rpc_len{x:Int}{N n:Nat}(h:n<=N):(rpc x N n).length=N:=by simp[rpc];omega
theorem rpc_splice{x:Int}{N n m:Nat}(h:n+m<=N):splice (rpc x N n) n (List.replicate m (.int .i64 x))=rpc x N (n+m):=by
 have e:(List.replicate n (Value.int .i64 x)).length=n:=by simp
 unfold splice rpc
 have e1:(List.replicate n (Value.int .i64 x) ++ List.replicate (N - n) (Value.int .i64 0)).take n=List.replicate n (Value.int .i64 x):=by
  rw[List.take_append_of_le_length (by simp)];simp
 have e2:(List.replicate n (Value.int .i64 x) ++ List.replicate (N - n) (Value.int .i64 0)).drop (n+m)=List.replicate (N - (n+m)) (Value.int .i64 0):=by
  rw[List.drop_append,List.drop_of_length_le (by simp),List.nil_append,List.length_replicate,List.drop_replicate];congr 1
  omega
 rw[e1,List.length_replicate,e2,<- List.append_assoc,List.replicate_append_replicate]
theorem rpc_get{x:Int}{N n j:Nat}(hj:j<n):(rpc x N n)[j]?=some (.int .i64 x):=by
 unfold rpc;rw[List.getElem?_append_left (by simpa using hj),List.getElem?_replicate,if_pos hj]
theorem rep_any(q:Option Addr)(c:Nat)(x:Int)(N:Nat)(w:World)(hN:N<=1048576)(h:NumsAt .i64 w q [x]):Calls Tryz.prog 102 #[.slice q 1 c,.int .i64 (N:Int)] w λ e w'=>∃ g,e=.returned (.slice (some ⟨g,0,none⟩) N N)/\w.heap.size<=g/\w'.heap[g]?=some (.cells (rpc x N N).toArray 3 (0,0))/\Below w.heap.size w w':=by
 obtain⟨b,off,rfl,hb,hc⟩:=h.cells 0 (by simp);have hmul:=aQ (λ W=>Tryz.bits_Mul 1 N (by omega) (by omega) W);have e1:1*N / 18446744073709551616=0:=by omega
 have e2:1*N % 18446744073709551616=N:=by omega
 rw[e1,e2,show((1:Nat):Int)=1 from rfl,show((0:Nat):Int)=0 from rfl]at hmul;have hmk:=λ W=>run_make_row' (P:=Tryz.prog) 34 3 (.int .i64 0) 8 Tryz.underlying34 infoInt rfl .i64 .i64 N (by omega) (by omega) W
 have HC0:=aQ (show(w.alloc (.cells (madeCells #[.int .i64 0] N) 3)).heap[w.heap.size]?=some (.cells (rpc x N 0).toArray 3 (0,0)) by
  rw[dL]
  have e:madeCells #[Value.int .i64 0] N=(rpc x N 0).toArray:=by
   apply Array.toList_inj.1;rw[toList_madeCells_one];simp[rpc]
  rw[e])
 have HSZ:Hid ((Tryz.prog.info? 3).map (·.size)=some 1):=aQ (by kernel_rfl)
 have HSRC:Hid (∀ j v,(List.replicate (Nat.min 1 N) (Value.int .i64 x))[j]?=some v->(w.alloc (.cells (madeCells #[.int .i64 0] N) 3)).cell? ((⟨b,off,none⟩:Addr).add j)=some v):=aQ (λ j v hv=>by
  have hj:j=0:=by
   have:=(List.getElem?_eq_some_iff.1 hv).1;simp at this;have:j<Nat.min 1 N:=this;have:Nat.min 1 N<=1:=Nat.min_le_left ..;omega
  subst hj
  have e:v=.int .i64 x:=by
   obtain⟨h1,h2⟩:=List.getElem?_eq_some_iff.1 hv;rw[<- h2];simp
  rw[e];have:=cell_al' (o:=.cells (madeCells #[.int .i64 0] N) 3) hc;simpa[Addr.add]using this)
 have HONE:Hid (∀ m,∀ v∈List.replicate m (Value.int .i64 x),v.oneCell'=true):=aQ (λ m v hv=>by rw[List.eq_of_mem_replicate hv];rfl);have HSP:Hid (∀ n m,n+m<=N->splice (rpc x N n) n (List.replicate m (.int .i64 x))=rpc x N (n+m)):=aQ (λ n m h=>rpc_splice h);have HLN:Hid (∀ n,n<=N->(rpc x N n).length=N):=aQ (λ n h=>rpc_len h);have HGT:Hid (∀ n j,j<n->(rpc x N n)[j]?=some (.int .i64 x)):=aQ (λ n j h=>rpc_get h);have HB0:Hid (Below w.heap.size w (w.alloc (.cells (madeCells #[.int .i64 0] N) 3))):=aQ b1;have HD:Hid (∀ W,W.heap[w.heap.size]?=some (.cells (rpc x N N).toArray 3 (0,0))->Below w.heap.size w W->∃ g,Ending.returned (.slice (some ⟨w.heap.size,0,none⟩) N N)=.returned (.slice (some ⟨g,0,none⟩) N N)/\w.heap.size<=g/\W.heap[g]?=some (.cells (rpc x N N).toArray 3 (0,0))/\Below w.heap.size w W):=aQ (λ W h1 h2=>⟨_,rfl,Nat.le_refl _,h1,h2⟩);generalize rpc x N=R at *;obtain⟨m0,hm0⟩:∃ m,Nat.min 1 N=m:=⟨_,rfl⟩
 have HM0:Hid (m0<=N/\(N=0->m0=0)/\(0<N->m0=1)):=aQ (by
  rw[<- hm0];refine⟨Nat.min_le_right ..,λ e=>by rw[e];rfl,λ e=>?_⟩;exact Nat.min_eq_left e)
 rw[hm0]at HSRC;have HMI:=aQ hm0;clear hm0 hc h;go_enter Tryz.func102,Tryz.ntmps102
 go_wp2_with (first
  | (go_at_call 137;(with_reducible refine(hmul.out _).mono ?_);rintro e w1 ⟨rfl,hw⟩;rw[hw];clear hw)
  | (with_reducible refine wpList_copy_splice rfl (.tmp 31) (.tmp 32) 34 34 rfl 3 Tryz.underlying34 HSZ.out (some ⟨w.heap.size,0,none⟩) (some ⟨b,off,none⟩) N N 1 c rfl rfl w.heap.size 0 (R 0) 3 HC0.out (List.replicate m0 (.int .i64 x)) ?c1 (λ _=>⟨rfl,_,rfl,HSRC.out⟩) ?c2 (HONE.out _) w.heap.size w HB0.out (Nat.le_refl _) ?c3))
 case c1=>rw[List.length_replicate];exact HMI.out.symm
 case c2=>rw[List.length_replicate,HLN.out 0 (Nat.zero_le _)];have:=HM0.out.1;omega
 intro w2 hw2 hb2;rw[HSP.out 0 m0 (by have:=HM0.out.1;omega),Nat.zero_add]at hw2;have hm0N:=HM0.out.1;go_wp2
 go_loopw [8] (λ v wr=>∃ n:Nat,n<=N/\v=.int .i64 (n:Int)/\Hid (0<N->0<n)/\wr.heap[w.heap.size]?=some (.cells (R n).toArray 3 (0,0))/\Below w.heap.size w wr) (λ v _=>N - (RowKit.intOf v).toNat)
 case atStart=>exact⟨m0,hm0N,rfl,aQ (λ h=>by have:=HM0.out.2.2 h;omega),hw2.out,hb2⟩
 case round =>
  clear hw2 hb2;obtain⟨n,hn,rfl,HP,hw,hb⟩:=hrel;have HW:=aQ hw;have HB:=aQ hb;by_cases hnN:n<N
  ·have hp:=HP.out (by omega)
   obtain⟨m,hm⟩:∃ m,Nat.min n (N - n)=m:=⟨_,rfl⟩;have HMN:=aQ hm
   have HMB:Hid (n+m<=N/\0<m/\m<=n):=aQ (by
    have h1:m<=n:=by rw[<- hm];exact Nat.min_le_left ..
    have h2:m<=N - n:=by rw[<- hm];exact Nat.min_le_right ..
    have h3:0<m:=by rw[<- hm];exact Nat.lt_min.2 ⟨hp,by omega⟩
    omega)
   have HS2:Hid (∀ j v,(List.replicate m (Value.int .i64 x))[j]?=some v->wr.cell? ((⟨w.heap.size,0,none⟩:Addr).add j)=some v):=aQ (λ j v hv=>by
    have hj:j<m:=by simpa using(List.getElem?_eq_some_iff.1 hv).1
    have e:v=.int .i64 x:=by
     obtain⟨h1,h2⟩:=List.getElem?_eq_some_iff.1 hv;rw[<- h2];simp
    have ea:(⟨w.heap.size,0,none⟩:Addr).add j=⟨w.heap.size,j,none⟩:=by
     unfold Addr.add;by_cases h0:j=0
     ·subst h0;rfl
     ·rw[if_neg h0,Nat.zero_add]
    rw[e,ea];simp only[World.cell?,HW.out];have:=HGT.out n j (by have:=HMB.out;omega);simpa using this)
   clear hw hb hm;go_wp2_with fail
   go_region_law (refine step_copy_splice rfl (.tmp 41) (.tmp 44) 34 34 rfl 3 Tryz.underlying34 HSZ.out (some ⟨w.heap.size,n,none⟩) (some ⟨w.heap.size,0,none⟩) (N - n) (N - n) n N (by simp[Act.eval,Act.put];omega) (by simp[Act.eval,Act.put]) w.heap.size n (R n) 3 HW.out (List.replicate m (.int .i64 x)) (by rw[List.length_replicate];exact HMN.out.symm) (λ _=>⟨rfl,_,rfl,HS2.out⟩) (by rw[List.length_replicate,HLN.out n hn];exact HMB.out.1) (HONE.out _) w.heap.size w HB.out.drew (Nat.le_refl _) ?_;intro w3 hw3 hb3;rw[HSP.out n m HMB.out.1]at hw3)
   all_goals go_wp2_with fail
   have hwr:IntKind.i64.wrap ((n:Int)+(m:Int))=((n+m:Nat):Int):=by
    have:=HMB.out;rw[IntKind.wrap_i64] <;> omega
   all_goals
    rw[hwr];have:=HMB.out;exact⟨⟨n+m,by omega,rfl,aQ (λ _=>by omega),hw3.out⟩,by simp[RowKit.intOf];omega⟩
  ·obtain rfl:N=n:=by omega
   clear hw hb;go_wp2_with fail
   go_ret;exact HD.out _ HW.out HB.out
def fr(up semi least way:List Int):Nat->List Int:=λ j=>if j=0 then up else if j=1 then semi else if j=2 then least else if j=3 then way else []
abbrev FJ:List Nat:=[0,1,2,3]
theorem fr0(u s l y:List Int)(x:List Int):up1 (fr u s l y) 0 x=fr x s l y:=by
 funext k;unfold up1 fr;by_cases h:k=0 <;> simp[h]
theorem fr1(u s l y:List Int)(x:List Int):up1 (fr u s l y) 1 x=fr u x l y:=by
 funext k;unfold up1 fr
 by_cases h:k=1
 ·subst h;simp
 ·simp[h]
theorem fr2(u s l y:List Int)(x:List Int):up1 (fr u s l y) 2 x=fr u s x y:=by
 funext k;unfold up1 fr
 by_cases h:k=2
 ·subst h;simp
 ·simp[h]
theorem fr3(u s l y:List Int)(x:List Int):up1 (fr u s l y) 3 x=fr u s l x:=by
 funext k;unfold up1 fr
 by_cases h:k=3
 ·subst h;simp
 ·simp[h]
theorem gM{W:World}{base g N:Nat}{l:List Int}{cur:Array Value}(hg:base<=g)(h:W.heap[g]?=some (.cells cur 3 (0,0)))(hc:cur.toList=aX l)(hl:l.length=N)(hN:N<=1048576):W.ownsRow base 3 1 (.slice (some ⟨g,0,none⟩) N N) l.length (aX l):=by
 have e:cur.size=N:=by rw[<- Array.length_toList,hc];simp[aX,hl]
 rw[hl];exact⟨by simp[aX,hl],.inr ⟨g,N,cur,rfl,hg,h,Nat.le_refl _,by unfold maxLen;omega,by omega,by rw[Nat.mul_one,List.take_of_length_le (by rw[hc];simp[aX,hl]),hc]⟩⟩
theorem rpc_ints(x:Int)(N:Nat):(rpc x N N).toArray.toList=aX (List.replicate N x):=by simp[rpc,aX]
theorem mk_ints(N:Nat):(madeCells #[Value.int .i64 0] N).toList=aX (List.replicate N 0):=by rw[toList_madeCells_one];simp[aX]
theorem plant_box{w W:World}{gu gs gl N:Nat}(hb:Below w.heap.size w W)(hN:N<=1048576)(hu:W.heap[gu]?=some (.cells (rpc (-1) N N).toArray 3 (0,0)))(hs:W.heap[gs]?=some (.cells (madeCells #[.int .i64 0] N) 3 (0,0)))(hl:W.heap[gl]?=some (.cells (madeCells #[.int .i64 0] N) 3 (0,0)))
  (d1:w.heap.size<=gu) (d2:w.heap.size<=gs) (d3:w.heap.size<=gl) (n1:gu≠gs) (n2:gu≠gl) (n3:gs≠gl) :
  ∃ q c,Sr w.heap.size (W.alloc (.cells #[.slice (some ⟨gu,0,none⟩) N N,.slice (some ⟨gs,0,none⟩) N N,.slice (some ⟨gl,0,none⟩) N N,.slice none 0 0] 220)) W.heap.size FJ (fr (List.replicate N (-1)) (List.replicate N 0) (List.replicate N 0) []) q c/\Below w.heap.size w (W.alloc (.cells #[.slice (some ⟨gu,0,none⟩) N N,.slice (some ⟨gs,0,none⟩) N N,.slice (some ⟨gl,0,none⟩) N N,.slice none 0 0] 220)):=by
 have lu:=(Array.getElem?_eq_some_iff.1 hu).1;have ls:=(Array.getElem?_eq_some_iff.1 hs).1;have ll:=(Array.getElem?_eq_some_iff.1 hl).1;refine⟨λ j=>if j=0 then some ⟨gu,0,none⟩else if j=1 then some ⟨gs,0,none⟩else if j=2 then some ⟨gl,0,none⟩else none,λ j=>if j=3 then 0 else N,⟨by simp,λ j=>World.frozen?_alloc_new _ _ _ j,λ j hj=>?_,λ j hj=>?_,λ j hj=>?_,λ j hj k hk hjk=>?_⟩,hb.trans (b1.mono hb.size)⟩
 ·refine aJ W ?_
  rcases hj with _|⟨_,_|⟨_,_|⟨_,_|⟨_,h⟩⟩⟩⟩
  ·simp[fr]
  ·simp[fr]
  ·simp[fr]
  ·simp[fr]
  ·cases h
 ·have hold:∀ {k o},W.heap[k]?=some o->∀ o',(W.alloc o').heap[k]?=some o:=λ {k o} e o'=>(Below.heap_alloc W o' k (Array.getElem?_eq_some_iff.1 e).1).trans e
  rcases hj with _|⟨_,_|⟨_,_|⟨_,_|⟨_,h⟩⟩⟩⟩
  ·have:=gM d1 (hold hu (.cells #[.slice (some ⟨gu,0,none⟩) N N,.slice (some ⟨gs,0,none⟩) N N,.slice (some ⟨gl,0,none⟩) N N,.slice none 0 0] 220)) (rpc_ints (-1) N) (by simp) hN
   simpa[fr]using this
  ·have:=gM d2 (hold hs (.cells #[.slice (some ⟨gu,0,none⟩) N N,.slice (some ⟨gs,0,none⟩) N N,.slice (some ⟨gl,0,none⟩) N N,.slice none 0 0] 220)) (mk_ints N) (by simp) hN
   simpa[fr]using this
  ·have:=gM d3 (hold hl (.cells #[.slice (some ⟨gu,0,none⟩) N N,.slice (some ⟨gs,0,none⟩) N N,.slice (some ⟨gl,0,none⟩) N N,.slice none 0 0] 220)) (mk_ints N) (by simp) hN
   simpa[fr]using this
  ·simpa[fr,aX]using World.ownsRow_nil _ _ _ _
  ·cases h
 ·rcases hj with _|⟨_,_|⟨_,_|⟨_,_|⟨_,h⟩⟩⟩⟩
  ·simp;omega
  ·simp;omega
  ·simp;omega
  ·simp
  ·cases h
 ·rcases hj with _|⟨_,_|⟨_,_|⟨_,_|⟨_,h⟩⟩⟩⟩ <;> rcases hk with _|⟨_,_|⟨_,_|⟨_,_|⟨_,h'⟩⟩⟩⟩ <;> first|(exact absurd rfl hjk)|cases h|cases h'|(simp;done)|(simp;omega)
def skn(N k:Nat):List Int:=(List.range N).map λ j=>if j<k then (j:Int)else 0
theorem skn_len(N k:Nat):(skn N k).length=N:=by simp[skn]
theorem skn_zero(N:Nat):skn N 0=List.replicate N 0:=by
 refine ext_getI (by simp[skn]) λ i hi=>?_
 rw[skn_len]at hi;rw[rep_getI _ _ _ hi];unfold skn;rw[dN _ _ _ _ hi];rfl
theorem skn_all(N:Nat):skn N N=(List.range N).map Int.ofNat:=by
 refine ext_getI (by simp[skn]) λ i hi=>?_
 rw[skn_len]at hi;rw[range_getI _ _ hi];unfold skn;rw[dN _ _ _ _ hi,if_pos hi]
theorem skn_succ{N k:Nat}(hk:k<N):(skn N k).set k (k:Int)=skn N (k+1):=by
 refine ext_getI (by simp[skn]) λ i hi=>?_
 rw[List.length_set,skn_len]at hi;rw[bA,skn_len];unfold skn;rw[dN _ _ _ _ hi,dN _ _ _ _ hi];by_cases e:i=k
 ·subst e;rw[if_pos ⟨rfl,hk⟩,if_pos (by omega)]
 ·rw[if_neg (λ c=>e c.1)]
  by_cases c:i<k
  ·rw[if_pos c,if_pos (by omega)]
  ·rw[if_neg c,if_neg (by omega)]
theorem plant_fin{w W:World}{gu gs gl N f:Nat}(hb:Below w.heap.size w W)(hN:N<=1048576)(hu:W.heap[gu]?=some (.cells (rpc (-1) N N).toArray 3 (0,0)))(hs:W.heap[gs]?=some (.cells (madeCells #[.int .i64 0] N) 3 (0,0)))(hl:W.heap[gl]?=some (.cells (madeCells #[.int .i64 0] N) 3 (0,0)))
  (hd:w.heap.size<=gu/\w.heap.size<=gs/\w.heap.size<=gl/\gu≠gs/\gu≠gl/\gs≠gl) (hf:W.heap.size=f) :
  ∃ f' q c,Value.pointer (some ⟨f,0,none⟩)=Value.pointer (some ⟨f',0,none⟩)/\w.heap.size<=f'/\Sr w.heap.size (W.alloc (.cells #[.slice (some ⟨gu,0,none⟩) N N,.slice (some ⟨gs,0,none⟩) N N,.slice (some ⟨gl,0,none⟩) N N,.slice none 0 0] 220)) f' FJ (fr (List.replicate N (-1)) (List.replicate N 0) (List.replicate N 0) []) q c/\Below w.heap.size w (W.alloc (.cells #[.slice (some ⟨gu,0,none⟩) N N,.slice (some ⟨gs,0,none⟩) N N,.slice (some ⟨gl,0,none⟩) N N,.slice none 0 0] 220)):=by
 subst hf;obtain⟨d1,d2,d3,n1,n2,n3⟩:=hd;obtain⟨q,c,h1,h2⟩:=plant_box hb hN hu hs hl d1 d2 d3 n1 n2 n3;exact⟨_,q,c,rfl,hb.size,h1,h2⟩
theorem cM{P w1:World}(hb:Below P.heap.size P w1){k:Nat}{o:Obj}(e:P.heap[k]?=some o):w1.heap[k]?=some o:=(hb.block k (Array.getElem?_eq_some_iff.1 e).1).trans e
theorem splant_any(N:Nat)(w:World)(hN:N<=1048576):Calls Tryz.prog 135 #[.int .i64 (N:Int)] w λ e w'=>∃ f q c,e=.returned (.pointer (some ⟨f,0,none⟩))/\w.heap.size<=f/\Sr w.heap.size w' f FJ (fr (List.replicate N (-1)) ((List.range N).map Int.ofNat) ((List.range N).map Int.ofNat) []) q c/\Below w.heap.size w w':=by
 have hmk:=λ W=>run_make_row' (P:=Tryz.prog) 34 3 (.int .i64 0) 8 Tryz.underlying34 infoInt rfl .i64 .i64 N (by omega) (by omega) W
 go_enter Tryz.func135,Tryz.ntmps135
 go_wp2_with fail
 have HREP:Hid (∀ (k:Nat) (W:World),W.heap[k]?=some (.cells #[.int .i64 (-1)] 3 (0,0))->Calls Tryz.prog 102 #[.slice (some ⟨k,0,none⟩) 1 1,.int .i64 (N:Int)] W λ e w'=>∃ g,e=.returned (.slice (some ⟨g,0,none⟩) N N)/\W.heap.size<=g/\w'.heap[g]?=some (.cells (rpc (-1) N N).toArray 3 (0,0))/\Below W.heap.size W w'):=aQ (λ k W h=>rep_any _ 1 (-1) N W hN ⟨by simp,λ i hi=>⟨k,0,rfl,(Array.getElem?_eq_some_iff.1 h).1,by
  have:i=0:=by simpa using hi
  subst this;simp[World.cell?,h]⟩⟩)
 have HREP2:Hid (∀ (k:Nat) (W:World),W.heap[k]?=some (.cells #[.int .i64 (-1)] 3 (0,0))->Calls Tryz.prog 102 #[.slice (some ⟨k,0,none⟩) 1 1,.int .i64 (N:Int)] W.drew λ e w'=>∃ g,e=.returned (.slice (some ⟨g,0,none⟩) N N)/\W.heap.size<=g/\w'.heap[g]?=some (.cells (rpc (-1) N N).toArray 3 (0,0))/\Below W.heap.size W w'):=aQ (λ k W h=>Calls.mono (HREP.out k W.drew h) (λ e w' ⟨g,h1,h2,h3,h4⟩=>⟨g,h1,h2,h3,⟨h4.os,h4.tape,h4.output,h4.size,h4.block⟩⟩));have hn:∀ {W:World} {k:Nat} {o:Obj},W.heap.size=k->(W.alloc o).heap[k]?=some o:=λ {W k o} e=>by subst e;exact dL _ _
 have hk:∀ {W:World} {k:Nat} {o:Obj},W.heap[k]?=some o->∀ {o':Obj},(W.alloc o').heap[k]?=some o:=λ {W k o} e {o'}=>(Below.heap_alloc W o' k (Array.getElem?_eq_some_iff.1 e).1).trans e
 go_cut [3] (λ s3 wx=>∃ f q c,s3=.pointer (some ⟨f,0,none⟩)/\w.heap.size<=f/\Sr w.heap.size wx f FJ (fr (List.replicate N (-1)) (List.replicate N 0) (List.replicate N 0) []) q c/\Below w.heap.size w wx)
 case first =>
  go_region_with (go_at_call 102;(with_reducible refine(HREP2.out _ _ (by first|exact hn (by simp)|exact hk (hn (by simp))|exact hk (hk (hn (by simp))))).mono ?_);rintro e w1 ⟨gu,rfl,hgu,hu,hb⟩)
  all_goals (go_wp2_with fail;go_meet)
  all_goals
   have hlu:=(Array.getElem?_eq_some_iff.1 hu).1;have hsz:=hb.size
   have hbw:Below w.heap.size w w1:=by
    first
     | exact(b1:Below w.heap.size w _).trans (hb.mono (by simp))
     | exact((b1:Below w.heap.size w _).alloc (by simp) _).trans (hb.mono (by simp;omega))
     | exact(((b1:Below w.heap.size w _).alloc (by simp) _).alloc (by simp;omega) _).trans (hb.mono (by simp;omega))
   have hbs:=hbw.size;refine plant_fin ?p1 hN ?p2 ?p3 ?p4 ?p5 ?p6
   case p1=>first|exact hbw|exact hbw.alloc hbs _|exact(hbw.alloc hbs _).alloc (by simp;omega) _
   case p2=>first|exact hu|exact hk hu|exact hk (hk hu)
   case p3=>first|(refine hn ?_;simp;done)|(refine hk (hn ?_);simp;done)|(refine cM hb (hn ?_);simp;done)|(refine cM hb (hk (hn ?_));simp;done)|(refine cM hb (hk (hk (hn ?_)));simp;done)|(refine hk (cM hb (hn ?_));simp;done)|(refine hk (cM hb (hk (hn ?_)));simp;done)
   case p4=>first|(refine hn ?_;simp;done)|(refine hk (hn ?_);simp;done)|(refine cM hb (hn ?_);simp;done)|(refine cM hb (hk (hn ?_));simp;done)|(refine cM hb (hk (hk (hn ?_)));simp;done)|(refine hk (cM hb (hn ?_));simp;done)|(refine hk (cM hb (hk (hn ?_)));simp;done)
   case p5=>simp at hgu hsz;omega
   case p6=>simp
 case rest =>
  obtain⟨f,q,c,rfl,hwf,hsr,hb⟩:=hcut;have HWF:=aQ hwf;obtain⟨U,hU⟩:∃ U,List.replicate N (-1:Int)=U:=⟨_,rfl⟩;rw[hU]at hsr;have HS:=aQ hsr;have HB:=aQ hb
  have HFIN:Hid (∀ W q c,Sr w.heap.size W f FJ (fr U (skn N N) (skn N N) []) q c->Below w.heap.size w W->∃ f' q c,Ending.returned (.pointer (some ⟨f,0,none⟩))=.returned (.pointer (some ⟨f',0,none⟩))/\w.heap.size<=f'/\Sr w.heap.size W f' FJ (fr (List.replicate N (-1)) ((List.range N).map Int.ofNat) ((List.range N).map Int.ofNat) []) q c/\Below w.heap.size w W):=aQ (λ W q c h1 h2=>by
   rw[skn_all,<- hU]at h1;exact⟨f,q,c,rfl,HWF.out,h1,h2⟩)
  have HK0:=aQ (skn_zero N);have HKS:=aQ (λ k (hk:k<N)=>skn_succ hk);have HKL:=aQ (λ k=>skn_len N k);generalize skn N=K at *;clear hsr hb hwf hn hk HREP HREP2 hmk hU;go_wp2_with fail
  go_loopw [15] (λ v wr=>∃ k:Nat,k<=N/\v=.int .i64 (k:Int)/\Hid (Sr w.heap.size wr f FJ (fr U (K k) (K k) []) q c)/\Below w.heap.size w wr) (λ v _=>N - (RowKit.intOf v).toNat)
  case atStart=>exact⟨0,Nat.zero_le _,rfl,by rw[HK0.out];exact HS,HB.out⟩
  case round =>
   clear HS HB;obtain⟨k,hk,rfl,HS,hb⟩:=hrel;have HB:=aQ hb;by_cases hkN:k<N
   ·have hl:=HKL.out k
    obtain⟨g1,q1,b1',l1,n1,f1,k1⟩:=HS.out.row (j:=1) (by decide) (by show 0<(K k).length;omega);obtain⟨g2,q2,b2',l2,n2,f2,k2⟩:=HS.out.row (j:=2) (by decide) (by show 0<(K k).length;omega);have d1:=HS.out.clE (j:=1) (by decide) (l:=K k) rfl q1 rfl hl;have d2:=HS.out.clE (j:=2) (by decide) (l:=K k) rfl q2 rfl hl;have dl:=HS.out.bl;have c1:=k1 k (by show k<(K k).length;omega);have c2:=k2 k (by show k<(K k).length;omega)
    have n12:g1≠g2:=λ e=>by
     rcases HS.out.ap 1 (by decide) 2 (by decide) (by decide)with d|d
     ·rw[q1]at d;cases d
     ·exact d (by rw[q1,q2,e])
    have HA:Hid (Sr w.heap.size ((wr.setCell ⟨g1,k,none⟩ (.int .i64 (k:Int))).setCell ⟨g2,k,none⟩ (.int .i64 (k:Int))) f FJ (fr U (K (k+1)) (K (k+1)) []) q c):=aQ (by
     have:=(HS.out.set (j:=1) (by decide) q1 k (k:Int)).set (j:=2) (by decide) q2 k (k:Int);rw[fr1,fr2]at this;rw[<- HKS.out k hkN];exact this)
    have HA2:Hid (Sr w.heap.size ((wr.setCell ⟨g2,k,none⟩ (.int .i64 (k:Int))).setCell ⟨g1,k,none⟩ (.int .i64 (k:Int))) f FJ (fr U (K (k+1)) (K (k+1)) []) q c):=aQ (by
     have:=(HS.out.set (j:=2) (by decide) q2 k (k:Int)).set (j:=1) (by decide) q1 k (k:Int);rw[fr2,fr1]at this;rw[<- HKS.out k hkN];exact this)
    have HBA:Hid (Below w.heap.size w ((wr.setCell ⟨g1,k,none⟩ (.int .i64 (k:Int))).setCell ⟨g2,k,none⟩ (.int .i64 (k:Int)))):=aQ ((hb.setCell (p:=⟨g1,k,none⟩) b1' _).setCell (p:=⟨g2,k,none⟩) b2' _);have HBA2:Hid (Below w.heap.size w ((wr.setCell ⟨g2,k,none⟩ (.int .i64 (k:Int))).setCell ⟨g1,k,none⟩ (.int .i64 (k:Int)))):=aQ ((hb.setCell (p:=⟨g2,k,none⟩) b2' _).setCell (p:=⟨g1,k,none⟩) b1' _);have m1:(wr.setCell ⟨g1,k,none⟩ (.int .i64 (k:Int))).drew.cell? ⟨g2,k,none⟩=some (.int .i64 ((fr U (K k) (K k) [] 2).getD k 0)):=(World.cell?_setCell_other _ _ _ _ (λ e=>n12 (congrArg Addr.block e))).trans c2;have m2:(wr.setCell ⟨g2,k,none⟩ (.int .i64 (k:Int))).drew.cell? ⟨g1,k,none⟩=some (.int .i64 ((fr U (K k) (K k) [] 1).getD k 0)):=(World.cell?_setCell_other _ _ _ _ (λ e=>n12 (congrArg Addr.block e).symm)).trans c1;have f1k:=f1 k;have f2k:=f2 k;clear hb hl k1 k2 q1 q2 f1 f2;go_wp2_with fail
    go_region
    all_goals go_wp2_with fail
    all_goals first
     | exact⟨⟨k+1,by omega,rfl,aQ (HA.out.next (Below.refl _ _).drew),HBA.out.drew⟩,by simp[RowKit.intOf];omega⟩
     | exact⟨⟨k+1,by omega,rfl,aQ (HA2.out.next (Below.refl _ _).drew),HBA2.out.drew⟩,by simp[RowKit.intOf];omega⟩
   ·obtain rfl:N=k:=by omega
    clear hb;go_wp2_with fail
    go_ret;exact HFIN.out _ _ _ HS.out HB.out
structure Fk(W w':World)(f:Nat)(q q':Nat->Option Addr):Prop where
 ch:Chg W.heap.size (λ k=>k=f∨∃ j∈FJ,(q j).map Addr.block=some k) W w'
 qs:∀ j∈FJ,(q' j).map Addr.block=(q j).map Addr.block∨∃ k,(q' j).map Addr.block=some k/\W.heap.size<=k
theorem Fk.refl(W:World)(f:Nat)(q:Nat->Option Addr):Fk W W f q q:=⟨Chg.refl _ _ _,λ _ _=>.inl rfl⟩
theorem Fk.no{W w' w2:World}{f:Nat}{q q':Nat->Option Addr}(h:Fk W w' f q q')(hg:w'.grownBy w2 none):Fk W w2 f q q' :=
 ⟨h.ch.grown hg h.ch.size (λ k e=>by cases e),h.qs⟩
theorem Fk.own{W w' w2:World}{f k:Nat}{q q':Nat->Option Addr}(h:Fk W w' f q q')(hg:w'.grownBy w2 (some k))(hk:k=f∨∃ j∈FJ,(q' j).map Addr.block=some k):Fk W w2 f q q':=by
 refine⟨h.ch.grown hg h.ch.size (λ k' e=>?_),h.qs⟩;injection e with e
 subst e;rcases hk with e|⟨j,hj,e⟩
 ·exact .inr (.inl e)
 ·rcases h.qs j hj with c|⟨k',c1,c2⟩
  ·exact .inr (.inr ⟨j,hj,by rw[<- c];exact e⟩)
  ·rw[e]at c1
   injection c1 with c1
   exact .inl (by omega)
theorem Fk.move{W w':World}{f j:Nat}{q q':Nat->Option Addr}{p:Option Addr}(h:Fk W w' f q q'){B:Nat}(hB:W.heap.size<=B)(hp:p.map Addr.block=(q' j).map Addr.block∨p.map Addr.block=some B):Fk W w' f q (up1 q' j p):=by
 refine⟨h.ch,λ k hk=>?_⟩;by_cases e:k=j
 ·subst e
  rw[cC];rcases hp with c|c
  ·rw[c];exact h.qs k hk
  ·exact .inr ⟨B,c,hB⟩
 ·rw[bW _ _ _ e];exact h.qs k hk
theorem Sr.cut{base b:Nat}{W:World}{js:List Nat}{r:Nat->List Int}{q:Nat->Option Addr}{c:Nat->Nat}(h:Sr base W b js r q c){j:Nat}(hj:j∈js):Sr base (W.setCell ⟨b,j,none⟩ (.slice (q j) 0 (c j))) b js (up1 r j []) q c:=by
 have hs:=(h.own j hj)
 have hnil:W.ownsRow base 3 1 (.slice (q j) 0 (c j)) 0 []:=by
  refine⟨rfl,?_⟩;rcases hs.2 with ⟨e,_⟩|⟨g,cap,cur,e,e1,e2,e3,e4,e5,e6⟩
  ·injection e with e1 e2 e3
   exact .inl ⟨by rw[e1,e3],rfl⟩
  ·injection e with k1 k2 k3
   exact .inr ⟨g,cap,cur,by rw[k1,k3],e1,e2,Nat.zero_le _,e4,e5,by simp⟩
 refine⟨by simpa[World.setCell]using h.bl,λ o=>(World.frozen?_setCell ..).trans (h.fz o),λ k hk=>?_,λ k hk=>?_,h.ne,h.ap⟩
 ·by_cases e:k=j
  ·subst e
   rw[cC];exact World.cell?_setCell_same _ _ _ (h.cl k hk)
  ·rw[bW _ _ _ e]
   refine(World.cell?_setCell_other _ _ _ _ (λ e2=>e ?_)).trans (h.cl k hk);have:=congrArg Addr.off e2;simpa using this.symm
 ·by_cases e:k=j
  ·subst e
   rw[cC];exact aP (a:=⟨b,k,none⟩) hnil (by rw[aH];exact h.ne k hk)
  ·rw[bW _ _ _ e]
   exact aP (a:=⟨b,j,none⟩) (h.own k hk) (by rw[aH];exact h.ne k hk)
theorem backward_any(q:Option Addr)(n c:Nat)(W:World):Calls Tryz.prog 155 #[.slice q n c] W λ e w'=>e=.returned (.func (.func 181) #[] #[.pointer (some ⟨W.heap.size,0,none⟩)])/\w'=W.alloc (.cells #[.slice q n c] 34):=by
 have hmf:∀ (fn:Fn) (first cap:Array Value) (w:World),(Instr.makeFunc fn first cap).run Tryz.prog w=.ok (.func fn first cap) w:=λ _ _ _ _=>rfl
 go_enter Tryz.func155,Tryz.ntmps155
 go_wp2
 go_ret;exact⟨rfl,rfl⟩
end Go.Proofs.YtkfahppdklecdaaGreatDoor.J
