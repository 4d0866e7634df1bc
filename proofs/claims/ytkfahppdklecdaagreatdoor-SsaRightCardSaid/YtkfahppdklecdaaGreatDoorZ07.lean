import Derived.Test.YtkfahppdklecdaaGreatDoorZ06
import Derived.Maps.AppendAt
import Derived.Laws.OwnMore
import Derived.Test.YtkfahppdklecdaaGreatDoorZ05
import Derived.Deep.LoopGhost
set_option maxRecDepth 100000
set_option maxHeartbeats 16000000
namespace Go.Proofs.YtkfahppdklecdaaGreatDoor
namespace Fl
variable {G:Fg}
theorem range_pairwise(n:Nat):(List.range n).Pairwise (· < ·):=List.pairwise_lt_range
theorem Fg.reach_sorted(G:Fg):G.reach.Pairwise (· < ·):=List.Pairwise.filter _ (range_pairwise _)
noncomputable def Fg.ls(G:Fg):List Nat:=G.reach.filter G.lead
theorem Fg.ls_sorted(G:Fg):G.ls.Pairwise (· < ·):=List.Pairwise.filter _ G.reach_sorted
theorem Fg.mem_ls(hG:G.Ok){a:Nat}:a∈G.ls↔G.R a/\G.lead a=true:=by
 unfold Fg.ls;rw[List.mem_filter,Fg.mem_reach hG]
noncomputable def Fg.n(G:Fg):Nat:=G.ls.length
noncomputable def Fg.fr(G:Fg)(k:Nat):Nat:=G.ls.getD k 0
theorem getD_mem{l:List Nat}{k:Nat}(h:k<l.length):l.getD k 0∈l:=by
 rw[List.getD_eq_getElem?_getD,List.getElem?_eq_getElem h];exact List.getElem_mem h
theorem mem_getD{l:List Nat}{a:Nat}(h:a∈l):∃ k,k<l.length/\l.getD k 0=a:=by
 obtain⟨k,hk,e⟩:=List.getElem_of_mem h;exact⟨k,hk,by rw[List.getD_eq_getElem?_getD,List.getElem?_eq_getElem hk];exact e⟩
theorem sorted_lt{l:List Nat}(h:l.Pairwise (· < ·)){i j:Nat}(hij:i<j)(hj:j<l.length):l.getD i 0<l.getD j 0:=by
 rw[List.getD_eq_getElem?_getD,List.getD_eq_getElem?_getD,List.getElem?_eq_getElem hj,List.getElem?_eq_getElem (by omega)];exact List.pairwise_iff_getElem.1 h i j (by omega) hj hij
theorem Fg.fr_ok(hG:G.Ok){k:Nat}(h:k<G.n):G.R (G.fr k)/\G.lead (G.fr k)=true:=(Fg.mem_ls hG).1 (getD_mem h)
theorem Fg.fr_lt(G:Fg){i j:Nat}(hij:i<j)(hj:j<G.n):G.fr i<G.fr j:=sorted_lt G.ls_sorted hij hj
theorem Fg.fr_inj(G:Fg){i j:Nat}(hi:i<G.n)(hj:j<G.n)(h:G.fr i=G.fr j):i=j:=by
 rcases Nat.lt_trichotomy i j with c|c|c
 ·have:=G.fr_lt c hj;omega
 ·exact c
 ·have:=G.fr_lt c hi;omega
noncomputable def Fg.inB(G:Fg)(k r:Nat):Bool:=decide (G.fr k<=r) && decide (r<G.to (G.fr k))
theorem Fg.inB_iff{k r:Nat}:G.inB k r=true↔G.fr k<=r/\r<G.to (G.fr k):=by
 unfold Fg.inB;rw[Bool.and_eq_true,decide_eq_true_eq,decide_eq_true_eq]
theorem Fg.in_one(hG:G.Ok){i j r:Nat}(hi:i<G.n)(hj:j<G.n)(h1:G.inB i r=true)(h2:G.inB j r=true):i=j:=by
 obtain⟨a1,a2⟩:=Fg.inB_iff.1 h1;obtain⟨b1,b2⟩:=Fg.inB_iff.1 h2;have A:=Fg.fr_ok hG hi;have B:=Fg.fr_ok hG hj;rcases Nat.lt_trichotomy i j with c|c|c
 ·have:=Fg.apart hG A.1 B.1 B.2 (G.fr_lt c hj);omega
 ·exact c
 ·have:=Fg.apart hG B.1 A.1 A.2 (G.fr_lt c hi);omega
theorem Fg.in_some(hG:G.Ok){r:Nat}(h:G.R r):∃ k,k<G.n/\G.inB k r=true:=by
 obtain⟨a,h1,h2,h3,h4⟩:=Fg.cover hG h;obtain⟨k,hk,e⟩:=mem_getD ((Fg.mem_ls hG).2 ⟨h1,h2⟩);have e':G.fr k=a:=e;exact⟨k,hk,Fg.inB_iff.2 ⟨by omega,by rw[e'];exact h4⟩⟩
noncomputable def Fg.fd(G:Fg)(r:Nat):Nat:=((List.range G.n).find? λ k=>G.inB k r).getD G.n
theorem Fg.fd_is(hG:G.Ok){k r:Nat}(hk:k<G.n)(h:G.inB k r=true):G.fd r=k:=by
 have hf:(List.range G.n).find? (λ k=>G.inB k r)=some k:=by
  rw[List.find?_range_eq_some];refine⟨h,List.mem_range.2 hk,λ j hj=>?_⟩;cases hc:G.inB j r with
  | false=>rfl
  | true=>have:=Fg.in_one hG (by omega) hk hc h;omega
 unfold Fg.fd;rw[hf];rfl
theorem Fg.fd_lead(hG:G.Ok){s:Nat}(h:G.R s)(hl:G.lead s=true):G.fd s<G.n/\G.fr (G.fd s)=s/\G.inB (G.fd s) s=true:=by
 obtain⟨k,hk,e⟩:=mem_getD ((Fg.mem_ls hG).2 ⟨h,hl⟩);have e':G.fr k=s:=e;have hb:G.inB k s=true:=Fg.inB_iff.2 ⟨by omega,by rw[e'];exact(Fg.to_ok hG h).2.2⟩;rw[Fg.fd_is hG hk hb];exact⟨hk,e',hb⟩
theorem Fg.su_lead(hG:G.Ok){i s:Nat}(hi:G.R i)(hf:G.fin i=true)(hs:s∈G.su i):G.R s/\G.lead s=true:=by
 refine⟨.step hi hs,?_⟩;obtain⟨k1,k2⟩:=hi.ok hG;cases hj:G.ju i with
 | true=>exact Fg.lead_iff.2 (.inr ⟨i,(Fg.mem_reach hG).2 hi,hs,.inl hj⟩)
 | false =>
  rcases hG.one i k1 k2 hj with e|e
  ·rw[e]at hs;cases hs
  ·unfold Fg.fin at hf
   rw[hj,e]at hf;simp at hf;rw[e]at hs;rw[List.mem_singleton.1 hs];exact hf
def once(l:List Nat)(x:Nat):List Nat:=if x∈l then l else l ++ [x]
theorem once_mem{l:List Nat}{x y:Nat}:y∈once l x↔y∈l∨y=x:=by
 unfold once;split
 ·exact⟨.inl,λ h=>h.elim id (λ e=>e ▸ ‹_›)⟩
 ·simp
theorem once_nodup{l:List Nat}{x:Nat}(h:l.Nodup):(once l x).Nodup:=by
 unfold once;split
 ·exact h
 ·rename_i hx
  rw[List.nodup_append];exact⟨h,List.pairwise_singleton _ _,λ a ha b hb e=>by rw[List.mem_singleton.1 hb]at e;exact hx (e ▸ ha)⟩
theorem fold_mem{f:Nat->Nat}:∀ (xs acc:List Nat) (y:Nat),y∈xs.foldl (λ a s=>once a (f s)) acc↔y∈acc∨∃ s∈xs,y=f s
 | [],acc,y=>by simp
 | x :: xs,acc,y=>by
  rw[List.foldl_cons,fold_mem xs _ y,once_mem];simp only[List.mem_cons,exists_eq_or_imp,or_assoc]
theorem fold_nodup{f:Nat->Nat}:∀ (xs acc:List Nat),acc.Nodup->(xs.foldl (λ a s=>once a (f s)) acc).Nodup
 | [],_,h=>h
 | x :: xs,acc,h=>by rw[List.foldl_cons];exact fold_nodup xs _ (once_nodup h)
noncomputable def Fg.la(G:Fg)(k:Nat):Nat:=G.last (G.fr k)
noncomputable def Fg.sx(G:Fg)(k j:Nat):List Nat:=((G.su (G.la k)).take j).foldl (λ a s=>once a (G.fd s)) []
noncomputable def Fg.sk(G:Fg)(k:Nat):List Nat:=(G.su (G.la k)).foldl (λ a s=>once a (G.fd s)) []
noncomputable def Fg.pk(G:Fg)(t:Nat):List Nat:=(List.range G.n).filter λ k=>decide (t∈G.sk k)
theorem Fg.sk_mem{k t:Nat}:t∈G.sk k↔∃ s∈G.su (G.la k),t=G.fd s:=by
 unfold Fg.sk;rw[fold_mem];simp
theorem Fg.sk_nodup{k:Nat}:(G.sk k).Nodup:=fold_nodup _ _ List.nodup_nil
theorem Fg.pk_mem{t k:Nat}:k∈G.pk t↔k<G.n/\t∈G.sk k:=by
 unfold Fg.pk;rw[List.mem_filter,List.mem_range,decide_eq_true_eq]
theorem Fg.pk_sorted(G:Fg)(t:Nat):(G.pk t).Pairwise (· < ·):=List.Pairwise.filter _ (range_pairwise _)
theorem sorted_nodup{l:List Nat}(h:l.Pairwise (· < ·)):l.Nodup:=h.imp (λ h=>Nat.ne_of_lt h)
theorem count_one{l:List Nat}(h:l.Nodup){x:Nat}(hx:x∈l):l.count x=1:=by
 have h1:=List.nodup_iff_count.1 h x;have h2:=List.count_pos_iff.2 hx;omega
theorem Fg.edge(hG:G.Ok){k s:Nat}(hk:k<G.n)(hs:s∈G.su (G.la k)):G.fd s<G.n/\G.fr (G.fd s)=s/\(G.sk k).count (G.fd s)=1/\(G.pk (G.fd s)).count k=1:=by
 have A:=Fg.fr_ok hG hk;obtain⟨h1,h2,_⟩:=Fg.last_ok hG _ A.1;obtain⟨b1,b2⟩:=Fg.su_lead hG h1 h2 hs;obtain⟨c1,c2,_⟩:=Fg.fd_lead hG b1 b2;have hm:G.fd s∈G.sk k:=Fg.sk_mem.2 ⟨s,hs,rfl⟩;exact⟨c1,c2,count_one Fg.sk_nodup hm,count_one (sorted_nodup (G.pk_sorted _)) (Fg.pk_mem.2 ⟨hk,hm⟩)⟩
theorem Fg.behind(hG:G.Ok){k:Nat}(h0:0<k)(hk:k<G.n):G.to (G.fr (k - 1))<=G.fr k :=
 Fg.apart hG (Fg.fr_ok hG (by omega)).1 (Fg.fr_ok hG hk).1 (Fg.fr_ok hG hk).2 (G.fr_lt (by omega) hk)
theorem Fg.some(hG:G.Ok):0<G.reach.length:=List.length_pos_of_mem ((Fg.mem_reach hG).2 .zero)
end Fl
end Go.Proofs.YtkfahppdklecdaaGreatDoor
namespace Go.Proofs.YtkfahppdklecdaaGreatDoor
open Go.RowKit M
def jB(x:In):Bool:=jmpB x.op || (x.op == 5)
def nxI(x:In)(i:Nat):Nat:=if x.op=24 then i+2 else i+1
def gOf(l:List In):Fl.Fg:={ N:=l.length,su:=λ i=>(bG l (i:Int)).map Int.toNat,ju:=λ i=>jB (l.getD i z),nx:=λ i=>nxI (l.getD i z) i,ho:=λ i=>bU l (i:Int) }
theorem gK{l:List In}{i:Nat}:bQ l (i:Int)=true↔i<l.length/\bU l (i:Int)=false:=by
 rw[bT];constructor
 ·rintro⟨h1,h2⟩;exact⟨by omega,h2⟩
 ·rintro⟨h1,h2⟩;exact⟨by omega,h2⟩
theorem succ_at{l:List In}{i:Nat}(h:bQ l (i:Int)=true):bG l (i:Int)=fM (l.getD i z) (i:Int):=by
 unfold bG;rw[if_pos h,Int.toNat_natCast]
theorem bJ{l:List In}(h:(aS l).2=0):(gOf l).Ok:=by
 obtain⟨h1,h2,h3⟩:=cW h;refine⟨by show 0<l.length;omega,?_,?_,?_,?_⟩
 ·show bU l ((0:Nat):Int)=false
  rw[fG (by omega)];rfl
 ·intro i hi hh s hs
  obtain⟨n,hn,rfl⟩:=List.mem_map.1 hs;have hp:=may_place h3 (gK.2 ⟨hi,hh⟩) n hn;obtain⟨⟨p1,p2⟩,p3⟩:=bT.1 hp;have e:((n.toNat:Nat):Int)=n:=Int.toNat_of_nonneg p1;refine⟨by show n.toNat<l.length;omega,?_⟩;show bU l ((n.toNat:Nat):Int)=false;rw[e];exact p3
 ·intro i hi hh hj
  have hp:bQ l (i:Int)=true:=gK.2 ⟨hi,hh⟩
  have hj':jmpB (l.getD i z).op=false/\(l.getD i z).op≠5:=by
   have:(jmpB (l.getD i z).op || ((l.getD i z).op == 5))=false:=hj;simpa using this
  show(bG l (i:Int)).map Int.toNat=[]∨(bG l (i:Int)).map Int.toNat=[nxI (l.getD i z) i];rw[succ_at hp];unfold fM nxI;by_cases c1:(l.getD i z).op=149
  ·rw[if_pos c1];exact .inl rfl
  ·rw[if_neg c1,if_neg hj'.2]
   by_cases c2:(l.getD i z).op=24
   ·rw[if_pos c2,if_pos c2]
    right;show [((i:Int)+2).toNat]=[i+2];congr 1
   ·rw[if_neg c2,if_neg c2,if_neg (by rw[hj'.1];simp)]
    right;show [((i:Int)+1).toNat]=[i+1];congr 1
 ·intro i hi hh
  show nxI (l.getD i z) i=i+1∨(nxI (l.getD i z) i=i+2/\bU l (((i+1:Nat)):Int)=true);unfold nxI;by_cases c:(l.getD i z).op=24
  ·rw[if_pos c]
   right;have hb:=h3 i hi;unfold badI at hb;rw[show bU l (i:Int)=false from hh]at hb;have hm:mayB l i=true:=by simpa using hb
   unfold mayB at hm;rw[Bool.and_eq_true,Bool.and_eq_true]at hm;have hw:=hm.1.2;unfold eL gE at hw;rw[c]at hw;simp at hw;have hlt:i+1<l.length:=by omega
   refine⟨rfl,?_⟩;rw[fG hlt,gA];have:hR (opL l) i=false:=by rw[<- fG hi];exact hh
   rw[this];have c':opL l i=24:=c;rw[c'];rfl
  ·rw[if_neg c];exact .inl rfl
noncomputable def cK(l:List In):List Int:=if (aS l).2=0 then (gOf l).reach.map Int.ofNat else []
theorem dS{l:List In}(h:(aS l).2=0):cK l=(gOf l).reach.map Int.ofNat:=if_pos h
theorem reachI_no{l:List In}(h:¬ (aS l).2=0):cK l=[]:=if_neg h
structure Todo(l:List In)(seen:List Bool)(todo:List Nat):Prop where
 len:seen.length=l.length
 in1:∀ i,seen.getD i false=true->(gOf l).R i
 in2:∀ i∈todo,(gOf l).R i
 zero:seen.getD 0 false=true∨0∈todo
 on:∀ i,seen.getD i false=true->∀ s∈(gOf l).su i,seen.getD s false=true∨s∈todo
theorem Todo.start(l:List In):Todo l (List.replicate l.length false) [0]:=by
 have e:∀ i,(List.replicate l.length false).getD i false=false:=λ i=>by
  rw[List.getD_eq_getElem?_getD,List.getElem?_replicate];split <;> rfl
 exact⟨by simp,λ i h=>(by rw[e]at h;cases h),λ i h=>(by rw[List.mem_singleton.1 h];exact .zero),.inr (List.mem_singleton.2 rfl),λ i h=>(by rw[e]at h;cases h)⟩
theorem cU(seen:List Bool)(i j:Nat):(seen.set i true).getD j false=(decide (j=i/\i<seen.length) || seen.getD j false):=by
 rw[List.getD_eq_getElem?_getD,List.getD_eq_getElem?_getD,List.getElem?_set];by_cases e:i=j
 ·subst e
  by_cases h:i<seen.length
  ·simp[h]
  ·rw[if_pos rfl,if_neg h,List.getElem?_eq_none (by omega)];simp[h]
 ·rw[if_neg e]
  have:¬ (j=i/\i<seen.length):=λ c=>e c.1.symm
  simp[this]
theorem Todo.old{l:List In}{seen:List Bool}{todo:List Nat}{i:Nat}(h:Todo l seen (todo ++ [i]))(hs:seen.getD i false=true):Todo l seen todo:=by
 refine⟨h.len,h.in1,λ j hj=>h.in2 j (List.mem_append_left _ hj),?_,λ j hj s hm=>?_⟩
 ·rcases h.zero with c|c
  ·exact .inl c
  ·rcases List.mem_append.1 c with c|c
   ·exact .inr c
   ·rw[List.mem_singleton.1 c];exact .inl hs
 ·rcases h.on j hj s hm with c|c
  ·exact .inl c
  ·rcases List.mem_append.1 c with c|c
   ·exact .inr c
   ·rw[List.mem_singleton.1 c];exact .inl hs
theorem Todo.new{l:List In}{seen:List Bool}{todo:List Nat}{i:Nat}(hG:(gOf l).Ok)(h:Todo l seen (todo ++ [i])):i<l.length/\Todo l (seen.set i true) (todo ++ (gOf l).su i):=by
 have hi:(gOf l).R i:=h.in2 i (List.mem_append_right _ (List.mem_singleton.2 rfl));have hlt:i<l.length:=(hi.ok hG).1;have hl:i<seen.length:=by rw[h.len];exact hlt
 have hle:∀ j,seen.getD j false=true->(seen.set i true).getD j false=true:=λ j hj=>by rw[cU,hj,Bool.or_true]
 have hii:(seen.set i true).getD i false=true:=by rw[cU];simp[hl]
 refine⟨hlt,by rw[List.length_set];exact h.len,λ j hj=>?_,λ j hj=>?_,?_,λ j hj s hm=>?_⟩
 ·rw[cU,Bool.or_eq_true,decide_eq_true_eq]at hj
  rcases hj with ⟨rfl,_⟩|hj
  ·exact hi
  ·exact h.in1 j hj
 ·rcases List.mem_append.1 hj with c|c
  ·exact h.in2 j (List.mem_append_left _ c)
  ·exact .step hi c
 ·rcases h.zero with c|c
  ·exact .inl (hle 0 c)
  ·rcases List.mem_append.1 c with c|c
   ·exact .inr (List.mem_append_left _ c)
   ·rw[List.mem_singleton.1 c];exact .inl hii
 ·rw[cU,Bool.or_eq_true,decide_eq_true_eq]at hj
  rcases hj with ⟨rfl,_⟩|hj
  ·exact .inr (List.mem_append_right _ hm)
  ·rcases h.on j hj s hm with c|c
   ·exact .inl (hle s c)
   ·rcases List.mem_append.1 c with c|c
    ·exact .inr (List.mem_append_left _ c)
    ·rw[List.mem_singleton.1 c];exact .inl hii
theorem Todo.done{l:List In}{seen:List Bool}(h:Todo l seen []):∀ i,seen.getD i false=(gOf l).rB i:=by
 intro i
 have hR:∀ j,(gOf l).R j->seen.getD j false=true:=by
  intro j hj
  induction hj with
  | zero=>exact h.zero.resolve_right (λ c=>by cases c)
  | step _ hs ih=>exact(h.on _ ih _ hs).resolve_right (λ c=>by cases c)
 cases hv:(gOf l).rB i with
 | true=>exact hR i (Fl.Fg.rB_iff.1 hv)
 | false =>
  cases hs:seen.getD i false with
  | false=>rfl
  | true=>rw[Fl.Fg.rB_iff.2 (h.in1 i hs)]at hv;cases hv
def fA(seen:List Bool):Nat:=seen.count false
theorem unseen_set:∀ {seen:List Bool} {i:Nat},i<seen.length->seen.getD i false=false->fA (seen.set i true)+1=fA seen
 | [],i,hi,_=>absurd hi (Nat.not_lt_zero _)
 | b :: l,0,_,h=>by
  have e:b=false:=by simpa using h
  subst e;simp[fA]
 | b :: l,i+1,hi,h=>by
  have:=unseen_set (seen:=l) (i:=i) (by simpa using hi) (by simpa using h);unfold fA at *;cases b <;> simp <;> omega
def aX(l:List Int):List Value:=l.map (Value.int .i64)
theorem gR(l:List Int):(aX l).length=l.length*1:=by simp[aX]
theorem intsV_one(l:List Int):∀ u∈aX l,u.oneCell'=true:=by
 intro u hu;obtain⟨k,_,rfl⟩:=List.mem_map.1 hu;rfl
theorem intsV_app(l m:List Int):aX (l ++ m)=aX l ++ aX m:=List.map_append ..
theorem cD{l:List Int}{i:Nat}(h:i<l.length):(aX l)[i]?=some (.int .i64 (l.getD i 0)):=by
 simp[aX,List.getElem?_eq_getElem h,List.getD]
theorem ints_src{W:World}{b off:Nat}{l:List Int}(h:NumsAt .i64 W (some ⟨b,off,none⟩) l):∀ j u,(aX l)[j]?=some u->W.cell? ((⟨b,off,none⟩:Addr).add j)=some u:=by
 intro j u hj;have hl:j<l.length:=by simpa[aX]using(List.getElem?_eq_some_iff.1 hj).1
 obtain⟨b',off',hq,_,e0⟩:=h.cells j hl;obtain⟨rfl,rfl⟩:b=b'/\off=off':=by injection hq with hq;injection hq with h1 h2;exact⟨h1,h2⟩
 have ea:(⟨b,off,none⟩:Addr).add j=⟨b,off+j,none⟩:=by
  unfold Addr.add;by_cases h0:j=0
  ·subst h0;rfl
  ·rw[if_neg h0]
 rw[ea,e0,<- cD hl];exact hj
theorem infoInt:(Tryz.prog.info? 3).map (λ i=>(i.zero,i.size,i.bytes))=some (some (.int .i64 0),1,8):=by kernel_rfl
theorem eX:(Tryz.prog.info? 4).map (λ i=>(i.zero,i.size,i.bytes))=some (some (.bool false),1,1):=by kernel_rfl
theorem app_ints{w:World}{base:Nat}{q:Option Addr}{xs l:List Int}{v:Value}(h1:w.ownsRow base 3 1 v l.length (aX l))(hs:NumsAt .i64 w q xs)(hb:base<=w.heap.size)(hm:l.length+xs.length<=1099511627776)(c:Nat) :
  ∃ v' w',(Builtin.append_ #[34,34] 34 #[v,.slice q xs.length c]).run Tryz.prog w=.ok v' w'/\w'.ownsRow base 3 1 v' (l ++ xs).length (aX (l ++ xs))/\w.grownBy w' v.ownBlock/\(v'.ownBlock=v.ownBlock∨v'.ownBlock=some w.heap.size):=by
 obtain⟨i5,h5,g5,s5,b5⟩:=info_parts infoInt;cases q with
 | none =>
  have e:xs=[]:=by
   cases xs with
   | nil=>rfl
   | cons x ys=>obtain⟨_,_,e,_⟩:=hs.cells 0 (by simp);cases e
  subst e
  have hr:(Builtin.append_ #[34,34] 34 #[v,.slice none 0 c]).run Tryz.prog w=.ok v w:=by
   rcases h1.2 with ⟨rfl,_⟩|⟨g,cap,cur,rfl,_,_,hnc,_⟩
   ·simp[Builtin.append_,run_underlying Tryz.underlying34,sizeOf,typeInfo,h5,Builtin.lenOf,Builtin.firstCells]
   ·simp[Builtin.append_,run_underlying Tryz.underlying34,sizeOf,typeInfo,h5,Builtin.lenOf,Builtin.firstCells,storeCells,hnc]
  refine⟨v,w,hr,?_,⟨rfl,rfl,rfl,Nat.le_refl _,λ _ _ _=>rfl⟩,.inl rfl⟩;rw[List.append_nil];exact h1
 | some ad =>
  have hsp:∃ b off,ad=⟨b,off,none⟩∨xs=[]:=by
   cases xs with
   | nil=>exact⟨0,0,.inr rfl⟩
   | cons x xs=>obtain⟨b,off,e,_⟩:=hs.cells 0 (by simp);injection e with e;exact⟨b,off,.inl e⟩
  have hsrc:∀ j u,(aX xs)[j]?=some u->w.cell? (ad.add j)=some u:=by
   obtain⟨b,off,rfl|rfl⟩:=hsp
   ·exact ints_src hs
   ·intro j u hj;simp[aX]at hj
  obtain⟨v',w',hrun,r1,r2,_,r4⟩:=run_append_own_at (P:=Tryz.prog) w base 34 34 3 i5 _ 1 8 Tryz.underlying34 h5 g5 s5 b5 rfl (by decide) v l.length (aX l) h1 ad xs.length c (aX xs) (gR xs) hsrc (intsV_one xs) (by simp only[maxLen];omega) (by omega) hb;rw[<- List.length_append,<- intsV_app]at r1;exact⟨v',w',hrun,r1,r2,r4⟩
theorem aZ{w:World}{ops:Array Oper}{rest:List Oper}{o:Oper}{a:Act}{Q:Exit->Act->World->Prop}(hg:o.guard=none)(s x:Operand)(hop:o.op=Op.call { callee:=Callee.builtin Builtin.append,args:=#[s,x],argTypes:=#[34,34] })(hty:o.type=34)
  (base:Nat) (q:Option Addr) (xs l:List Int) (v:Value) (n c:Nat) (hn:xs.length=n) (hs:a.eval s=v) (hx:a.eval x=.slice q n c) (h1:w.ownsRow base 3 1 v l.length (aX l)) (hN:NumsAt .i64 w q xs) (hb:base<=w.heap.size) (hm:l.length+xs.length<=1099511627776)
  (hK:∀ v' w',w'.ownsRow base 3 1 v' (l ++ xs).length (aX (l ++ xs))->w.grownBy w' v.ownBlock->(v'.ownBlock=v.ownBlock∨v'.ownBlock=some w.heap.size)->wpList Tryz.prog ops Q rest (a.put o.dst v') w') :
  wpList Tryz.prog ops Q (o :: rest) a w:=by
 subst hn;refine wpList_plain hg λ K hK'=>?_
 obtain⟨v',w',hrun,r1,r2,r3⟩:=app_ints h1 hN hb hm c;unfold Oper.wp;simp[execOp,hop,resolve,invoke,builtin,hs,hx,hty,hrun,Result.andThen];exact hK' _ _ (hK v' w' r1 r2 r3)
theorem own_pop{w:World}{base g cap:Nat}{l:List Int}{x:Int}{e:TypeId}(h:w.ownsRow base e 1 (.slice (some ⟨g,0,none⟩) (l ++ [x]).length cap) (l ++ [x]).length (aX (l ++ [x]))) :
  w.ownsRow base e 1 (.slice (some ⟨g,0,none⟩) l.length cap) l.length (aX l)/\w.cell? ⟨g,l.length,none⟩=some (.int .i64 x)/\l.length<cap:=by
 have hc:=h.cellAt l.length (by simp);have hv:(aX (l ++ [x]))[l.length]?=some (.int .i64 x):=by simp[aX]
 refine⟨?_,hc.trans hv,?_⟩
 ·refine⟨gR l,.inr ?_⟩
  rcases h.2 with ⟨h',_⟩|⟨g',cap',cur,h',hb,hg,h1,h2,h3,h4⟩
  ·cases h'
  ·simp only[Value.slice.injEq,Option.some.injEq,Addr.mk.injEq,and_true,true_and]at h'
   obtain⟨rfl,rfl⟩:=h';refine⟨g,cap,cur,rfl,hb,hg,by simp at h1;omega,h2,h3,?_⟩;have:=congrArg (List.take l.length) h4;rw[List.take_take]at this;simp[aX]at this;simpa[aX]using this
 ·rcases h.2 with ⟨h',_⟩|⟨g',cap',cur,h',hb,hg,h1,h2,h3,h4⟩
  ·cases h'
  ·simp only[Value.slice.injEq,Option.some.injEq,Addr.mk.injEq,and_true,true_and]at h'
   obtain⟨rfl,rfl⟩:=h';simp at h1;omega
theorem dZ{w:World}{base n:Nat}{e:TypeId}{v:Value}{xs:List Value}(h:w.ownsRow base e 1 v n xs)(hn:0<n):∃ g cap,v=.slice (some ⟨g,0,none⟩) n cap/\base<=g/\g<w.heap.size:=by
 rcases h.2 with ⟨_,h0⟩|⟨g,cap,cur,hv,hb,hg,_⟩
 ·omega
 ·exact⟨g,cap,hv,hb,(Array.getElem?_eq_some_iff.1 hg).1⟩
theorem cA{w:World}{base c:Nat}{q:Option Addr}{l:List Int}(h:w.ownsRow base 3 1 (.slice q l.length c) l.length (aX l))(hs:l.length<=140737488351232):NumsAt .i64 w q l:=by
 refine⟨hs,λ i hi=>?_⟩;obtain⟨g,cap,e,_,hg⟩:=dZ h (by omega);injection e with e1 e2 e3
 subst e1;exact⟨g,0,rfl,hg,by rw[Nat.zero_add,h.cellAt i (by omega)];exact cD hi⟩
structure Rb(W:World)(g:Nat)(l:List Bool):Prop where
 lt:g<W.heap.size
 cell:∀ i,i<l.length->W.cell? ⟨g,i,none⟩=some (.bool (l.getD i false))
 fr:∀ j,W.frozen? ⟨g,j,none⟩=false
theorem Rb.next{W W':World}{g:Nat}{l:List Bool}(h:Rb W g l)(hb:Below W.heap.size W W'):Rb W' g l :=
 ⟨Nat.lt_of_lt_of_le h.lt hb.size,λ i hi=>(hb.cell (p:=⟨g,i,none⟩) h.lt).trans (h.cell i hi),λ j=>(hb.frozen (p:=⟨g,j,none⟩) h.lt).trans (h.fr j)⟩
theorem Rb.grown{W W':World}{g:Nat}{l:List Bool}{row:Option Nat}(h:Rb W g l)(hg:W.grownBy W' row)(hn:row≠some g):Rb W' g l:=by
 have hb:=hg.block g h.lt (λ e=>hn e.symm);exact⟨Nat.lt_of_lt_of_le h.lt hg.size,λ i hi=>(World.cell?_of_block (a:=⟨g,i,none⟩) hb).trans (h.cell i hi),λ j=>(World.frozen?_of_block (a:=⟨g,j,none⟩) hb).trans (h.fr j)⟩
theorem Rb.set{W:World}{g k:Nat}{l:List Bool}(h:Rb W g l)(hk:k<l.length):Rb (W.setCell ⟨g,k,none⟩ (.bool true)) g (l.set k true):=by
 refine⟨by simpa[World.setCell]using h.lt,λ i hi=>?_,λ j=>(World.frozen?_setCell ..).trans (h.fr j)⟩;rw[List.length_set]at hi;rw[cU];by_cases e:i=k
 ·subst e
  simp only[hi,and_self,decide_true,Bool.true_or];exact World.cell?_setCell_same _ _ _ (h.cell i hi)
 ·simp only[e,false_and,decide_false,Bool.false_or]
  exact(World.cell?_setCell_other _ _ _ _ (λ e'=>e (congrArg Addr.off e').symm)).trans (h.cell i hi)
theorem aP{W:World}{base e size n:Nat}{v u:Value}{xs:List Value}{a:Addr}(h:W.ownsRow base e size v n xs)(hm:v.ownBlock≠some a.block):(W.setCell a u).ownsRow base e size v n xs :=
 h.kept (row:=some a.block) ⟨rfl,rfl,rfl,by simp[World.setCell],λ k _ hk=>Below.heap_setCell W a u k (λ e=>hk (by rw[e]))⟩ (.inr hm)
structure Rs(w wr:World)(g:Nat)(seen:List Bool)(T:List Int)(q:Option Addr)(c:Nat):Prop where
 low:Below w.heap.size w wr
 sn:Rb wr g seen
 gb:w.heap.size<=g
 td:wr.ownsRow w.heap.size 3 1 (.slice q T.length c) T.length (aX T)
 ap:q.map Addr.block≠some g
theorem Rs.next{w W W':World}{g:Nat}{seen:List Bool}{T:List Int}{q:Option Addr}{c:Nat}(h:Rs w W g seen T q c)(hb:Below W.heap.size W W'):Rs w W' g seen T q c :=
 ⟨dG h.low hb,h.sn.next hb,h.gb,own_below h.td hb,h.ap⟩
theorem rreach_no(q:Option Addr)(qc:Nat)(l:List In)(w:World)(h:InsAt w q l)(hc:¬ (aS l).2=0) :
  Calls Tryz.prog 28 #[.slice q l.length qc] w λ e w'=>e=.returned (.slice none 0 0)/\Below w.heap.size w w':=by
 have HC:=aQ (dP q qc l w h);unfold fV at HC;have hne:((aS l).2 != 0)=true:=by simpa using hc
 generalize (aS l).2=e1 at *;generalize (aS l).1=e0 at *;generalize l.length=N at *;clear h;go_enter Tryz.func28,Tryz.ntmps28
 go_wp2_with (go_at_call 8;(with_reducible refine HC.out.mono ?_);rintro e w1 ⟨rfl,hb⟩;have B1:=aQ hb;clear hb)
 go_ret;exact⟨rfl,B1.out⟩
theorem cH(q:Option Addr)(len cap C:Nat)(h:C<=cap)(w:World) :
  (Instr.sliceAt 34 (.slice q len cap) none (some (.int .i64 C)) none).run Tryz.prog w=.ok (.slice q C cap) w/\(Instr.slice 34 (.slice q len cap) none (some (.int .i64 C)) none).run Tryz.prog w=.ok (.slice q C cap) w:=by
 have e:(Instr.slice 34 (.slice q len cap) none (some (.int .i64 C)) none).run Tryz.prog w=.ok (.slice q C cap) w:=by
  rw[run_slice_h w 34 q len cap Tryz.underlying34 .i64 C (by omega) (by omega)];have hz:(sizeOf (Tryz.prog.elem 34)).run Tryz.prog w=.ok 1 w:=by kernel_rfl
  rw[hz];have hq:q.map (·.add 0)=q:=by cases q <;> simp[Addr.add]
  simp[sliced,hq]
 exact⟨(run_sliceAt_slice w 34 _ _ _ _ Tryz.underlying34).trans e,e⟩
theorem aW{w:World}{base e size:Nat}{v:Value}{n:Nat}{xs:List Value}(h:w.ownsRow base e size v n xs):∃ q c,v=.slice q n c:=by
 rcases h.2 with ⟨rfl,rfl⟩|⟨g,cap,cur,rfl,_⟩
 ·exact⟨none,0,rfl⟩
 ·exact⟨_,_,rfl⟩
theorem aH(q:Option Addr)(n c:Nat):(Value.slice q n c).ownBlock=q.map Addr.block:=by
 cases q <;> rfl
theorem Rs.app{w W W':World}{g:Nat}{seen:List Bool}{T xs:List Int}{q q':Option Addr}{n m c c':Nat}(h:Rs w W g seen T q c)(hn:T.length=n)(ho:W'.ownsRow w.heap.size 3 1 (.slice q' m c') (T ++ xs).length (aX (T ++ xs)))(hm:(T ++ xs).length=m)(hg:W.grownBy W' (Value.slice q n c).ownBlock)(hb:(Value.slice q' m c').ownBlock=(Value.slice q n c).ownBlock∨(Value.slice q' m c').ownBlock=some W.heap.size):Rs w W' g seen (T ++ xs) q' c':=by
 subst hn hm;rw[aH]at hg;rw[aH,aH]at hb;refine⟨h.low.grown hg h.low.size (λ k hk=>?_),h.sn.grown hg h.ap,h.gb,ho,λ e=>?_⟩
 ·exact(h.td.lt k (by rw[aH];exact hk)).1
 ·rcases hb with e2|e2
  ·exact h.ap (e2.symm.trans e)
  ·rw[e]at e2
   have:=h.sn.lt;injection e2 with e2
   omega
theorem Rs.see{w W:World}{g i:Nat}{seen:List Bool}{T:List Int}{q:Option Addr}{c:Nat}(h:Rs w W g seen T q c)(hi:i<seen.length):Rs w (W.setCell ⟨g,i,none⟩ (.bool true)) g (seen.set i true) T q c :=
 ⟨h.low.setCell (p:=⟨g,i,none⟩) h.gb _,h.sn.set hi,h.gb,aP h.td (by rw[aH];exact h.ap),h.ap⟩
theorem Rs.pop{w W:World}{g g6 n:Nat}{seen:List Bool}{T:List Int}{x:Int}{c:Nat}(h:Rs w W g seen (T ++ [x]) (some ⟨g6,0,none⟩) c)(hn:T.length=n)(ho:W.ownsRow w.heap.size 3 1 (.slice (some ⟨g6,0,none⟩) n c) n (aX T)):Rs w W g seen T (some ⟨g6,0,none⟩) c:=by
 subst hn;exact⟨h.low,h.sn,h.gb,ho,h.ap⟩
theorem su_int{l:List In}(hc:(aS l).2=0){i:Nat}(hi:(gOf l).R i):bG l (i:Int)=((gOf l).su i).map Int.ofNat:=by
 obtain⟨h1,h2⟩:=hi.ok (bJ hc);have hp:=may_place (cW hc).2.2 (gK.2 ⟨h1,h2⟩);show bG l (i:Int)=((bG l (i:Int)).map Int.toNat).map Int.ofNat;rw[List.map_map]
 conv=>lhs;rw[<- List.map_id (bG l (i:Int))]
 refine List.map_congr_left λ n hn=>?_
 have:=(bT.1 (hp n hn)).1.1;show n=((n.toNat:Nat):Int);omega
noncomputable def rK(l:List In)(k:Nat):List Int:=((List.range k).filter (gOf l).rB).map Int.ofNat
theorem rK_yes{l:List In}{k:Nat}(h:(gOf l).rB k=true):rK l (k+1)=rK l k ++ [(k:Int)]:=by
 unfold rK;rw[List.range_succ,List.filter_append,List.map_append,List.filter_cons_of_pos h];rfl
theorem rK_no{l:List In}{k:Nat}(h:(gOf l).rB k=false):rK l (k+1)=rK l k:=by
 unfold rK;rw[List.range_succ,List.filter_append,List.map_append,List.filter_cons_of_neg (by rw[h];simp)];simp
theorem rK_len(l:List In)(k:Nat):(rK l k).length<=k:=by
 unfold rK;have:=List.length_filter_le (gOf l).rB (List.range k);simpa using this
def leftR(seen:List Bool)(T:List Int):Nat:=3*fA seen+T.length
theorem Rs.start{w w1:World}(N:Nat)(hb:Below w.heap.size w w1) :
  Rs w ((w1.alloc (.cells (madeCells #[.bool false] N) 4)).alloc (.cells #[.int .i64 0] 3)) w1.heap.size (List.replicate N false) [0] (some ⟨w1.heap.size+1,0,none⟩) 1:=by
 refine⟨(hb.alloc hb.size _).alloc (by simp;have:=hb.size;omega) _,?_,hb.size,?_,by simp⟩
 ·have h:Rb (w1.alloc (.cells (madeCells #[.bool false] N) 4)) w1.heap.size (List.replicate N false):=by
   refine⟨by simp,λ i hi=>?_,λ j=>World.frozen?_alloc_new _ _ _ j⟩;have hi':i<N:=by simpa using hi
   refine aJ w1 ?_;rw[List.getD_eq_getElem?_getD,List.getElem?_replicate,if_pos hi'];simp[madeCells,hi',Nat.mod_one]
  exact h.next ((Below.refl _ _).alloc (Nat.le_refl _) _)
 ·have h:=World.ownsRow_lit (base:=w.heap.size) (e:=3) (size:=1) (w1.alloc (.cells (madeCells #[.bool false] N) 4)) #[.int .i64 0] 1 (by simp;have:=hb.size;omega) (by decide) rfl
  rw[World.size_alloc]at h;exact h
theorem rreach_yes(q:Option Addr)(qc:Nat)(l:List In)(w:World)(h:InsAt w q l)(hc:(aS l).2=0) :
  Calls Tryz.prog 28 #[.slice q l.length qc] w λ e w'=>∃ p c,e=.returned (.slice p (cK l).length c)/\NumsAt .i64 w' p (cK l)/\Below w.heap.size w w':=by
 have HC:=aQ (dP q qc l w h);unfold fV at HC;rw[hc]at HC;have HG:=aQ (bJ hc);have hN:=(cW hc).1;have HSU:=aQ (λ (i:Int) (W:World) (hb:Below w.heap.size w W)=>rsucc_any q qc l i W (h.below hb));unfold SuccP at HSU;have HT0:=aQ (Todo.start l);have HCK:=aQ hc;have HSI:=aQ (λ (i:Nat) (hi:(gOf l).R i)=>su_int hc hi);have hsl1:=λ (q:Option Addr) (len cap C:Nat) (h:C<=cap) W=>(cH q len cap C h W).1
 have hsl2:=λ (q:Option Addr) (len cap C:Nat) (h:C<=cap) W=>(cH q len cap C h W).2
 have HLN:Hid (∀ seen todo,Todo l seen todo->seen.length=l.length):=aQ (λ _ _ h=>h.len);generalize (aS l).1=e0 at *;obtain⟨N,hNl⟩:∃ N,l.length=N:=⟨_,rfl⟩;have HNL:=aQ hNl;rw[hNl]at HC HSU hN HT0 ⊢;clear h hc hNl;have hmk:=λ W=>run_make_row' (P:=Tryz.prog) 91 4 (.bool false) 1 Tryz.underlying91 eX rfl .i64 .i64 N (by omega) (by omega) W
 go_enter Tryz.func28,Tryz.ntmps28
 go_wp2_with (go_at_call 8;(with_reducible refine HC.out.mono ?_);rintro e w1 ⟨rfl,hb⟩;have HS:=aQ (Rs.start N hb);clear hb)
 go_loopg [6] (leftR (List.replicate N false) [0]) (λ k t wr=>∃ (seen:List Bool) (td:List Nat) (T:List Int) (p:Option Addr) (c:Nat),t=.slice p T.length c/\Hid (T=td.map Int.ofNat)/\Hid (Todo l seen td)/\Hid (leftR seen T<=k/\k<=3*N+1)/\Rs w wr w1.heap.size seen T p c)
 case atStart=>exact⟨List.replicate N false,[0],[0],some ⟨w1.heap.size+1,0,none⟩,1,rfl,aQ rfl,HT0,aQ ⟨Nat.le_refl _,by simp[leftR,fA]⟩,HS.out⟩
 case round =>
  clear HS HT0;obtain⟨seen,td,T,p,c,rfl,HTd,HTo,HK,hs⟩:=hrel;have HS:=aQ hs;by_cases hT:T.length=0
  ·obtain rfl:T=[]:=List.eq_nil_of_length_eq_zero hT
   obtain rfl:td=[]:=by have:=HTd.out;simpa using this.symm
   have HD:=aQ HTo.out.done;have hsl:seen.length=N:=by rw[HLN.out _ _ HTo.out,HNL.out]
   have HSL:=aQ hsl;clear hs hT hsl;rw[show([]:List Int).length=0 from rfl];go_wp2_with fail
   go_loopw [8,9] (λ o i wr=>∃ (k:Nat) (p:Option Addr) (c:Nat),k<=N/\i=.int .i64 (k:Int)/\o=.slice p (rK l k).length c/\Rs w wr w1.heap.size seen (rK l k) p c) (λ _ i _=>N - (intOf i).toNat)
   case atStart=>exact⟨0,none,0,Nat.zero_le _,rfl,rfl,HS.out.low,HS.out.sn,HS.out.gb,World.ownsRow_nil _ _ _ _,by simp⟩
   case round =>
    clear HS;obtain⟨k,p9,c9,hk1,rfl,rfl,hs⟩:=hrel;have HS:=aQ hs;by_cases hk:k<N
    ·have hsc:=hs.sn.cell k (by rw[HSL.out];exact hk)
     have hlt:=hs.sn.lt;rw[HD.out k]at hsc;cases hv:(gOf l).rB k with
     | true =>
      rw[hv]at hsc;have HE:Hid (rK l (k+1)=rK l k ++ [(k:Int)]):=aQ (rK_yes hv);have HLE:=aQ (rK_len l k);have HN9:=aQ (λ W=>bH (k:=.i64) W 3 [(k:Int)] #[.int .i64 (k:Int)] rfl (by simp));clear hs hv;go_wp2_with (at_builtin;refine aZ rfl (.tmp 58) (.tmp 60) rfl rfl w.heap.size (some ⟨wr.heap.size,0,none⟩) [(k:Int)] (rK l k) (.slice p9 (rK l k).length c9) 1 1 rfl rfl rfl (own_below HS.out.td ((Below.refl _ _).alloc (Nat.le_refl _) _)) (HN9.out _) (by have:=HS.out.low.size;simp;omega) (by have:=HLE.out;simp;omega) ?_;intro v8 w8 ho8 hg8 hb8;obtain⟨q8,c8,rfl⟩:=aW ho8;have HR8:=aQ (Rs.app (HS.out.next ((Below.refl _ _).alloc (Nat.le_refl _) _)) rfl ho8 rfl hg8 hb8);clear ho8 hg8 hb8)
      go_roundw
      case rel=>exact⟨k+1,q8,c8,by omega,rfl,by rw[HE.out];simp,by rw[HE.out];exact HR8.out⟩
      case measure=>simp[intOf];omega
     | false =>
      rw[hv]at hsc;have HE:Hid (rK l (k+1)=rK l k):=aQ (rK_no hv);clear hs hv;go_wp2_with fail
      go_roundw
      case rel=>exact⟨k+1,p9,c9,by omega,rfl,by rw[HE.out],by rw[HE.out];exact HS.out⟩
      case measure=>simp[intOf];omega
    ·obtain rfl:N=k:=by omega
     have HE:Hid (cK l=rK l N):=aQ (by rw[dS HCK.out,<- HNL.out];rfl);have HLE:=aQ (rK_len l N);clear hs;go_wp2_with fail
     go_ret;refine⟨p9,c9,by rw[HE.out];rfl,?_,HS.out.low⟩;rw[HE.out];exact cA HS.out.td (by have:=HLE.out;omega)
  ·obtain⟨T',x,hTx⟩:∃ T' x,T=T' ++ [x]:=by
    rcases List.eq_nil_or_concat T with e|⟨T',x,e⟩
    ·rw[e]at hT;exact absurd rfl hT
    ·exact⟨T',x,by simpa using e⟩
   subst hTx;clear hT
   obtain⟨td',i,htd⟩:∃ (td':List Nat) (i:Nat),td=td' ++ [i]/\T'=td'.map Int.ofNat/\x=(i:Int):=by
    have e:=HTd.out;rcases List.eq_nil_or_concat td with c|⟨td',i,c⟩
    ·rw[c]at e;simp at e
    ·rw[c]at e
     have e':T' ++ [x]=td'.map Int.ofNat ++ [(i:Int)]:=by simpa using e
     obtain⟨e1,e2⟩:=List.append_inj' e' rfl;exact⟨td',i,by simpa using c,e1,by simpa using e2⟩
   obtain⟨rfl,hT',rfl⟩:=htd;obtain⟨g6,cap,hv,hg1,hg2⟩:=dZ hs.td (by simp);injection hv with hv1 hv2 hv3
   subst hv1 hv3;obtain⟨o1,o2,o3⟩:=own_pop hs.td;have HO:=aQ o1;have hTl:(T' ++ [(i:Int)]).length=T'.length+1:=by simp
   have hn6:¬ g6=w1.heap.size:=λ e=>hs.ap (by rw[e];rfl)
   have HKl:=HK.out;unfold leftR at HKl;have hTN:T'.length<=12289:=by simp at HKl;omega
   have hiN:i<N:=by have:=(Todo.new HG.out HTo.out).1;rw[HNL.out]at this;exact this
   have hsl:seen.length=N:=by rw[HLN.out _ _ HTo.out,HNL.out]
   have hsc:=hs.sn.cell i (by omega);have hfr:=hs.sn.fr;have hlt:=hs.sn.lt;rw[hTl];have HT':=aQ hT';have HTn:Hid (T'.length=T'.length):=aQ rfl;clear HKl hTl hv2 hT';obtain⟨n6,hn6'⟩:∃ n,T'.length=n:=⟨_,rfl⟩;rw[hn6']at HO o2 o3 hTN ⊢;have HN6:=aQ hn6';clear hn6' HTn o1;have hK2:=HK.out;cases hv:seen.getD i false with
   | true =>
    rw[hv]at hsc;have HV:=aQ hv;clear hs hv hK2;go_wp2_with fail
    go_roundg (leftR seen T')
    case measure=>have:=HK.out.1;unfold leftR at *;simp at this;omega
    case rel=>exact⟨seen,td',T',some ⟨g6,0,none⟩,c,by rw[HN6.out],HT',aQ (HTo.out.old HV.out),aQ ⟨Nat.le_refl _,by have:=HK.out;unfold leftR at *;simp at this;omega⟩,HS.out.pop HN6.out HO.out⟩
   | false =>
    rw[hv]at hsc;have HV:=aQ hv;have HR5:=aQ ((HS.out.pop HN6.out HO.out).see (i:=i) (by omega));have HRi:Hid ((gOf l).R i):=aQ (HTo.out.in2 i (by simp));have HL2:=aQ (dT l (i:Int));have HU:Hid (fA (seen.set i true)+1=fA seen):=aQ (unseen_set (by omega) hv);clear hs hv hK2
    go_wp2_with (first
     | (go_at_call 22;(with_reducible refine(HSU.out (i:Int) _ HR5.out.low).mono ?_);rintro e w3 ⟨p3,c3,rfl,hn3,hb3⟩;have HR6:=aQ (HR5.out.next hb3);have HN3:=aQ hn3;clear hb3 hn3)
     | (at_builtin;refine aZ rfl (.tmp 43) (.tmp 46) rfl rfl w.heap.size p3 (bG l (i:Int)) T' (.slice (some ⟨g6,0,none⟩) n6 c) (bG l (i:Int)).length c3 rfl rfl rfl (HN6.out ▸ HR6.out.td) HN3.out HR6.out.low.size (by have:=HL2.out;have:=HN6.out;omega) ?_;intro v8 w8 ho8 hg8 hb8;obtain⟨q8,c8,rfl⟩:=aW ho8;have HR8:=aQ (Rs.app HR6.out HN6.out ho8 rfl hg8 hb8);clear ho8 hg8 hb8))
    go_roundg (leftR (seen.set i true) (T' ++ bG l (i:Int)))
    case measure=>have:=HK.out.1;have:=HU.out;have:=HL2.out;unfold leftR at *;simp at *;omega
    case rel=>exact⟨seen.set i true,td' ++ (gOf l).su i,T' ++ bG l (i:Int),q8,c8,by simp,aQ (by rw[HT'.out,HSI.out i HRi.out,List.map_append]),aQ (HTo.out.new HG.out).2,aQ ⟨Nat.le_refl _,by have:=HK.out;have:=HU.out;have:=HL2.out;unfold leftR at *;simp at *;omega⟩,HR8.out⟩
theorem rreach_any(q:Option Addr)(qc:Nat)(l:List In)(w:World)(h:InsAt w q l) :
  Calls Tryz.prog 28 #[.slice q l.length qc] w λ e w'=>∃ p c,e=.returned (.slice p (cK l).length c)/\NumsAt .i64 w' p (cK l)/\Below w.heap.size w w':=by
 by_cases hc:(aS l).2=0
 ·exact rreach_yes q qc l w h hc
 ·refine(rreach_no q qc l w h hc).mono ?_
  rintro e w' ⟨rfl,hb⟩;rw[reachI_no hc];exact⟨none,0,rfl,gO _ _,hb⟩
theorem rjumps_any(x:In)(hx:Bd x)(w:World):Calls Tryz.prog 31 #[.agg #[.int .i64 x.op,.int .i64 x.dst,.int .i64 x.src,.int .i64 x.off,.int .i64 x.imm,.int .u64 x.wide]] w λ e w'=>e=.returned (.bool (jB x))/\Below w.heap.size w w':=by
 have hj:=λ W=>rjump_any x.op W hx.op.1 hx.op.2
 unfold JmpP at hj;have he:jB x=(jmpB x.op || (x.op == 5)):=rfl;rw[he];clear he hx;obtain⟨x0,x1,x2,x3,x4,x5⟩:=x;dsimp only at hj ⊢;generalize (jmpB x0 && decide (x0 % 8=5))=b at *;generalize (if jmpB x0=true then x0 - x0 % 16 else 0)=c at *;generalize jmpB x0=g at *;have HJ:=aQ hj;clear hj;cases g with
 | true =>
  rw[Bool.true_or];go_enter Tryz.func31,Tryz.ntmps31
  go_wp2_with (go_at_call 60;(with_reducible refine(HJ.out _).mono ?_);rintro e w1 ⟨rfl,rfl⟩)
  go_ret;exact⟨rfl,(Below.refl _ _).alloc (Nat.le_refl _) _⟩
 | false =>
  rw[Bool.false_or];go_enter Tryz.func31,Tryz.ntmps31
  go_wp2_with (go_at_call 60;(with_reducible refine(HJ.out _).mono ?_);rintro e w1 ⟨rfl,rfl⟩)
  go_ret;exact⟨rfl,(Below.refl _ _).alloc (Nat.le_refl _) _⟩
theorem rnext_any(q:Option Addr)(qc:Nat)(l:List In)(i:Nat)(hi:i<l.length)(w:World)(h:InsAt w q l):Calls Tryz.prog 30 #[.slice q l.length qc,.int .i64 (i:Int)] w λ e w'=>e=.returned (.int .i64 ((nxI (l.getD i z) i:Nat):Int))/\w=w':=by
 have hs:=h.small;obtain⟨b,off,rfl,hb,c0,_⟩:=h.cells i hi;generalize l.length=N at *;unfold nxI;clear h;by_cases h24:(l.getD i z).op=24
 ·rw[if_pos h24]
  rw[h24]at c0;clear h24;go_enter Tryz.func30,Tryz.ntmps30
  go_wp2
  go_ret;exact⟨rfl,rfl⟩
 ·rw[if_neg h24]
  have hne:((l.getD i z).op == 24)=false:=by simpa using h24
  generalize (l.getD i z).op=o at *;clear h24;go_enter Tryz.func30,Tryz.ntmps30
  go_wp2
  go_ret;exact⟨rfl,rfl⟩
theorem rhas_any(q:Option Addr)(qc:Nat)(l:List Int)(x:Int)(w:World)(h:NumsAt .i64 w q l):Calls Tryz.prog 33 #[.slice q l.length qc,.int .i64 x] w λ e w'=>e=.returned (.bool (decide (x∈l)))/\w=w':=by
 have hs:=h.small
 have HT:Hid (∀ i,i<l.length->l.getD i 0=x->decide (x∈l)=true):=aQ (λ i hi e=>by
  rw[decide_eq_true_eq,<- e,List.getD_eq_getElem?_getD,List.getElem?_eq_getElem hi];exact List.getElem_mem hi)
 have HF:Hid ((∀ i,i<l.length->l.getD i 0≠x)->decide (x∈l)=false):=aQ (λ hf=>by
  rw[decide_eq_false_iff_not];intro hm;obtain⟨i,hi,e⟩:=List.getElem_of_mem hm;exact hf i hi (by rw[List.getD_eq_getElem?_getD,List.getElem?_eq_getElem hi];exact e))
 have HC:=aQ h.cells;generalize decide (x∈l)=g at *;obtain⟨N,hN⟩:∃ N,l.length=N:=⟨_,rfl⟩;rw[hN]at hs HT HF HC ⊢;clear h hN;go_enter Tryz.func33,Tryz.ntmps33
 go_wp2
 go_loop [5] (λ i=>∃ k:Nat,k<=N/\i=.int .i64 (k:Int)/\Hid (∀ j,j<k->l.getD j 0≠x)) (λ i=>N - (intOf i).toNat)
 case atStart=>exact⟨0,Nat.zero_le _,rfl,aQ (λ j hj=>absurd hj (Nat.not_lt_zero _))⟩
 case round =>
  obtain⟨k,hk1,rfl,HK⟩:=hrel;by_cases hk:k<N
  ·obtain⟨b,off,rfl,hb,c0⟩:=HC.out k hk
   have HT':=aQ (HT.out k hk);generalize hy:l.getD k 0=y at *;by_cases hyx:y=x
   ·have HG:=aQ (HT'.out hyx)
    subst hyx;clear HT';have HY:=aQ hy;clear hy;go_wp2
    go_ret;rw[HG.out];exact⟨rfl,rfl⟩
   ·have hb2:(y == x)=false:=by simpa using hyx
    have HK':Hid (∀ j,j<k+1->l.getD j 0≠x):=aQ (λ j hj=>by
     by_cases e:j=k
     ·rw[e,hy];exact hyx
     ·exact HK.out j (by omega))
    clear HT' hy;go_wp2
    go_round
    case rel=>exact⟨k+1,by omega,rfl,HK'⟩
    case measure=>simp[intOf];omega
  ·obtain rfl:N=k:=by omega
   have HG:=aQ (HF.out HK.out);go_wp2
   go_ret;rw[HG.out];exact⟨rfl,rfl⟩
end Go.Proofs.YtkfahppdklecdaaGreatDoor
