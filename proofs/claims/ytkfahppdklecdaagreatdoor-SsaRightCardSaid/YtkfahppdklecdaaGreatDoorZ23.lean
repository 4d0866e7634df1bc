import Derived.Test.YtkfahppdklecdaaGreatDoorZ22
import Derived.Test.YtkfahppdklecdaaGreatDoorZ21
set_option maxRecDepth 100000
set_option maxHeartbeats 16000000
namespace Go.Proofs.YtkfahppdklecdaaGreatDoor
open Go.RowKit M
theorem own_empty(W:World){base:Nat}(hb:base<=W.heap.size):(W.alloc (.cells #[] 3)).ownsRow base 3 1 (.slice (some ⟨W.heap.size,0,none⟩) 0 0) 0 [] :=
 ⟨rfl,.inr ⟨W.heap.size,0,#[],rfl,hb,dL W _,Nat.le_refl _,Nat.zero_le _,rfl,rfl⟩⟩
theorem own_empty'(W:World){base n:Nat}(hn:W.heap.size=n)(hb:base<=n):(W.alloc (.cells #[] 3)).ownsRow base 3 1 (.slice (some ⟨n,0,none⟩) 0 0) ([]:List Int).length (aX []):=by
 subst hn;exact own_empty W hb
def NumsR(l:List Int)(w:World)(e:Ending)(w':World):Prop :=
 ∃ p c,e=.returned (.slice p l.length c)/\NumsAt .i64 w' p l/\Below w.heap.size w w'
theorem fZ{W:World}{t:TypeId}(xs:List Int){n:Nat}(hn:W.heap.size=n){cs:Array Value}(hc:cs=(xs.map (Value.int .i64)).toArray)(hs:xs.length<=4096):NumsAt .i64 (W.alloc (.cells cs t)) (some ⟨n,0,none⟩) xs:=by
 subst hn;exact bH W t xs cs hc hs
theorem rendsT_any(e:Te)(w:World):Calls Tryz.prog 73 #[.agg #[.int .i64 e.op,.int .i64 e.cond,.bool e.wide,.int .i64 e.a,.int .i64 e.b,.int .i64 e.to',.int .i64 e.els]] w (NumsR (eJ e) w):=by
 have HQ:Hid (∀ L W p n,eJ e=L->L.length=n->NumsAt .i64 W p L->Below w.heap.size w W->NumsR (eJ e) w (.returned (.slice p n n)) W):=aQ (λ L W p n h1 h2 h3 h4=>by
  rw[h1];subst h2;exact⟨p,_,rfl,h3,h4⟩)
 have H1:Hid (e.op=2->eJ e=[e.a,e.b]):=aQ (λ h=>by unfold eJ;rw[if_pos h]);have H2:Hid (¬ e.op=2->e.op=3->eJ e=[e.a]):=aQ (λ h h'=>by unfold eJ;rw[if_neg h,if_pos h']);have H3:Hid (¬ e.op=2->¬ e.op=3->eJ e=[]):=aQ (λ h h'=>by unfold eJ;rw[if_neg h,if_neg h']);generalize NumsR (eJ e) w=Q at *;generalize eJ e=L at *;generalize e.op=eo at *;generalize e.cond=ec at *;generalize e.wide=ew at *;generalize e.a=ea at *;generalize e.b=eb at *;generalize e.to'=et at *;generalize e.els=ee at *;by_cases h2:eo=2
 ·have HE:=aQ (H1.out h2)
  subst h2;clear H1 H2 H3;go_enter Tryz.func73,Tryz.ntmps73
  go_wp2_with fail
  exact HQ.out [ea,eb] _ _ 2 HE.out rfl (fZ _ (by simp) rfl (by simp)) b2
 ·by_cases h3:eo=3
  ·have HE:=aQ (H2.out h2 h3)
   subst h3;clear H1 H2 H3 h2;go_enter Tryz.func73,Tryz.ntmps73
   go_wp2_with fail
   exact HQ.out [ea] _ _ 1 HE.out rfl (fZ _ (by simp) rfl (by simp)) b2
  ·have HE:=aQ (H3.out h2 h3)
   have b2':(eo == 2)=false:=by simpa using h2
   have b3':(eo == 3)=false:=by simpa using h3
   clear H1 H2 H3;go_enter Tryz.func73,Tryz.ntmps73
   go_wp2_with fail
   exact HQ.out [] _ _ 0 HE.out rfl (gO _ _) b1
theorem ruses_any(n:Nd)(q:Option Addr)(c:Nat)(w:World)(h:NumsAt .i64 w q n.args)(hs:n.args.length<=4096):Calls Tryz.prog 72 #[.agg #[.int .i64 n.op,.int .i64 n.id,.int .i64 n.alu,.bool n.wide,.int .i64 n.a,.int .i64 n.b,.int .u64 n.imm,.int .i64 n.size,.int .i64 n.off,.bool n.guard,.slice q n.args.length c,.int .i64 n.at']] w (NumsR (dD n) w):=by
 have HQ:Hid (∀ L W p n',dD n=L->L.length=n'->NumsAt .i64 W p L->Below w.heap.size w W->NumsR (dD n) w (.returned (.slice p n' n')) W):=aQ (λ L W p n h1 h2 h3 h4=>by
  rw[h1];subst h2;exact⟨p,_,rfl,h3,h4⟩)
 have HQ7:Hid (∀ W p c' k,dD n=n.args->n.args.length=k->NumsAt .i64 W p n.args->Below w.heap.size w W->NumsR (dD n) w (.returned (.slice p k c')) W):=aQ (λ W p c' k h1 h2 h3 h4=>by
  rw[h1];subst h2;exact⟨p,_,rfl,h3,h4⟩)
 have HN:=aQ (λ W (hb:Below w.heap.size w W)=>h.below hb);have H1:Hid (n.op=4∨n.op=6->dD n=[n.a,n.b]):=aQ (λ h=>by unfold dD;rw[if_pos h]);have H2:Hid (n.op=5->dD n=[n.a]):=aQ (λ h=>by unfold dD;rw[if_neg (by omega),if_pos h]);have H3:Hid (n.op=7->dD n=n.args):=aQ (λ h=>by unfold dD;rw[if_neg (by omega),if_neg (by omega),if_pos h]);have H4:Hid (¬ (n.op=4∨n.op=6)->¬ n.op=5->¬ n.op=7->dD n=[]):=aQ (λ h h1 h2=>by unfold dD;rw[if_neg h,if_neg h1,if_neg h2]);generalize NumsR (dD n) w=Q at *;generalize dD n=L at *;generalize n.op=eo at *;generalize n.id=n1 at *;generalize n.alu=n2 at *;generalize n.wide=n3 at *;generalize n.a=na at *;generalize n.b=nb at *;generalize n.imm=n6 at *;generalize n.size=n7 at *;generalize n.off=n8 at *;generalize n.guard=n9 at *;generalize n.at'=n11 at *;generalize n.args=A at *;clear h;by_cases h4:eo=4
 ·have HE:=aQ (H1.out (.inl h4))
  subst h4;clear H1 H2 H3 H4;go_enter Tryz.func72,Tryz.ntmps72
  go_wp2_with fail
  exact HQ.out [na,nb] _ _ 2 HE.out rfl (fZ _ (by simp) rfl (by simp)) b2
 ·by_cases h6:eo=6
  ·have HE:=aQ (H1.out (.inr h6))
   subst h6;clear H1 H2 H3 H4 h4;go_enter Tryz.func72,Tryz.ntmps72
   go_wp2_with fail
   exact HQ.out [na,nb] _ _ 2 HE.out rfl (fZ _ (by simp) rfl (by simp)) b2
  ·by_cases h5:eo=5
   ·have HE:=aQ (H2.out h5)
    subst h5;clear H1 H2 H3 H4 h4 h6;go_enter Tryz.func72,Tryz.ntmps72
    go_wp2_with fail
    exact HQ.out [na] _ _ 1 HE.out rfl (fZ _ (by simp) rfl (by simp)) b2
   ·by_cases h7:eo=7
    ·have HE:=aQ (H3.out h7)
     subst h7;clear H1 H2 H3 H4 h4 h5 h6;obtain⟨m,hm⟩:∃ m,A.length=m:=⟨_,rfl⟩;have HM:=aQ hm;rw[hm]at hs ⊢;clear hm;go_enter Tryz.func72,Tryz.ntmps72
     go_wp2_with (at_builtin;go_loud (refine aZ rfl (.tmp 20) (.tmp 22) rfl rfl w.heap.size q A [] (.slice (some ⟨w.heap.size+1,0,none⟩) 0 0) m c HM.out rfl rfl (own_empty' _ (by simp) (by simp)) (HN.out _ b2) (by simp;omega) (by rw[HM.out];simp;omega) ?_;intro v8 w8 ho8 hg8 hb8;obtain⟨q8,c8,rfl⟩:=aW ho8;have HO:=aQ ho8;have HB8:Hid (Below w.heap.size w w8):=aQ (b2.grown hg8 (by simp;omega) (λ k e=>by simp[Value.ownBlock]at e;omega));clear ho8 hg8 hb8;simp only[List.nil_append]at HO))
     first
      | exact HQ7.out _ _ _ _ HE.out rfl (cA HO.out (by rw[HM.out];omega)) HB8.out
      | exact HQ7.out _ _ _ _ HE.out HM.out (cA HO.out (by rw[HM.out];omega)) HB8.out
    ·have HE:=aQ (H4.out (by omega) h5 h7)
     have b4':(eo == 4)=false:=by simpa using h4
     have b5':(eo == 5)=false:=by simpa using h5
     have b6':(eo == 6)=false:=by simpa using h6
     have b7':(eo == 7)=false:=by simpa using h7
     clear H1 H2 H3 H4;go_enter Tryz.func72,Tryz.ntmps72
     go_wp2_with fail
     exact HQ.out [] _ _ 0 HE.out rfl (gO _ _) b1
theorem bE{w w1:World}{cs:Array Value}{t:TypeId}{fr:Nat×Nat}(hb:Below (w.alloc (.cells cs t fr)).heap.size (w.alloc (.cells cs t fr)) w1){i:Nat}{v:Value}(h:cs[i]?=some v):w1.cell? ⟨w.heap.size,i,none⟩=some v :=
 (hb.cell (p:=⟨w.heap.size,i,none⟩) (by simp)).trans (aJ w h)
def ndOk(n:Nd):Prop :=
 (n.op=1∨n.op=2∨n.op=3)∨(n.op=4/\opsB n.alu=true)∨(n.op=5/\isSz n.size=true/\-32768<=n.off/\n.off<=32767)∨(n.op=6/\isSz n.size=true/\-32768<=n.off/\n.off<=32767/\n.id = -1)∨(n.op=7/\1<=n.imm/\n.imm<=5/\n.args.length=arity n.imm)
theorem rnode_yes(n:Nd)(q:Option Addr)(c:Nat)(w:World)(h:ndOk n):Calls Tryz.prog 69 #[.agg #[.int .i64 n.op,.int .i64 n.id,.int .i64 n.alu,.bool n.wide,.int .i64 n.a,.int .i64 n.b,.int .u64 n.imm,.int .i64 n.size,.int .i64 n.off,.bool n.guard,.slice q n.args.length c,.int .i64 n.at']] w λ e w'=>e=.returned (.bool true)/\Below w.heap.size w w':=by
 unfold ndOk at h;have HA:=aQ (λ n h W=>ralu0_yes n h W);have HS:=aQ (λ n h W=>rsz_yes n h W);have HT:=aQ (λ n h1 h2 W=>rtabR_any n h1 h2 W);unfold TabR at HT;generalize n.op=eo at *;generalize n.id=n1 at *;generalize n.alu=n2 at *;generalize n.wide=n3 at *;generalize n.a=na at *;generalize n.b=nb at *;generalize n.imm=n6 at *;generalize n.size=n7 at *;generalize n.off=n8 at *;generalize n.guard=n9 at *;generalize n.at'=n11 at *;generalize n.args.length=A at *;have HO:Hid (n8<=32767∨¬ n8<=32767):=aQ (by omega);rcases h with (rfl|rfl|rfl)|⟨rfl,h⟩|⟨rfl,h,h1,h2⟩|⟨rfl,h,h1,h2,rfl⟩|⟨rfl,h1,h2,rfl⟩
 ·by_cases c1:-32768<=n8
  ·by_cases c2:n8<=32767
   all_goals
    go_enter Tryz.func69,Tryz.ntmps69
    go_wp2_with fail
    go_ret;exact⟨rfl,b1⟩
  ·go_enter Tryz.func69,Tryz.ntmps69
   go_wp2_with fail
   go_ret;exact⟨rfl,b1⟩
 ·by_cases c1:-32768<=n8
  ·by_cases c2:n8<=32767
   all_goals
    go_enter Tryz.func69,Tryz.ntmps69
    go_wp2_with fail
    go_ret;exact⟨rfl,b1⟩
  ·go_enter Tryz.func69,Tryz.ntmps69
   go_wp2_with fail
   go_ret;exact⟨rfl,b1⟩
 ·by_cases c1:-32768<=n8
  ·by_cases c2:n8<=32767
   all_goals
    go_enter Tryz.func69,Tryz.ntmps69
    go_wp2_with fail
    go_ret;exact⟨rfl,b1⟩
  ·go_enter Tryz.func69,Tryz.ntmps69
   go_wp2_with fail
   go_ret;exact⟨rfl,b1⟩
 ·have HA':=aQ (HA.out n2 h)
  by_cases c1:-32768<=n8
  ·by_cases c2:n8<=32767
   all_goals
    go_enter Tryz.func69,Tryz.ntmps69
    go_wp2_with (go_at_call 81;(with_reducible refine(HA'.out _).mono ?_);rintro e w1 ⟨⟨r,rfl⟩,rfl⟩)
    go_ret;exact⟨rfl,b1⟩
  ·go_enter Tryz.func69,Tryz.ntmps69
   go_wp2_with (go_at_call 81;(with_reducible refine(HA'.out _).mono ?_);rintro e w1 ⟨⟨r,rfl⟩,rfl⟩)
   go_ret;exact⟨rfl,b1⟩
 ·have HS':=aQ (HS.out n7 h)
  go_enter Tryz.func69,Tryz.ntmps69
  go_wp2_with (go_at_call 108;(with_reducible refine(HS'.out _).mono ?_);rintro e w1 ⟨rfl,rfl⟩)
  go_ret;exact⟨rfl,b1⟩
 ·have HS':=aQ (HS.out n7 h)
  go_enter Tryz.func69,Tryz.ntmps69
  go_wp2_with (go_at_call 108;(with_reducible refine(HS'.out _).mono ?_);rintro e w1 ⟨rfl,rfl⟩)
  go_ret;exact⟨rfl,b1⟩
 ·have HT':=aQ (HT.out n6 h1 h2)
  have h5:¬ n6 > 5:=by omega
  generalize arity n6=A at *;by_cases c1:-32768<=n8
  ·by_cases c2:n8<=32767
   all_goals
    go_enter Tryz.func69,Tryz.ntmps69
    go_wp2_with (go_at_call 109;(with_reducible refine(HT'.out _).mono ?_);rintro e w1 ⟨s,p,c,m,rfl,hb⟩;have e10:=bE hb (i:=10) rfl;have l10:=one_in hb;have HB:=aQ (bR hb);clear hb)
    go_ret;exact⟨rfl,HB.out.alloc HB.out.size _⟩
  ·go_enter Tryz.func69,Tryz.ntmps69
   go_wp2_with (go_at_call 109;(with_reducible refine(HT'.out _).mono ?_);rintro e w1 ⟨s,p,c,m,rfl,hb⟩;have e10:=bE hb (i:=10) rfl;have l10:=one_in hb;have HB:=aQ (bR hb);clear hb)
   go_ret;exact⟨rfl,HB.out.alloc HB.out.size _⟩
structure Df where
 id:Int
 part:Int
 at':Int
def dPh(p:Pt)(i:Int):Nat->List Df
 | 0=>[]
 | k+1=>dPh p i k ++ [⟨(ph p.phis k).id,i,0⟩]
def dNd(p:Pt)(i:Int):Nat->List Df
 | 0=>[]
 | k+1=>dNd p i k ++ (if (nd p.nodes k).op=6 then []else [⟨(nd p.nodes k).id,i,(k:Int)+1⟩])
def dPt(l:List Pt):Nat->List Df
 | 0=>[]
 | i+1=>dPt l i ++ (dPh (pt l i) (i:Int) (pt l i).phis.length ++ dNd (pt l i) (i:Int) (pt l i).nodes.length)
structure DfOk(T:List Df)(V:Nat):Prop where
 rng:∀ d∈T,0<=d.id/\d.id<(V:Int)
 nd:(T.map Df.id).Nodup
def eE(T:List Df)(i:Nat):Option (Int×Int):=(T.find? λ d=>decide (d.id=(i:Int))).map λ d=>(d.part,d.at')
theorem plc_some{T:List Df}{V:Nat}(h:DfOk T V){d:Df}(hd:d∈T):∃ i:Nat,d.id=(i:Int)/\i<V/\eE T i=some (d.part,d.at'):=by
 obtain⟨h1,h2⟩:=h.rng d hd;refine⟨d.id.toNat,by omega,by omega,?_⟩;unfold eE
 have:T.find? (λ x=>decide (x.id=((d.id.toNat:Nat):Int)))=some d:=by
  obtain⟨a,b,rfl⟩:=List.append_of_mem hd;have hn:=h.nd;rw[List.map_append,List.nodup_append]at hn;rw[List.find?_append]
  have e:a.find? (λ x=>decide (x.id=((d.id.toNat:Nat):Int)))=none:=by
   rw[List.find?_eq_none];intro x hx;have:=hn.2.2 x.id (List.mem_map_of_mem hx) d.id (by simp);simp only[decide_eq_true_eq];omega
  rw[e];have e2:d.id=((d.id.toNat:Nat):Int):=by omega
  simp[<- e2]
 rw[this];rfl
theorem plc_app{P:List Df}{d:Df}{T:List Df}{V:Nat}(h:DfOk T V)(hp:P ++ [d] <+: T):∃ i:Nat,d.id=(i:Int)/\i<V/\eE P i=none/\∀ j,eE (P ++ [d]) j=if j=i then some (d.part,d.at')else eE P j:=by
 obtain⟨r,e⟩:=hp;have hd:d∈T:=by rw[<- e];simp
 obtain⟨h1,h2⟩:=h.rng d hd;have hn:=h.nd;rw[<- e,List.map_append,List.map_append,List.nodup_append,List.nodup_append]at hn;have hx:∀ x∈P,x.id≠d.id:=λ x hx=>hn.1.2.2 x.id (List.mem_map_of_mem hx) d.id (by simp)
 have hi:d.id=((d.id.toNat:Nat):Int):=by omega
 refine⟨d.id.toNat,hi,by omega,?_,λ j=>?_⟩
 ·unfold eE
  rw[List.find?_eq_none.2 (λ x hx'=>by
   have:=hx x hx';simp only[decide_eq_true_eq];omega)]
  rfl
 ·unfold eE
  rw[List.find?_append];by_cases c:j=d.id.toNat
  ·rw[if_pos c,List.find?_eq_none.2 (λ x hx'=>by
    have:=hx x hx';simp only[decide_eq_true_eq];omega)]
   have e2:d.id=(j:Int):=by omega
   simp[e2]
  ·rw[if_neg c]
   have e2:¬ d.id=(j:Int):=by omega
   simp[e2]
theorem dPt_pre{l:List Pt}{i n:Nat}(h:i<=n):dPt l i <+: dPt l n:=by
 induction n with
 | zero=>rw[Nat.le_zero.1 h];exact List.prefix_rfl
 | succ n ih =>
  rcases Nat.lt_or_ge i (n+1)with c|c
  ·exact(ih (by omega)).trans (List.prefix_append _ _)
  ·rw[show i=n+1 by omega];exact List.prefix_rfl
theorem dPh_pre{p:Pt}{i:Int}{k n:Nat}(h:k<=n):dPh p i k <+: dPh p i n:=by
 induction n with
 | zero=>rw[Nat.le_zero.1 h];exact List.prefix_rfl
 | succ n ih =>
  rcases Nat.lt_or_ge k (n+1)with c|c
  ·exact(ih (by omega)).trans (List.prefix_append _ _)
  ·rw[show k=n+1 by omega];exact List.prefix_rfl
theorem dNd_pre{p:Pt}{i:Int}{k n:Nat}(h:k<=n):dNd p i k <+: dNd p i n:=by
 induction n with
 | zero=>rw[Nat.le_zero.1 h];exact List.prefix_rfl
 | succ n ih =>
  rcases Nat.lt_or_ge k (n+1)with c|c
  ·exact(ih (by omega)).trans (List.prefix_append _ _)
  ·rw[show k=n+1 by omega];exact List.prefix_rfl
theorem pre_ph{l:List Pt}{i k n:Nat}(hi:i<n)(hk:k<(pt l i).phis.length):(dPt l i ++ dPh (pt l i) (i:Int) k) ++ [⟨(ph (pt l i).phis k).id,(i:Int),0⟩] <+: dPt l n:=by
 refine List.IsPrefix.trans ?_ (dPt_pre (show i+1<=n by omega));rw[List.append_assoc];have h:=dPh_pre (p:=pt l i) (i:=(i:Int)) (show k+1<=(pt l i).phis.length by omega);exact(List.prefix_append_right_inj _).2 (h.trans (List.prefix_append _ _))
theorem pre_nd{l:List Pt}{i k n:Nat}(hi:i<n)(hk:k<(pt l i).nodes.length)(h6:¬ (nd (pt l i).nodes k).op=6):(dPt l i ++ (dPh (pt l i) (i:Int) (pt l i).phis.length ++ dNd (pt l i) (i:Int) k)) ++ [⟨(nd (pt l i).nodes k).id,(i:Int),(k:Int)+1⟩] <+: dPt l n:=by
 refine List.IsPrefix.trans ?_ (dPt_pre (show i+1<=n by omega));rw[List.append_assoc,List.append_assoc];have h:=dNd_pre (p:=pt l i) (i:=(i:Int)) (show k+1<=(pt l i).nodes.length by omega)
 have e:dNd (pt l i) (i:Int) (k+1)=dNd (pt l i) (i:Int) k ++ [⟨(nd (pt l i).nodes k).id,(i:Int),(k:Int)+1⟩]:=by
  show dNd (pt l i) (i:Int) k ++ (if (nd (pt l i).nodes k).op=6 then []else _)=_;rw[if_neg h6]
 rw[e]at h;exact(List.prefix_append_right_inj _).2 ((List.prefix_append_right_inj _).2 h)
theorem dNd_six{p:Pt}{i:Int}{k:Nat}(h:(nd p.nodes k).op=6):dNd p i (k+1)=dNd p i k:=by
 show dNd p i k ++ (if (nd p.nodes k).op=6 then []else _)=_;rw[if_pos h,List.append_nil]
theorem dNd_one{p:Pt}{i:Int}{k:Nat}(h:¬ (nd p.nodes k).op=6):dNd p i (k+1)=dNd p i k ++ [⟨(nd p.nodes k).id,i,(k:Int)+1⟩]:=by
 show dNd p i k ++ (if (nd p.nodes k).op=6 then []else _)=_;rw[if_neg h]
structure Pl(W:World)(g N:Nat)(m:Nat->Option (Int×Int)):Prop where
 gl:g<W.heap.size
 fz:∀ j,W.frozen? ⟨g,j,none⟩=false
 c:∀ i,i<N->W.cell? ⟨g,i*3,none⟩=some (.bool (m i).isSome)/\W.cell? ⟨g,i*3+1,none⟩=some (.int .i64 ((m i).getD (0,0)).1)/\W.cell? ⟨g,i*3+2,none⟩=some (.int .i64 ((m i).getD (0,0)).2)
theorem Pl.next{W W':World}{g N:Nat}{m:Nat->Option (Int×Int)}(h:Pl W g N m)(hb:Below W.heap.size W W'):Pl W' g N m :=
 ⟨Nat.lt_of_lt_of_le h.gl hb.size,λ j=>(hb.frozen (p:=⟨g,j,none⟩) h.gl).trans (h.fz j),λ i hi=>by
  obtain⟨c0,c1,c2⟩:=h.c i hi;exact⟨(hb.cell (p:=⟨g,_,none⟩) h.gl).trans c0,(hb.cell (p:=⟨g,_,none⟩) h.gl).trans c1,(hb.cell (p:=⟨g,_,none⟩) h.gl).trans c2⟩⟩
theorem cF{W:World}{g o k:Nat}{u v:Value}(h:W.cell? ⟨g,o,none⟩=some u)(hb:o≠k):(W.setCell ⟨g,k,none⟩ v).cell? ⟨g,o,none⟩=some u :=
 (World.cell?_setCell_other _ _ _ _ (λ e=>hb (congrArg Addr.off e).symm)).trans h
theorem Pl.put{W:World}{g N i:Nat}{m m':Nat->Option (Int×Int)}(h:Pl W g N m)(hi:i<N)(a b:Int)(hm:∀ j,m' j=if j=i then some (a,b)else m j) :
  Pl (((W.setCell ⟨g,i*3,none⟩ (.bool true)).setCell ⟨g,i*3+1,none⟩ (.int .i64 a)).setCell ⟨g,i*3+2,none⟩ (.int .i64 b)) g N m':=by
 refine⟨by simpa[World.setCell]using h.gl,λ j=>(World.frozen?_setCell ..).trans ((World.frozen?_setCell ..).trans ((World.frozen?_setCell ..).trans (h.fz j))),λ k hk=>?_⟩;obtain⟨c0,c1,c2⟩:=h.c k hk;by_cases e:k=i
 ·subst e
  rw[hm,if_pos rfl];refine⟨cF (cF (World.cell?_setCell_same _ _ _ c0) (by omega)) (by omega),cF (World.cell?_setCell_same _ _ _ (cF c1 (by omega))) (by omega),World.cell?_setCell_same _ _ _ (cF (cF c2 (by omega)) (by omega))⟩
 ·rw[hm,if_neg e]
  exact⟨cF (cF (cF c0 (by omega)) (by omega)) (by omega),cF (cF (cF c1 (by omega)) (by omega)) (by omega),cF (cF (cF c2 (by omega)) (by omega)) (by omega)⟩
theorem bC(W:World)(a:Addr)(v:Value):W.grownBy (W.setCell a v) (some a.block) :=
 ⟨rfl,rfl,rfl,by simp[World.setCell],λ k _ hk=>Below.heap_setCell W a v k (λ e=>hk (by rw[e]))⟩
theorem grown_trans{a b c:World}{row:Option Nat}(h:a.grownBy b row)(k:b.grownBy c row):a.grownBy c row :=
 ⟨k.os.trans h.os,k.tape.trans h.tape,k.output.trans h.output,Nat.le_trans h.size k.size,λ i hi hn=>(k.block i (Nat.lt_of_lt_of_le hi h.size) hn).trans (h.block i hi hn)⟩
theorem set3_grown(W:World)(g a b c:Nat)(u v x:Value):W.grownBy (((W.setCell ⟨g,a,none⟩ u).setCell ⟨g,b,none⟩ v).setCell ⟨g,c,none⟩ x) (some g) :=
 grown_trans (grown_trans (bC W ⟨g,a,none⟩ u) (bC _ ⟨g,b,none⟩ v)) (bC _ ⟨g,c,none⟩ x)
theorem rmake1_yes(g N i:Nat)(a b:Int)(m m':Nat->Option (Int×Int))(w:World)(h:Pl w g N m)(hi:i<N)(_hN:N<=65536)(h0:m i=none)(hm:∀ j,m' j=if j=i then some (a,b)else m j) :
  Calls Tryz.prog 68 #[.slice (some ⟨g,0,none⟩) N N,.int .i64 (i:Int),.int .i64 a,.int .i64 b] w λ e w'=>e=.returned (.bool true)/\Pl w' g N m'/\w.grownBy w' (some g):=by
 obtain⟨c0,c1,c2⟩:=h.c i hi;have z0:=h.fz (i*3);have z1:=h.fz (i*3+1);have z2:=h.fz (i*3+2);have gl:=h.gl;rw[h0]at c0 c1 c2;simp only[Option.isSome_none,Option.getD_none]at c0 c1 c2;have HP:=aQ (h.put hi a b hm);clear h h0 hm;go_enter Tryz.func68,Tryz.ntmps68
 go_wp2_with fail
 go_ret;exact⟨rfl,HP.out,set3_grown _ _ _ _ _ _ _ _⟩
theorem infoPlc:(Tryz.prog.info? 193).map (λ i=>(i.zero,i.size,i.bytes))=some (some (.agg #[.bool false,.int .i64 0,.int .i64 0]),3,24):=by kernel_rfl
def zP:Array Value:=#[.bool false,.int .i64 0,.int .i64 0]
def mkP(n:Nat):Array Value:=madeCells zP (n*3)
theorem mkP_get{n k d:Nat}(hk:k<n)(hd:d<3):(mkP n)[k*3+d]?=zP[d]?:=by
 have h1:k*3+d<n*3:=by omega
 have h2:(k*3+d) % 3=d:=by omega
 have h3:zP.size=3:=rfl;simp only[mkP,madeCells,Array.getElem?_map,Array.getElem?_range,h1,h3];simp[h2,h3,hd]
theorem run_make_plc(n:Nat)(hn:n<=65536)(W:World):(Instr.makeSlice 81 (.int .i64 (n:Int)) (.int .i64 (n:Int))).run Tryz.prog W=.ok (.slice (some ⟨W.heap.size,0,none⟩) n n) (W.alloc (.cells (mkP n) 193)):=by
 obtain⟨i,hi,hz,hs,hb⟩:=info_parts infoPlc;have h:=run_make (P:=Tryz.prog) W 81 193 i _ Tryz.underlying81 hi hz .i64 .i64 n n (by omega) (Int.le_refl _) (by rw[hb];omega) (by omega);simp only[Int.toNat_natCast,hs]at h;exact h
theorem Pl.start(w:World)(n:Nat):Pl (w.alloc (.cells (mkP n) 193)) w.heap.size n (eE []) :=
 ⟨by simp,λ j=>World.frozen?_alloc_new _ _ _ j,λ k hk=>⟨aJ w (mkP_get (d:=0) hk (by omega)),aJ w (mkP_get (d:=1) hk (by omega)),aJ w (mkP_get (d:=2) hk (by omega))⟩⟩
theorem Below.row{w W W':World}{B g:Nat}(h:Below B w W)(hB:B<=W.heap.size)(hg:W.grownBy W' (some g))(hb:B<=g):Below B w W' :=
 h.grown hg hB (λ k e=>by injection e with e;omega)
theorem grown_below{W W' W'':World}{g:Nat}(h:W.grownBy W' (some g))(hb:Below W'.heap.size W' W''):W.grownBy W'' (some g) :=
 ⟨hb.os.trans h.os,hb.tape.trans h.tape,hb.output.trans h.output,Nat.le_trans h.size hb.size,λ k hk hn=>(hb.block k (Nat.lt_of_lt_of_le hk h.size)).trans (h.block k hk hn)⟩
theorem grown_refl(W:World)(g:Nat):W.grownBy W (some g):=⟨rfl,rfl,rfl,Nat.le_refl _,λ _ _ _=>rfl⟩
structure Pw(w1 w3 W:World)(N:Nat)(m:Nat->Option (Int×Int)):Prop where
 low:Below w1.heap.size w1 W
 gr:w3.grownBy W (some w1.heap.size)
 pl:Pl W w1.heap.size N m
theorem Pw.next{w1 w3 W W':World}{N:Nat}{m:Nat->Option (Int×Int)}(h:Pw w1 w3 W N m)(hb:Below W.heap.size W W'):Pw w1 w3 W' N m :=
 ⟨h.low.trans (hb.mono h.low.size),grown_below h.gr hb,h.pl.next hb⟩
theorem Pw.put{w1 w3 W W':World}{N:Nat}{m m':Nat->Option (Int×Int)}(h:Pw w1 w3 W N m)(hp:Pl W' w1.heap.size N m')(hg:W.grownBy W' (some w1.heap.size)):Pw w1 w3 W' N m' :=
 ⟨Below.row h.low h.low.size hg (Nat.le_refl _),grown_trans h.gr hg,hp⟩
def PlcQ(T:List Df)(V:Nat)(w:World)(e:Ending)(w':World):Prop :=
 ∃ g,e=.returned (.tuple #[.slice (some ⟨g,0,none⟩) V V,.bool true])/\Pl w' g V (eE T)/\Below w.heap.size w w'
theorem rplaces_yes(q:Option Addr)(qc:Nat)(l:List Pt)(V:Nat)(w:World)(h:PartsAt w q l)(hV:V<=65536)(hT:DfOk (dPt l l.length) V)(hn:∀ i,i<l.length->∀ k,k<(pt l i).nodes.length->ndOk (nd (pt l i).nodes k)) :
  Calls Tryz.prog 25 #[.agg #[.slice q l.length qc,.int .i64 (V:Int)]] w (PlcQ (dPt l l.length) V w):=by
 have HI:=aQ h;have HT:=aQ hT;have HNO:=aQ hn;have HNODE:=aQ (λ n q c W h=>rnode_yes n q c W h);have HPH:=aQ (λ i k (hi:i<l.length) hk=>pre_ph (l:=l) (i:=i) (k:=k) (n:=l.length) hi hk);have HND:=aQ (λ i k (hi:i<l.length) hk h6=>pre_nd (l:=l) (i:=i) (k:=k) (n:=l.length) hi hk h6);have HQ:Hid (∀ w1 W,Below w.heap.size w w1->Below w1.heap.size w1 W->Pl W w1.heap.size V (eE (dPt l l.length))->PlcQ (dPt l l.length) V w (.returned (.tuple #[.slice (some ⟨w1.heap.size,0,none⟩) V V,.bool true])) W):=aQ (λ w1 W h1 h2 h3=>⟨_,rfl,h3,h1.trans (h2.mono h1.size)⟩);generalize PlcQ (dPt l l.length) V w=Q at *;generalize hTT:dPt l l.length=T at *;obtain⟨N,hNl⟩:∃ N,l.length=N:=⟨_,rfl⟩;have HNL:=aQ hNl;have HTT:=aQ hTT;rw[hNl]at HPH HND HNO ⊢;have hmk:=run_make_plc V hV;have HMK:=aQ (λ (g i:Nat) (a b:Int) (m m':Nat->Option (Int×Int)) (W:World) h hi h0 hm=>rmake1_yes g V i a b m m' W h hi hV h0 hm);clear h hT hn hTT hNl;have hs:=HI.out.small;rw[HNL.out]at hs;go_enter Tryz.func25,Tryz.ntmps25
 go_wp2_with fail
 have f0:(w.alloc (.cells #[.slice q N qc,.int .i64 (V:Int)] 27)).cell? ⟨w.heap.size,0,none⟩=some (.slice q N qc):=aJ w rfl;have fl:w.heap.size<(w.alloc (.cells #[.slice q N qc,.int .i64 (V:Int)] 27)).heap.size:=by simp
 have fz:(w.alloc (.cells #[.slice q N qc,.int .i64 (V:Int)] 27)).heap.size=w.heap.size+1:=World.size_alloc ..;have HW0:Hid (Below w.heap.size w (w.alloc (.cells #[.slice q N qc,.int .i64 (V:Int)] 27))):=aQ b1;obtain⟨w1,hw1⟩:∃ W,w.alloc (.cells #[.slice q N qc,.int .i64 (V:Int)] 27)=W:=⟨_,rfl⟩;rw[hw1]at f0 fl fz HW0 ⊢;rw[<- fz];have F0:=aQ f0;have FL:=aQ fl;have HS0:=aQ (Pl.start w1 V);have HB0:Hid (Below w1.heap.size w1 (w1.alloc (.cells (mkP V) 193))):=aQ b1;clear f0 fl fz hw1 hmk
 go_loopw [5] (λ v wr=>∃ (i:Nat),i<=N/\v=.int .i64 (i:Int)/\Hid (Below w1.heap.size w1 wr)/\Hid (Pl wr w1.heap.size V (eE (dPt l i)))) (λ v _=>N - (RowKit.intOf v).toNat)
 case atStart=>exact⟨0,Nat.zero_le _,rfl,HB0,HS0⟩
 case round =>
  clear HB0 HS0;obtain⟨i,hi,rfl,HB,HP⟩:=hrel;have g0:=(HB.out.cell (p:=⟨w.heap.size,0,none⟩) FL.out).trans F0.out;have gl:w.heap.size<wr.heap.size:=Nat.lt_of_lt_of_le FL.out HB.out.size;by_cases hlt:i<N
  ·obtain⟨g,qp,cp,qf,cf,qn,cn,rfl,hgl0,d0,d1,d2,d3,d4,d5,d6,d7,d8,d9,n1,n2,n3⟩:=HI.out.at (i:=i) (by rw[HNL.out];exact hlt)
   have hbw:Below w.heap.size w wr:=HW0.out.trans (HB.out.mono HW0.out.size);have hgl:g<wr.heap.size:=Nat.lt_of_lt_of_le hgl0 hbw.size;have c0:=(hbw.cell (p:=⟨g,_,none⟩) hgl0).trans d0;have c1:=(hbw.cell (p:=⟨g,_,none⟩) hgl0).trans d1;have c2:=(hbw.cell (p:=⟨g,_,none⟩) hgl0).trans d2;have c3:=(hbw.cell (p:=⟨g,_,none⟩) hgl0).trans d3;have c4:=(hbw.cell (p:=⟨g,_,none⟩) hgl0).trans d4;have c5:=(hbw.cell (p:=⟨g,_,none⟩) hgl0).trans d5;have c6:=(hbw.cell (p:=⟨g,_,none⟩) hgl0).trans d6;have c7:=(hbw.cell (p:=⟨g,_,none⟩) hgl0).trans d7;have c8:=(hbw.cell (p:=⟨g,_,none⟩) hgl0).trans d8;have c9:=(hbw.cell (p:=⟨g,_,none⟩) hgl0).trans d9;have H2:Hid (∀ W,Below w.heap.size w W->PhisAt W qf (pt l i).phis):=aQ (λ W hb=>n2.below hb);have H3:Hid (∀ W,Below w.heap.size w W->NodesAt W qn (pt l i).nodes):=aQ (λ W hb=>n3.below hb);clear hbw d0 d1 d2 d3 d4 d5 d6 d7 d8 d9 hgl0;have HPH':=aQ (λ k hk=>plc_app HT.out (HPH.out i k hlt hk));have HND':=aQ (λ k hk h6=>plc_app HT.out (HND.out i k hlt hk h6));have HNO':=aQ (HNO.out i hlt);have HN6:=aQ (λ k=>dNd_six (p:=pt l i) (i:=(i:Int)) (k:=k));have HN1:=aQ (λ k=>dNd_one (p:=pt l i) (i:=(i:Int)) (k:=k));have HE:Hid (dPt l (i+1)=dPt l i ++ (dPh (pt l i) (i:Int) (pt l i).phis.length ++ dNd (pt l i) (i:Int) (pt l i).nodes.length)):=aQ rfl;have HS:=aQ n2.small;have HS':=aQ n3.small;obtain⟨np,hnp⟩:∃ n,(pt l i).phis.length=n:=⟨_,rfl⟩;obtain⟨nn,hnn⟩:∃ n,(pt l i).nodes.length=n:=⟨_,rfl⟩;have HLP:=aQ hnp;have HLN:=aQ hnn;have HNM:Hid (nn<=4294967296/\np<=4294967296):=aQ (by rw[<- hnp,<- hnn];exact⟨HS'.out,HS.out⟩);rw[hnp]at c1 HE;rw[hnn]at c2 HE;have hwl:=HB.out.size;have HB3:Hid (∀ W,Below wr.heap.size wr W->Below w1.heap.size w1 W):=aQ (λ W hb=>HB.out.trans (hb.mono HB.out.size));generalize (pt l i).pred.length=npr at *;generalize (pt l i).en.op=eo at *;generalize (pt l i).en.cond=ec at *;generalize (pt l i).en.wide=ew at *;generalize (pt l i).en.a=ea at *;generalize (pt l i).en.b=eb at *;generalize (pt l i).en.to'=et at *;generalize (pt l i).en.els=ee at *;generalize (pt l i)=P at *;obtain⟨D0,hD0⟩:∃ D,dPt l i=D:=⟨_,rfl⟩;obtain⟨D1,hD1⟩:∃ D,dPt l (i+1)=D:=⟨_,rfl⟩;rw[hD0]at HP HPH' HND' HE;rw[hD1]at HE;have HD1:=aQ hD1;clear n1 n2 n3 hnp hnn hD0 hD1 HS HS';go_wp2_with fail
   have HW3:Hid (Below wr.heap.size wr (wr.alloc (.cells #[.slice qp npr cp,.slice qf np cf,.slice qn nn cn,.int .i64 eo,.int .i64 ec,.bool ew,.int .i64 ea,.int .i64 eb,.int .i64 et,.int .i64 ee] 41))):=aQ b1;have e1:(wr.alloc (.cells #[.slice qp npr cp,.slice qf np cf,.slice qn nn cn,.int .i64 eo,.int .i64 ec,.bool ew,.int .i64 ea,.int .i64 eb,.int .i64 et,.int .i64 ee] 41)).cell? ⟨wr.heap.size,1,none⟩=some (.slice qf np cf):=aJ wr rfl;have e2:(wr.alloc (.cells #[.slice qp npr cp,.slice qf np cf,.slice qn nn cn,.int .i64 eo,.int .i64 ec,.bool ew,.int .i64 ea,.int .i64 eb,.int .i64 et,.int .i64 ee] 41)).cell? ⟨wr.heap.size,2,none⟩=some (.slice qn nn cn):=aJ wr rfl;have e3:wr.heap.size<(wr.alloc (.cells #[.slice qp npr cp,.slice qf np cf,.slice qn nn cn,.int .i64 eo,.int .i64 ec,.bool ew,.int .i64 ea,.int .i64 eb,.int .i64 et,.int .i64 ee] 41)).heap.size:=by simp
   obtain⟨w3,hw3⟩:∃ W,wr.alloc (.cells #[.slice qp npr cp,.slice qf np cf,.slice qn nn cn,.int .i64 eo,.int .i64 ec,.bool ew,.int .i64 ea,.int .i64 eb,.int .i64 et,.int .i64 ee] 41)=W:=⟨_,rfl⟩;rw[hw3]at HW3 e1 e2 e3 ⊢;have E1:=aQ e1;have E2:=aQ e2;have E3:=aQ e3;have HPW:Hid (Pw w1 w3 w3 V (eE (D0 ++ dPh P (i:Int) 0))):=aQ ⟨HB3.out w3 HW3.out,grown_refl _ _,by show Pl w3 _ _ (eE (D0 ++ []));rw[List.append_nil];exact HP.out.next HW3.out⟩;have HGP:Hid (w1.heap.size<wr.heap.size):=aQ HP.out.gl;obtain⟨bx,hbx⟩:∃ b,wr.heap.size=b:=⟨_,rfl⟩;rw[hbx]at E1 E2 E3 HGP ⊢
   have HKEEP:Hid (∀ W m,Pw w1 w3 W V m->W.cell? ⟨bx,1,none⟩=some (.slice qf np cf)/\W.cell? ⟨bx,2,none⟩=some (.slice qn nn cn)/\bx<W.heap.size/\Below w.heap.size w W):=aQ (λ W m h=>by
    have hne:bx≠w1.heap.size:=by have:=HGP.out;omega
    exact⟨h.gr.cell E1.out (λ e=>hne (Option.some.inj e)),h.gr.cell E2.out (λ e=>hne (Option.some.inj e)),Nat.lt_of_lt_of_le E3.out h.gr.size,HW0.out.trans (h.low.mono HW0.out.size)⟩)
   clear e1 e2 e3 E1 E2 E3 hw3 hbx c0 c1 c2 c3 c4 c5 c6 c7 c8 c9 hwl HB3 HB HP HW3 HGP;have hnm:=HNM.out
   go_loopw [7] (λ v W=>∃ (k:Nat),k<=np/\v=.int .i64 (k:Int)/\Hid (Pw w1 w3 W V (eE (D0 ++ dPh P (i:Int) k)))) (λ v _=>np - (RowKit.intOf v).toNat)
   case atStart=>exact⟨0,Nat.zero_le _,rfl,HPW⟩
   case round =>
    clear HPW;obtain⟨k,hk,rfl,HPW⟩:=hrel;obtain⟨x1,x2,x3,x4⟩:=HKEEP.out _ _ HPW.out;by_cases hkn:k<np
    ·obtain⟨gf,pf,cf',rfl,hgf,y0,_⟩:=(H2.out _ x4).cells k (by rw[HLP.out];exact hkn)
     obtain⟨j,hj,hjV,hn0,hupd⟩:=HPH'.out k (by rw[HLP.out];exact hkn);have hj':(ph P.phis k).id=(j:Int):=hj;rw[hj']at y0;have HM:=aQ (HMK.out w1.heap.size j (i:Int) 0 _ _ _ HPW.out.pl hjV hn0 hupd);clear x4 hj hj' hn0 hupd;go_wp2_with (go_at_call 68;(with_reducible refine HM.out.mono ?_);rintro e w5 ⟨rfl,hp5,hg5⟩;have HPN:=aQ (HPW.out.put hp5 hg5);clear hp5 hg5)
     go_roundw
     case rel=>exact⟨k+1,by omega,rfl,aQ (by have:=HPN.out;rw[List.append_assoc]at this;exact this)⟩
     case measure=>simp[RowKit.intOf];omega
    ·obtain rfl:k=np:=by omega
     have HPW0:Hid (Pw w1 w3 wr V (eE (D0 ++ (dPh P (i:Int) k ++ dNd P (i:Int) 0)))):=aQ (by show Pw w1 w3 wr V (eE (D0 ++ (dPh P (i:Int) k ++ [])));rw[List.append_nil];exact HPW.out);clear x4 HPW HPH';go_wp2_with fail
     clear x1 x2 x3
     go_loopw [8] (λ v W=>∃ (m:Nat),m<=nn/\v=.int .i64 (m:Int)/\Hid (Pw w1 w3 W V (eE (D0 ++ (dPh P (i:Int) k ++ dNd P (i:Int) m))))) (λ v _=>nn - (RowKit.intOf v).toNat)
     case atStart=>exact⟨0,Nat.zero_le _,rfl,HPW0⟩
     case round =>
      clear HPW0;obtain⟨m,hm,rfl,HPW⟩:=hrel;obtain⟨x1,x2,x3,x4⟩:=HKEEP.out _ _ HPW.out;by_cases hmn:m<nn
      ·obtain⟨gn,pa,ca,rfl,hgn,y0,y1,y2,y3,y4,y5,y6,y7,y8,y9,y10,y11,_⟩:=(H3.out _ x4).at (i:=m) (by rw[HLN.out];exact hmn)
       have HNX:=aQ (λ W=>HNODE.out (nd P.nodes m) pa ca W (HNO'.out m (by rw[HLN.out];exact hmn)));have H6:=aQ (HN6.out m);have H1':=aQ (HN1.out m);have HD':=aQ (HND'.out m (by rw[HLN.out];exact hmn));rw[HLP.out]at HD';clear x4;generalize (nd P.nodes m).op=n0 at *;generalize (nd P.nodes m).id=n1 at *;generalize (nd P.nodes m).alu=n2 at *;generalize (nd P.nodes m).wide=n3 at *;generalize (nd P.nodes m).a=n4 at *;generalize (nd P.nodes m).b=n5 at *;generalize (nd P.nodes m).imm=n6 at *;generalize (nd P.nodes m).size=n7 at *;generalize (nd P.nodes m).off=n8 at *;generalize (nd P.nodes m).guard=n9 at *;generalize (nd P.nodes m).args.length=n10 at *;generalize (nd P.nodes m).at'=n11 at *;by_cases h6:n0=6
       ·have HE6:=aQ (H6.out h6)
        subst h6;clear HD' H1' H6;go_wp2_with (go_at_call 69;(with_reducible refine(HNX.out _).mono ?_);rintro e w5 ⟨rfl,hb5⟩;have HPN:=aQ (HPW.out.next hb5);obtain⟨z1,z2,z3,z4⟩:=HKEEP.out _ _ HPN.out;have y0':=(hb5.cell (p:=⟨gn,_,none⟩) hgn).trans y0;have hgn':=Nat.lt_of_lt_of_le hgn hb5.size;clear z4 hb5)
        go_roundw
        case rel=>exact⟨m+1,by omega,rfl,aQ (by rw[HE6.out];exact HPN.out)⟩
        case measure=>simp[RowKit.intOf];omega
       ·have HE1:=aQ (H1'.out h6)
        obtain⟨j,hj,hjV,hn0,hupd⟩:=HD'.out h6;have hj':n1=(j:Int):=hj;subst hj';have HM:=aQ (λ W hp=>HMK.out w1.heap.size j (i:Int) ((m:Int)+1) _ _ W hp hjV hn0 hupd);have b6:(n0 != 6)=true:=by simpa using h6
        clear hj HD' H1' H6 hn0 hupd
        go_wp2_with (first
         | (go_at_call 69;(with_reducible refine(HNX.out _).mono ?_);rintro e w5 ⟨rfl,hb5⟩;have HPN:=aQ (HPW.out.next hb5);obtain⟨z1,z2,z3,z4⟩:=HKEEP.out _ _ HPN.out;have y0':=(hb5.cell (p:=⟨gn,_,none⟩) hgn).trans y0;have y1':=(hb5.cell (p:=⟨gn,_,none⟩) hgn).trans y1;have hgn':=Nat.lt_of_lt_of_le hgn hb5.size;clear z4 hb5)
         | (go_at_call 68;(with_reducible refine(HM.out _ HPN.out.pl).mono ?_);rintro e w6 ⟨rfl,hp6,hg6⟩;have HPM:=aQ (HPN.out.put hp6 hg6);clear hp6 hg6))
        go_roundw
        case rel=>exact⟨m+1,by omega,rfl,aQ (by rw[HE1.out];have:=HPM.out;rw[List.append_assoc,List.append_assoc]at this;exact this)⟩
        case measure=>simp[RowKit.intOf];omega
      ·obtain rfl:m=nn:=by omega
       have HPN:Hid (Pl wr w1.heap.size V (eE (dPt l (i+1)))):=aQ (by rw[HD1.out,HE.out];exact HPW.out.pl);have HBN:Hid (Below w1.heap.size w1 wr):=aQ HPW.out.low;clear x4 HPW;go_wp2_with fail
       go_roundw
       case rel=>exact⟨i+1,by omega,rfl,HBN,HPN⟩
       case measure=>simp[RowKit.intOf];omega
  ·obtain rfl:i=N:=by omega
   have HD:=aQ (HQ.out w1 wr HW0.out HB.out (by rw[<- HTT.out,HNL.out];exact HP.out));go_wp2_with fail
   exact HD.out
theorem aD{B:Nat}{a w:World}(h:Below B a w):Below B a w.drew:=⟨h.os,h.tape,h.output,h.size,h.block⟩
structure CkAt(W:World)(b:Nat)(l:List Pt)(V:Nat)(T:List Df)(g:List (List Int)):Prop where
 bl:b<W.heap.size
 c0:∃ q qc,W.cell? ⟨b,0,none⟩=some (.slice q l.length qc)/\PartsAt W q l
 c2:∃ gp,W.cell? ⟨b,2,none⟩=some (.slice (some ⟨gp,0,none⟩) V V)/\Pl W gp V (eE T)
 c4:∃ p c,W.cell? ⟨b,4,none⟩=some (.slice p g.length c)/\J.TabAt W p g.length (J.domR g)
theorem CkAt.next{W W':World}{b:Nat}{l:List Pt}{V:Nat}{T:List Df}{g:List (List Int)}(h:CkAt W b l V T g)(hb:Below W.heap.size W W'):CkAt W' b l V T g:=by
 obtain⟨bl,⟨q,qc,e0,h0⟩,⟨gp,e2,h2⟩,⟨p,c,e4,h4⟩⟩:=h;exact⟨Nat.lt_of_lt_of_le bl hb.size,⟨q,qc,(hb.cell (p:=⟨b,0,none⟩) bl).trans e0,h0.below hb⟩,⟨gp,(hb.cell (p:=⟨b,2,none⟩) bl).trans e2,h2.next hb⟩,⟨p,c,(hb.cell (p:=⟨b,4,none⟩) bl).trans e4,h4.below hb⟩⟩
def AhdOk(T:List Df)(g:List (List Int))(id part at':Int):Prop:=∃ d∈T,d.id=id/\((d.part=part/\d.at'<at')∨(d.part≠part/\∃ a b:Nat,d.part=(a:Int)/\part=(b:Int)/\a<g.length/\b<g.length/\J.Dm.domB g (a:Int) (b:Int)=true))
theorem rahead_yes(b:Nat)(l:List Pt)(V:Nat)(T:List Df)(g:List (List Int))(id part at':Int)(w:World)(h:CkAt w b l V T g)(hT:DfOk T V)(_hV:V<=65536)(ha:AhdOk T g id part at') :
  Calls Tryz.prog 110 #[.pointer (some ⟨b,0,none⟩),.int .i64 id,.int .i64 part,.int .i64 at'] w λ e w'=>e=.returned (.bool true)/\Below w.heap.size w w':=by
 obtain⟨d,hd,hid,hcase⟩:=ha;obtain⟨i,hi,hiV,hm⟩:=plc_some hT hd;obtain⟨bl,_,⟨gp,e2,h2⟩,⟨p,c,e4,h4⟩⟩:=h;obtain⟨k0,k1,k2⟩:=h2.c i hiV;rw[hm]at k0 k1 k2;simp only[Option.isSome_some,Option.getD_some]at k0 k1 k2;have hgp:=h2.gl;rw[<- hid,hi];have hiw:(i:Int)<V:=by omega
 clear h2 hm hid hi hd hT;rcases hcase with ⟨rfl,hlt⟩|⟨hne,a,b',ha,hb',hag,hbg,hdom⟩
 ·generalize d.part=dp at *
  generalize d.at'=da at *;clear h4;go_enter Tryz.func110,Tryz.ntmps110
  go_wp2_with fail
  go_ret;exact⟨rfl,b1⟩
 ·obtain⟨bt,off,gb,rfl,hbt,t0,hr,hl⟩:=h4.cells a hag
  have t1:=hr.cell b' (by rw[hl];exact hbg);have t2:=hr.lt;rw[J.domR_at hbg,hdom]at t1;have hnb:((d.part:Int) == part)=false:=by simpa using hne
  rw[ha]at k1 hne hnb;subst hb';generalize d.at'=da at *;generalize g.length=G at *;clear h4 hr hl hdom ha;go_enter Tryz.func110,Tryz.ntmps110
  go_wp2_with fail
  go_region
  all_goals go_wp2_with fail
  all_goals go_ret
  all_goals exact⟨rfl,aD b1⟩
theorem rallF_yes(b:Nat)(l:List Pt)(V:Nat)(T:List Df)(g:List (List Int))(q:Option Addr)(c:Nat)(xs:List Int)(part at':Int)(w:World)(h:CkAt w b l V T g)(hT:DfOk T V)(hV:V<=65536)(hx:NumsAt .i64 w q xs)(hs:xs.length<=4096)(ha:∀ u∈xs,AhdOk T g u part at') :
  Calls Tryz.prog 71 #[.pointer (some ⟨b,0,none⟩),.slice q xs.length c,.int .i64 part,.int .i64 at'] w λ e w'=>e=.returned (.bool true)/\Below w.heap.size w w':=by
 have HA:=aQ (λ u hu W (hb:Below w.heap.size w W)=>rahead_yes b l V T g u part at' W (h.next hb) hT hV (ha u hu));have HX:=aQ (λ W (hb:Below w.heap.size w W)=>hx.below hb);have HM:Hid (∀ k,k<xs.length->xs.getD k 0∈xs):=aQ (λ k hk=>by rw[List.getD_eq_getElem?_getD,List.getElem?_eq_getElem hk];exact List.getElem_mem hk);obtain⟨n,hn⟩:∃ n,xs.length=n:=⟨_,rfl⟩;have HN:=aQ hn;rw[hn]at hs HM ⊢;clear h hT hx ha hn;go_enter Tryz.func71,Tryz.ntmps71
 go_wp2_with fail
 go_loopw [9] (λ v W=>∃ (k:Nat),k<=n/\v=.int .i64 (k:Int)/\Hid (Below w.heap.size w W)) (λ v _=>n - (RowKit.intOf v).toNat)
 case atStart=>exact⟨0,Nat.zero_le _,rfl,aQ (Below.refl _ _)⟩
 case round =>
  obtain⟨k,hk,rfl,HB⟩:=hrel;by_cases hkn:k<n
  ·obtain⟨g5,o5,rfl,hg5,e5⟩:=(HX.out _ HB.out).cells k (by rw[HN.out];exact hkn)
   have HA':=aQ (HA.out _ (HM.out k hkn) _ HB.out);generalize xs.getD k 0=u at *;go_wp2_with (go_at_call 110;(with_reducible refine HA'.out.mono ?_);rintro e w5 ⟨rfl,hb5⟩;have HBN:=aQ (HB.out.trans (hb5.mono HB.out.size));clear hb5)
   go_roundw
   case rel=>exact⟨k+1,by omega,rfl,HBN⟩
   case measure=>simp[RowKit.intOf];omega
  ·obtain rfl:k=n:=by omega
   go_wp2_with fail
   go_ret;exact⟨rfl,HB.out⟩
theorem slice_one(b off len cap j:Nat)(h:j<len)(hc:len<=cap)(w:World) :
  (Instr.sliceAt 34 (.slice (some ⟨b,off,none⟩) len cap) (some (.int .i64 (j:Int))) (some (.int .i64 ((j:Int)+1))) none).run Tryz.prog w=.ok (.slice (some ⟨b,off+j,none⟩) 1 (cap - j)) w/\(Instr.slice 34 (.slice (some ⟨b,off,none⟩) len cap) (some (.int .i64 (j:Int))) (some (.int .i64 ((j:Int)+1))) none).run Tryz.prog w=.ok (.slice (some ⟨b,off+j,none⟩) 1 (cap - j)) w:=by
 have e:(Instr.slice 34 (.slice (some ⟨b,off,none⟩) len cap) (some (.int .i64 (j:Int))) (some (.int .i64 ((j:Int)+1))) none).run Tryz.prog w=.ok (.slice (some ⟨b,off+j,none⟩) 1 (cap - j)) w:=by
  rw[run_slice_lh w 34 (some ⟨b,off,none⟩) len cap Tryz.underlying34 .i64 .i64 (j:Int) ((j:Int)+1) (by omega) (by omega) (by omega)];have hz:(sizeOf (Tryz.prog.elem 34)).run Tryz.prog w=.ok 1 w:=by kernel_rfl
  rw[hz];simp[sliced,Addr.add];rw[if_neg (by omega)];by_cases c:j=0
  ·subst c;simp
  ·rw[if_neg c]
 exact⟨(run_sliceAt_slice w 34 _ _ _ _ Tryz.underlying34).trans e,e⟩
structure PtOk(l:List Pt)(T:List Df)(g:List (List Int))(i:Nat):Prop where
 len:∀ k,k<(pt l i).phis.length->(ph (pt l i).phis k).fr.length=(pt l i).pred.length
 phi:∀ k,k<(pt l i).phis.length->∀ j,j<(pt l i).pred.length->AhdOk T g ((ph (pt l i).phis k).fr.getD j 0) ((pt l i).pred.getD j 0) 1073741824
 nod:∀ k,k<(pt l i).nodes.length->∀ u∈dD (nd (pt l i).nodes k),AhdOk T g u (i:Int) ((k:Int)+1)
 args:∀ k,k<(pt l i).nodes.length->(nd (pt l i).nodes k).args.length<=4094
 en:∀ u∈eJ (pt l i).en,AhdOk T g u (i:Int) 1073741824
theorem uses_le{n:Nd}(h:n.args.length<=4094):(dD n).length<=4096:=by
 unfold dD;split
 ·simp
 ·split
  ·simp
  ·split
   ·omega
   ·simp
theorem ends_le(e:Te):(eJ e).length<=4096:=by
 unfold eJ;split
 ·simp
 ·split <;> simp
theorem nums_one{k:IntKind}{w:World}{b off:Nat}{l:List Int}{j:Nat}(h:NumsAt k w (some ⟨b,off,none⟩) l)(hj:j<l.length):NumsAt k w (some ⟨b,off+j,none⟩) [l.getD j 0] :=
 ⟨by simp,λ i hi=>by
  have:i=0:=by simpa using hi
  subst this;obtain⟨b',o',e,hb,hc⟩:=h.cells j hj;injection e with e
  injection e with e1 e2
  subst e1 e2;exact⟨_,_,rfl,hb,hc⟩⟩
theorem rpart_yes(b:Nat)(l:List Pt)(V:Nat)(T:List Df)(g:List (List Int))(i:Nat)(w:World)(h:CkAt w b l V T g)(hT:DfOk T V)(hV:V<=65536)(hi:i<l.length)(hp:PtOk l T g i) :
  Calls Tryz.prog 27 #[.pointer (some ⟨b,0,none⟩),.int .i64 (i:Int)] w λ e w'=>e=.returned (.bool true)/\Below w.heap.size w w':=by
 obtain⟨q,qc,e0,hpa⟩:=h.c0;have hbl:=h.bl;have HALL:=aQ (λ q c xs part at' W (hb:Below w.heap.size w W) (hx:NumsAt .i64 W q xs) hs ha=>rallF_yes b l V T g q c xs part at' W (h.next hb) hT hV hx hs ha);obtain⟨gq,qp,cp,qf,cf,qn,cn,rfl,hgl,c0,c1,c2,c3,c4,c5,c6,c7,c8,c9,n1,n2,n3⟩:=hpa.at hi;have HP:=aQ hp;have HN1:Hid (∀ W,Below w.heap.size w W->NumsAt .i64 W qp (pt l i).pred):=aQ (λ W hb=>n1.below hb);have HN2:Hid (∀ W,Below w.heap.size w W->PhisAt W qf (pt l i).phis):=aQ (λ W hb=>n2.below hb);have HN3:Hid (∀ W,Below w.heap.size w W->NodesAt W qn (pt l i).nodes):=aQ (λ W hb=>n3.below hb);have HEN:=aQ (λ W=>rendsT_any (pt l i).en W);have HUS:=aQ (λ n q c W h hs=>ruses_any n q c W h hs);unfold NumsR at HEN HUS;have HSM:=aQ (And.intro n1.small (And.intro n2.small n3.small));have HI:=aQ hi;have hsm:=hpa.small;clear h hT hpa hp n1 n2 n3 hi;obtain⟨np,hnp⟩:∃ n,(pt l i).phis.length=n:=⟨_,rfl⟩;obtain⟨nn,hnn⟩:∃ n,(pt l i).nodes.length=n:=⟨_,rfl⟩;obtain⟨nr,hnr⟩:∃ n,(pt l i).pred.length=n:=⟨_,rfl⟩;have HLP:=aQ hnp;have HLN:=aQ hnn;have HLR:=aQ hnr;rw[hnp]at c1 HSM;rw[hnn]at c2 HSM;rw[hnr]at c0 HSM;obtain⟨m1,m2,m3⟩:=HSM.out;have HEL:=aQ (ends_le (pt l i).en);have HE:=aQ HP.out.en;obtain⟨EL,hel⟩:∃ L,eJ (pt l i).en=L:=⟨_,rfl⟩;rw[hel]at HEN HEL HE;have HNL:Hid ((i:Int)<(l.length:Int)):=aQ (by have:=HI.out;omega);have hil:=HI.out;clear hnp hnn hnr hel;generalize (pt l i).en.op=eo at *;generalize (pt l i).en.cond=ec at *;generalize (pt l i).en.wide=ew at *;generalize (pt l i).en.a=ea at *;generalize (pt l i).en.b=eb at *;generalize (pt l i).en.to'=et at *;generalize (pt l i).en.els=ee at *;have HPR:=aQ (λ j (hj:j<nr)=>(show ∀ k,k<(pt l i).phis.length->AhdOk T g ((ph (pt l i).phis k).fr.getD j 0) ((pt l i).pred.getD j 0) 1073741824 from λ k hk=>HP.out.phi k hk j (by rw[HLR.out];exact hj)));have HPL:=aQ (λ k hk=>HP.out.len k hk);have HPN:=aQ (λ k hk=>HP.out.nod k hk);have HPA:=aQ (λ k hk=>HP.out.args k hk);rw[HLR.out]at HPL;rw[HLP.out]at HPL HPR;rw[HLN.out]at HPN HPA;generalize l.length=N at *;generalize (pt l i)=P at *;clear HP;go_enter Tryz.func27,Tryz.ntmps27
 go_wp2_with fail
 have HB0:Hid (Below w.heap.size w (w.alloc (.cells #[.slice qp nr cp,.slice qf np cf,.slice qn nn cn,.int .i64 eo,.int .i64 ec,.bool ew,.int .i64 ea,.int .i64 eb,.int .i64 et,.int .i64 ee] 41))):=aQ b1
 have HCB:Hid (∀ W,Below (w.alloc (.cells #[.slice qp nr cp,.slice qf np cf,.slice qn nn cn,.int .i64 eo,.int .i64 ec,.bool ew,.int .i64 ea,.int .i64 eb,.int .i64 et,.int .i64 ee] 41)).heap.size (w.alloc (.cells #[.slice qp nr cp,.slice qf np cf,.slice qn nn cn,.int .i64 eo,.int .i64 ec,.bool ew,.int .i64 ea,.int .i64 eb,.int .i64 et,.int .i64 ee] 41)) W ->
  w.heap.size<W.heap.size/\W.cell? ⟨w.heap.size,0,none⟩=some (.slice qp nr cp)/\W.cell? ⟨w.heap.size,1,none⟩=some (.slice qf np cf)/\W.cell? ⟨w.heap.size,2,none⟩=some (.slice qn nn cn)/\W.cell? ⟨w.heap.size,3,none⟩=some (.int .i64 eo)/\W.cell? ⟨w.heap.size,4,none⟩=some (.int .i64 ec)/\W.cell? ⟨w.heap.size,5,none⟩=some (.bool ew)/\W.cell? ⟨w.heap.size,6,none⟩=some (.int .i64 ea)/\W.cell? ⟨w.heap.size,7,none⟩=some (.int .i64 eb)/\W.cell? ⟨w.heap.size,8,none⟩=some (.int .i64 et)/\W.cell? ⟨w.heap.size,9,none⟩=some (.int .i64 ee)):=aQ (λ W hb=>⟨one_in hb,bE hb rfl,bE hb rfl,bE hb rfl,bE hb rfl,bE hb rfl,bE hb rfl,bE hb rfl,bE hb rfl,bE hb rfl,bE hb rfl⟩)
 obtain⟨w1,hw1⟩:∃ W,w.alloc (.cells #[.slice qp nr cp,.slice qf np cf,.slice qn nn cn,.int .i64 eo,.int .i64 ec,.bool ew,.int .i64 ea,.int .i64 eb,.int .i64 et,.int .i64 ee] 41)=W:=⟨_,rfl⟩;rw[hw1]at HB0 HCB ⊢;have HIN:Hid (∀ W,Below w1.heap.size w1 W->Below w.heap.size w W):=aQ (λ W hb=>HB0.out.trans (hb.mono HB0.out.size));clear hw1 e0 c0 c1 c2 c3 c4 c5 c6 c7 c8 c9
 go_loopw [6] (λ v W=>∃ (k:Nat),k<=np/\v=.int .i64 (k:Int)/\Hid (Below w1.heap.size w1 W)) (λ v _=>np - (RowKit.intOf v).toNat)
 case atStart=>exact⟨0,Nat.zero_le _,rfl,aQ (Below.refl _ _)⟩
 case round =>
  obtain⟨k,hk,rfl,HB⟩:=hrel;obtain⟨x,x0,x1,x2,_⟩:=HCB.out _ HB.out;by_cases hkn:k<np
  ·obtain⟨gf,pf,cf',rfl,hgf,y0,y1,hcap,hnf⟩:=(HN2.out _ (HIN.out _ HB.out)).cells k (by rw[HLP.out];exact hkn)
   have hle:=HPL.out k hkn;rw[hle]at y1 hcap;have HF:Hid (∀ W,Below wr.heap.size wr W->NumsAt .i64 W pf (ph P.phis k).fr/\W.cell? ⟨gf,k*2+1,none⟩=some (.slice pf nr cf')):=aQ (λ W hb=>⟨hnf.below hb,(hb.cell (p:=⟨gf,_,none⟩) hgf).trans y1⟩);have HFL:=aQ hle;have HPR':=aQ (λ j hj=>HPR.out j hj k hkn);generalize (ph P.phis k).id=pid at *;generalize (ph P.phis k).fr=F at *;clear hnf hle;go_wp2_with fail
   go_region
   all_goals go_wp2_with fail
   obtain⟨w4,hw4⟩:∃ W,wr=W:=⟨_,rfl⟩;rw[hw4]at HF HB ⊢;have HIN4:Hid (∀ W,Below w4.heap.size w4 W->Below w1.heap.size w1 W):=aQ (λ W hb=>HB.out.trans (hb.mono HB.out.size));clear hw4 x x0 x1 x2 y0 y1 hgf
   go_loopw [7] (λ v W=>∃ (j:Nat),j<=nr/\v=.int .i64 (j:Int)/\Hid (Below w4.heap.size w4 W)) (λ v _=>nr - (RowKit.intOf v).toNat)
   case atStart=>exact⟨0,Nat.zero_le _,rfl,aQ (aD (Below.refl _ _))⟩
   case round =>
    obtain⟨j,hj,rfl,HBB⟩:=hrel;obtain⟨x,x0,x1,x2,_⟩:=HCB.out _ (HIN4.out _ HBB.out);obtain⟨hnf,y1⟩:=HF.out _ HBB.out;have hgf:gf<wr.heap.size:=World.block_lt_of_cell? wr _ y1;by_cases hjn:j<nr
    ·obtain⟨gp,op,hqp,hgp,e5⟩:=(HN1.out _ (HIN.out _ (HIN4.out _ HBB.out))).cells j (by rw[HLR.out];exact hjn)
     obtain⟨gp2,op2,hpf,_,_⟩:=hnf.cells j (by rw[HFL.out];exact hjn);subst hqp hpf;have hone:=nums_one hnf (j:=j) (by rw[HFL.out];exact hjn);have HALL':=aQ (λ c=>HALL.out (some ⟨gp2,op2+j,none⟩) c [F.getD j 0] (P.pred.getD j 0) 1073741824 wr.drew (aD (HIN.out _ (HIN4.out _ HBB.out))) (hone.below (aD (Below.refl _ _))) (by simp) (λ u hu=>by rw[List.mem_singleton.1 hu];exact HPR'.out j hjn));simp only[List.length_cons,List.length_nil,Nat.zero_add]at HALL';clear hone hnf;generalize P.pred.getD j 0=pj at *;obtain⟨sl1,sl2⟩:=slice_one gp2 op2 nr cf' j hjn hcap wr.drew;have hj1:IntKind.i64.wrap ((j:Int)+1)=(j:Int)+1:=by rw[IntKind.wrap_i64];omega
     go_wp2_with fail
     go_region_with (go_at_call 71;(with_reducible refine(HALL'.out _).mono ?_);rintro e w5 ⟨rfl,hb5⟩;have HBN:=aQ ((aD HBB.out).trans (hb5.mono HBB.out.size));clear hb5)
     all_goals go_wp2_with fail
     all_goals go_roundw
     all_goals first
      | exact⟨j+1,by omega,rfl,HBN⟩
      | ((simp[RowKit.intOf]) <;> omega)
    ·obtain rfl:j=nr:=by omega
     have HBN:=aQ (HIN4.out _ HBB.out);go_wp2_with fail
     go_roundw
     case rel=>exact⟨k+1,by omega,rfl,HBN⟩
     case measure=>simp[RowKit.intOf];omega
  ·obtain rfl:k=np:=by omega
   obtain⟨w4,hw4⟩:∃ W,wr=W:=⟨_,rfl⟩;rw[hw4]at HB x x0 x1 x2 ⊢;have HIN4:Hid (∀ W,Below w4.heap.size w4 W->Below w1.heap.size w1 W):=aQ (λ W hb=>HB.out.trans (hb.mono HB.out.size));go_wp2_with fail
   clear hw4 x x0 x1 x2
   go_loopw [8] (λ v W=>∃ (m:Nat),m<=nn/\v=.int .i64 (m:Int)/\Hid (Below w1.heap.size w1 W)) (λ v _=>nn - (RowKit.intOf v).toNat)
   case atStart=>exact⟨0,Nat.zero_le _,rfl,HB⟩
   case round =>
    clear HB;obtain⟨m,hm,rfl,HB⟩:=hrel;obtain⟨x,x0,x1,x2,x3,x4,x5,x6,x7,x8,x9⟩:=HCB.out _ HB.out;by_cases hmn:m<nn
    ·obtain⟨gn,pa,ca,rfl,hgn,y0,y1,y2,y3,y4,y5,y6,y7,y8,y9,y10,y11,hna⟩:=(HN3.out _ (HIN.out _ HB.out)).at (i:=m) (by rw[HLN.out];exact hmn)
     have HUS':=aQ (HUS.out (nd P.nodes m) pa ca _ hna (Nat.le_trans (HPA.out m hmn) (by omega)));have HUL:=aQ (uses_le (HPA.out m hmn));have HUO:=aQ (HPN.out m hmn);generalize dD (nd P.nodes m)=UL at *;clear hna
     go_wp2_with (first
      | (go_at_call 72;(with_reducible refine HUS'.out.mono ?_);rintro e w5 ⟨pu,cu,rfl,hn5,hb5⟩;have HB5:=aQ (HB.out.trans (hb5.mono HB.out.size));have HN5:=aQ hn5;clear hn5 hb5)
      | (go_at_call 71;(with_reducible refine(HALL.out _ _ _ _ _ _ (HIN.out _ HB5.out) HN5.out HUL.out HUO.out).mono ?_);rintro e w6 ⟨rfl,hb6⟩;have HB6:=aQ (HB5.out.trans (hb6.mono HB5.out.size));clear hb6))
     go_roundw
     case rel=>exact⟨m+1,by omega,rfl,HB6⟩
     case measure=>simp[RowKit.intOf];omega
    ·obtain rfl:m=nn:=by omega
     go_wp2_with (first
      | (go_at_call 73;(with_reducible refine(HEN.out _).mono ?_);rintro e w5 ⟨pu,cu,rfl,hn5,hb5⟩;have HB5:=aQ (HB.out.trans (hb5.mono HB.out.size));have HN5:=aQ hn5;clear hn5 hb5)
      | (go_at_call 71;(with_reducible refine(HALL.out _ _ _ _ _ _ (HIN.out _ HB5.out) HN5.out HEL.out HE.out).mono ?_);rintro e w6 ⟨rfl,hb6⟩;have HB6:=aQ (HIN.out _ (HB5.out.trans (hb6.mono HB5.out.size)));clear hb6))
     go_ret;exact⟨rfl,HB6.out⟩
end Go.Proofs.YtkfahppdklecdaaGreatDoor
