import Derived.Below
import Derived.Test.YtkfahppdklecdaaGreatDoorAA
set_option maxRecDepth 100000
set_option maxHeartbeats 16000000
namespace Go.Proofs.YtkfahppdklecdaaGreatDoor
namespace Fl
structure Fg where
 N:Nat
 su:Nat->List Nat
 ju:Nat->Bool
 nx:Nat->Nat
 ho:Nat->Bool
structure Fg.Ok(G:Fg):Prop where
 pos:0<G.N
 h0:G.ho 0=false
 su:∀ i,i<G.N->G.ho i=false->∀ s∈G.su i,s<G.N/\G.ho s=false
 one:∀ i,i<G.N->G.ho i=false->G.ju i=false->G.su i=[]∨G.su i=[G.nx i]
 nx:∀ i,i<G.N->G.ho i=false->G.nx i=i+1∨(G.nx i=i+2/\G.ho (i+1)=true)
inductive Fg.R(G:Fg):Nat->Prop
 | zero:Fg.R G 0
 | step {i s:Nat}:Fg.R G i->s∈G.su i->Fg.R G s
variable {G:Fg}
theorem Fg.R.ok(hG:G.Ok){i:Nat}(h:G.R i):i<G.N/\G.ho i=false:=by
 induction h with
 | zero=>exact⟨hG.pos,hG.h0⟩
 | step _ hs ih=>exact hG.su _ ih.1 ih.2 _ hs
open Classical in
noncomputable def Fg.rB(G:Fg)(i:Nat):Bool:=decide (G.R i)
theorem Fg.rB_iff{i:Nat}:G.rB i=true↔G.R i:=by
 unfold Fg.rB;simp
noncomputable def Fg.reach(G:Fg):List Nat:=(List.range G.N).filter G.rB
theorem Fg.mem_reach(hG:G.Ok){i:Nat}:i∈G.reach↔G.R i:=by
 unfold Fg.reach;rw[List.mem_filter,List.mem_range,Fg.rB_iff];exact⟨λ h=>h.2,λ h=>⟨(h.ok hG).1,h⟩⟩
noncomputable def Fg.lead(G:Fg)(j:Nat):Bool:=decide (j=0) || G.reach.any λ i=>(G.su i).any λ s=>decide (s=j) && (G.ju i || decide (s≠G.nx i))
theorem Fg.lead_iff{j:Nat}:G.lead j=true↔j=0∨∃ i∈G.reach,j∈G.su i/\(G.ju i=true∨j≠G.nx i):=by
 unfold Fg.lead;simp only[Bool.or_eq_true,decide_eq_true_eq,List.any_eq_true,Bool.and_eq_true];constructor
 ·rintro(h|⟨i,hi,s,hs,rfl,h⟩)
  ·exact .inl h
  ·exact .inr ⟨i,hi,hs,h⟩
 ·rintro(h|⟨i,hi,hs,h⟩)
  ·exact .inl h
  ·exact .inr ⟨i,hi,j,hs,rfl,h⟩
noncomputable def Fg.fin(G:Fg)(i:Nat):Bool:=decide ((G.su i).length≠1) || G.ju i || G.lead ((G.su i).getD 0 0)
theorem Fg.fin_no(hG:G.Ok){i:Nat}(hi:G.R i)(h:G.fin i=false):G.su i=[G.nx i]/\G.ju i=false/\G.lead (G.nx i)=false/\i<G.nx i/\G.R (G.nx i):=by
 unfold Fg.fin at h;simp only[Bool.or_eq_false_iff,decide_eq_false_iff_not,Decidable.not_not]at h;obtain⟨⟨h1,h2⟩,h3⟩:=h;obtain⟨k1,k2⟩:=hi.ok hG;rcases hG.one i k1 k2 h2 with e|e
 ·rw[e]at h1;cases h1
 ·rw[e]at h3
  refine⟨e,h2,h3,?_,.step hi (by rw[e];exact List.mem_singleton.2 rfl)⟩;rcases hG.nx i k1 k2 with e|⟨e,_⟩ <;> omega
noncomputable def Fg.lastF(G:Fg):Nat->Nat->Nat
 | 0,i=>i
 | f+1,i=>if G.fin i=true then i else G.lastF f (G.nx i)
noncomputable def Fg.last(G:Fg)(i:Nat):Nat:=G.lastF (G.N - i) i
theorem Fg.lastF_spec(hG:G.Ok):∀ f i,G.R i->G.N - i<=f->G.lastF f i=G.last i
 | 0,i,hi,h=>by have:=(hi.ok hG).1;omega
 | f+1,i,hi,h=>by
  have hN:=(hi.ok hG).1;obtain⟨m,hm⟩:∃ m,G.N - i=m+1:=⟨G.N - i - 1,by omega⟩;unfold Fg.last;rw[hm];show(if G.fin i=true then i else G.lastF f (G.nx i))=(if G.fin i=true then i else G.lastF m (G.nx i));split
  ·rfl
  ·rename_i hf
   obtain⟨_,_,_,h4,h5⟩:=Fg.fin_no hG hi (by simpa using hf);rw[Fg.lastF_spec hG f _ h5 (by omega),Fg.last];by_cases e:m=G.N - G.nx i
   ·rw[e]
   ·exact(Fg.lastF_spec hG m _ h5 (by omega)).symm
theorem Fg.last_fin(hG:G.Ok){i:Nat}(hi:G.R i)(h:G.fin i=true):G.last i=i:=by
 have hN:=(hi.ok hG).1;obtain⟨m,hm⟩:∃ m,G.N - i=m+1:=⟨G.N - i - 1,by omega⟩;unfold Fg.last;rw[hm];show(if G.fin i=true then i else _)=i;rw[if_pos h]
theorem Fg.last_go(hG:G.Ok){i:Nat}(hi:G.R i)(h:G.fin i=false):G.last i=G.last (G.nx i):=by
 have hN:=(hi.ok hG).1;obtain⟨m,hm⟩:∃ m,G.N - i=m+1:=⟨G.N - i - 1,by omega⟩;obtain⟨_,_,_,h4,h5⟩:=Fg.fin_no hG hi h
 conv=>lhs;unfold Fg.last
 rw[hm];show(if G.fin i=true then i else G.lastF m (G.nx i))=_;rw[if_neg (by rw[h];simp)];exact Fg.lastF_spec hG m _ h5 (by omega)
theorem Fg.walk(hG:G.Ok){P:Nat->Prop}(h1:∀ i,G.R i->G.fin i=true->P i)(h2:∀ i,G.R i->G.fin i=false->P (G.nx i)->P i):∀ i,G.R i->P i:=by
 have:∀ f i,G.R i->G.N - i<=f->P i:=by
  intro f
  induction f with
  | zero=>intro i hi h;have:=(hi.ok hG).1;omega
  | succ f ih =>
   intro i hi h;have hN:=(hi.ok hG).1;cases hf:G.fin i with
   | true=>exact h1 i hi hf
   | false =>
    obtain⟨_,_,_,h4,h5⟩:=Fg.fin_no hG hi hf;exact h2 i hi hf (ih _ h5 (by omega))
 exact λ i hi=>this _ i hi (Nat.le_refl _)
theorem Fg.last_ok(hG:G.Ok):∀ i,G.R i->G.R (G.last i)/\G.fin (G.last i)=true/\i<=G.last i:=by
 refine Fg.walk hG (λ i hi hf=>?_) (λ i hi hf ih=>?_)
 ·rw[Fg.last_fin hG hi hf];exact⟨hi,hf,Nat.le_refl _⟩
 ·obtain⟨_,_,_,h4,_⟩:=Fg.fin_no hG hi hf
  rw[Fg.last_go hG hi hf];exact⟨ih.1,ih.2.1,by omega⟩
noncomputable def Fg.to(G:Fg)(i:Nat):Nat:=G.nx (G.last i)
theorem Fg.to_ok(hG:G.Ok){i:Nat}(hi:G.R i):G.last i<G.to i/\G.to i<=G.last i+2/\i<G.to i:=by
 obtain⟨h1,_,h3⟩:=Fg.last_ok hG i hi;obtain⟨k1,k2⟩:=h1.ok hG;unfold Fg.to;rcases hG.nx _ k1 k2 with e|⟨e,_⟩ <;> omega
theorem Fg.inside(hG:G.Ok):∀ i,G.R i->∀ r,G.R r->i<=r->r<G.to i->r=i∨G.lead r=false:=by
 refine Fg.walk hG (λ i hi hf=>?_) (λ i hi hf ih=>?_)
 ·intro r hr h1 h2
  unfold Fg.to at h2;rw[Fg.last_fin hG hi hf]at h2;obtain⟨k1,k2⟩:=hi.ok hG;rcases hG.nx i k1 k2 with e|⟨e,hh⟩
  ·exact .inl (by omega)
  ·by_cases e2:r=i
   ·exact .inl e2
   ·obtain rfl:r=i+1:=by omega
    have:=(hr.ok hG).2;rw[hh]at this;cases this
 ·intro r hr h1 h2
  obtain⟨_,_,h3,h4,h5⟩:=Fg.fin_no hG hi hf;have et:G.to i=G.to (G.nx i):=by unfold Fg.to;rw[Fg.last_go hG hi hf]
  rw[et]at h2;by_cases e:r=i
  ·exact .inl e
  ·obtain⟨k1,k2⟩:=hi.ok hG
   have hge:G.nx i<=r:=by
    rcases hG.nx i k1 k2 with e1|⟨e1,hh⟩
    ·omega
    ·by_cases e2:r=i+1
     ·subst e2
      have:=(hr.ok hG).2;rw[hh]at this;cases this
     ·omega
   rcases ih r hr hge h2 with e3|e3
   ·exact .inr (e3 ▸ h3)
   ·exact .inr e3
theorem Fg.apart(hG:G.Ok){a b:Nat}(ha:G.R a)(hb:G.R b)(hlb:G.lead b=true)(h:a<b):G.to a<=b:=by
 rcases Nat.lt_or_ge b (G.to a)with h2|h2
 ·rcases Fg.inside hG a ha b hb (by omega) h2 with e|e
  ·omega
  ·rw[hlb]at e;cases e
 ·exact h2
theorem Fg.lead0:G.lead 0=true:=Fg.lead_iff.2 (.inl rfl)
theorem Fg.on(hG:G.Ok):∀ a,G.R a->∀ i,G.R i->a<=i->i<G.to a->G.fin i=false->G.nx i<G.to a:=by
 refine Fg.walk hG (λ a ha hf=>?_) (λ a ha hf ih=>?_)
 ·intro i hi h1 h2 h3
  unfold Fg.to at h2;rw[Fg.last_fin hG ha hf]at h2;obtain⟨k1,k2⟩:=ha.ok hG
  have:i=a:=by
   rcases hG.nx a k1 k2 with e|⟨e,hh⟩
   ·omega
   ·by_cases e2:i=a
    ·exact e2
    ·obtain rfl:i=a+1:=by omega
     have:=(hi.ok hG).2;rw[hh]at this;cases this
  rw[this,hf]at h3;cases h3
 ·intro i hi h1 h2 h3
  obtain⟨_,_,_,h4,h5⟩:=Fg.fin_no hG ha hf;have et:G.to a=G.to (G.nx a):=by unfold Fg.to;rw[Fg.last_go hG ha hf]
  by_cases e:i=a
  ·rw[e,et];exact(Fg.to_ok hG h5).2.2
  ·obtain⟨k1,k2⟩:=ha.ok hG
   have hge:G.nx a<=i:=by
    rcases hG.nx a k1 k2 with e1|⟨e1,hh⟩
    ·omega
    ·by_cases e2:i=a+1
     ·subst e2
      have:=(hi.ok hG).2;rw[hh]at this;cases this
     ·omega
   rw[et];exact ih i hi hge (et ▸ h2) h3
theorem Fg.cover(hG:G.Ok){r:Nat}(h:G.R r):∃ a,G.R a/\G.lead a=true/\a<=r/\r<G.to a:=by
 induction h with
 | zero=>exact⟨0,.zero,Fg.lead0,Nat.le_refl _,(Fg.to_ok hG .zero).2.2⟩
 | @step i s hi hs ih =>
  have hsR:G.R s:=.step hi hs;cases hl:G.lead s with
  | true=>exact⟨s,hsR,hl,Nat.le_refl _,(Fg.to_ok hG hsR).2.2⟩
  | false =>
   obtain⟨a,ha,hla,h1,h2⟩:=ih
   have hj:¬ (G.ju i=true∨s≠G.nx i):=λ c=>by
    have:=Fg.lead_iff.2 (.inr ⟨i,(Fg.mem_reach hG).2 hi,hs,c⟩);rw[hl]at this;cases this
   have e1:G.ju i=false:=by cases h:G.ju i <;> simp_all
   have e2:s=G.nx i:=Classical.byContradiction λ c=>hj (.inr c)
   obtain⟨k1,k2⟩:=hi.ok hG
   have e3:G.su i=[G.nx i]:=by
    rcases hG.one i k1 k2 e1 with e|e
    ·rw[e]at hs;cases hs
    ·exact e
   have hf:G.fin i=false:=by
    unfold Fg.fin;rw[e1,e3];simp only[List.length_singleton,ne_eq,not_true_eq_false,decide_false,Bool.or_self,List.getD_cons_zero,Bool.false_or];rw[<- e2];exact hl
   refine⟨a,ha,hla,?_,?_⟩
   ·have:=(Fg.fin_no hG hi hf).2.2.2.1
    omega
   ·rw[e2];exact Fg.on hG a ha i hi h1 h2 hf
end Fl
end Go.Proofs.YtkfahppdklecdaaGreatDoor
namespace Go.Proofs.YtkfahppdklecdaaGreatDoor
namespace Fl
variable {G:Fg}
structure Fg.Ld(G:Fg)(k m:Nat)(L:List Bool):Prop where
 len:L.length=G.N+2
 is:∀ j,L.getD j false=true↔j=0∨(∃ i∈G.reach.take k,j∈G.su i/\(G.ju i=true∨j≠G.nx i)) ∨
  ∃ m',m'<m/\m'<(G.su (G.reach.getD k 0)).length/\(G.su (G.reach.getD k 0)).getD m' 0=j/\(G.ju (G.reach.getD k 0)=true∨j≠G.nx (G.reach.getD k 0))
theorem getD_set_v(L:List Bool)(s j:Nat)(v:Bool)(hs:s<L.length):(L.set s v).getD j false=if j=s then v else L.getD j false:=by
 rw[List.getD_eq_getElem?_getD,List.getElem?_set,List.getD_eq_getElem?_getD];by_cases e:s=j
 ·subst e
  simp[hs]
 ·rw[if_neg e,if_neg (λ h=>e h.symm)]
theorem Fg.Ld.start(G:Fg):G.Ld 0 0 ((List.replicate (G.N+2) false).set 0 true):=by
 refine⟨by simp,λ j=>?_⟩;rw[getD_set_v _ _ _ _ (by simp)]
 have h0:(List.replicate (G.N+2) false).getD j false=false:=by
  rw[List.getD_eq_getElem?_getD,List.getElem?_replicate];by_cases h:j<G.N+2
  ·rw[if_pos h];rfl
  ·rw[if_neg h];rfl
 rw[h0];by_cases e:j=0
 ·rw[if_pos e];exact⟨λ _=>.inl e,λ _=>rfl⟩
 ·rw[if_neg e]
  constructor
  ·intro h;cases h
  ·rintro(h|⟨i,hi,_⟩|⟨m,hm,_⟩)
   ·exact absurd h e
   ·simp at hi
   ·exact absurd hm (Nat.not_lt_zero _)
theorem Fg.Ld.step{k m:Nat}{L:List Bool}(h:G.Ld k m L)(hm:m<(G.su (G.reach.getD k 0)).length)(hs:(G.su (G.reach.getD k 0)).getD m 0<G.N+2) :
  G.Ld k (m+1) (L.set ((G.su (G.reach.getD k 0)).getD m 0) (L.getD ((G.su (G.reach.getD k 0)).getD m 0) false || G.ju (G.reach.getD k 0) || decide ((G.su (G.reach.getD k 0)).getD m 0≠G.nx (G.reach.getD k 0)))):=by
 refine⟨by simpa using h.len,λ j=>?_⟩;rw[getD_set_v _ _ _ _ (by rw[h.len];exact hs)];have hj:=h.is j;generalize G.reach.getD k 0=i at *;by_cases e:j=(G.su i).getD m 0
 ·rw[if_pos e,<- e,Bool.or_eq_true,Bool.or_eq_true,hj,decide_eq_true_eq]
  constructor
  ·rintro(((h|h|⟨m',h1,h2⟩)|h)|h)
   ·exact .inl h
   ·exact .inr (.inl h)
   ·exact .inr (.inr ⟨m',by omega,h2⟩)
   ·exact .inr (.inr ⟨m,by omega,hm,e.symm,.inl h⟩)
   ·exact .inr (.inr ⟨m,by omega,hm,e.symm,.inr h⟩)
  ·rintro(h|h|⟨m',h1,h2,h3,h4⟩)
   ·exact .inl (.inl (.inl h))
   ·exact .inl (.inl (.inr (.inl h)))
   ·rcases h4 with h4|h4
    ·exact .inl (.inr h4)
    ·exact .inr h4
 ·rw[if_neg e,hj]
  constructor
  ·rintro(h|h|⟨m',h1,h2⟩)
   ·exact .inl h
   ·exact .inr (.inl h)
   ·exact .inr (.inr ⟨m',by omega,h2⟩)
  ·rintro(h|h|⟨m',h1,h2,h3,h4⟩)
   ·exact .inl h
   ·exact .inr (.inl h)
   ·refine .inr (.inr ⟨m',?_,h2,h3,h4⟩)
    by_cases e2:m'=m
    ·rw[e2]at h3;exact absurd h3.symm e
    ·omega
theorem Fg.Ld.next{k:Nat}{L:List Bool}(h:G.Ld k (G.su (G.reach.getD k 0)).length L)(hk:k<G.reach.length):G.Ld (k+1) 0 L:=by
 refine⟨h.len,λ j=>?_⟩;rw[h.is j]
 have ht:G.reach.take (k+1)=G.reach.take k ++ [G.reach.getD k 0]:=by
  rw[List.take_add_one,List.getD_eq_getElem?_getD,List.getElem?_eq_getElem hk];rfl
 rw[ht];generalize G.reach.getD k 0=i at *;constructor
 ·rintro(h|⟨a,h1,h2⟩|⟨m,h1,h2,h3,h4⟩)
  ·exact .inl h
  ·exact .inr (.inl ⟨a,List.mem_append_left _ h1,h2⟩)
  ·refine .inr (.inl ⟨i,by simp,?_,h4⟩)
   rw[<- h3,List.getD_eq_getElem?_getD,List.getElem?_eq_getElem h2];exact List.getElem_mem h2
 ·rintro(h|⟨a,h1,h2,h3⟩|⟨m,h1,_⟩)
  ·exact .inl h
  ·rcases List.mem_append.1 h1 with h1|h1
   ·exact .inr (.inl ⟨a,h1,h2,h3⟩)
   ·obtain rfl:=List.mem_singleton.1 h1
    obtain⟨m,hm,e⟩:=List.getElem_of_mem h2;exact .inr (.inr ⟨m,hm,hm,by rw[List.getD_eq_getElem?_getD,List.getElem?_eq_getElem hm];exact e,h3⟩)
  ·exact absurd h1 (Nat.not_lt_zero _)
theorem Fg.Ld.done{L:List Bool}(h:G.Ld G.reach.length 0 L):∀ j,L.getD j false=G.lead j:=by
 intro j;rw[Bool.eq_iff_iff,h.is j,Fg.lead_iff,List.take_length];constructor
 ·rintro(h|h|⟨m,hm,_⟩)
  ·exact .inl h
  ·exact .inr h
  ·exact absurd hm (Nat.not_lt_zero _)
 ·rintro(h|h)
  ·exact .inl h
  ·exact .inr (.inl h)
end Fl
end Go.Proofs.YtkfahppdklecdaaGreatDoor
