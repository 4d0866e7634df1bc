import Derived.Lib.Hide
import Derived.Deep.RegionHeld3
set_option maxRecDepth 100000
set_option maxHeartbeats 16000000
namespace Go.Proofs.YtkfahppdklecdaaGreatDoor
theorem aQ{p:Prop}(h:p):RowKit.Hid p:=h
theorem aA{α:Type}(l:List α)(i:Nat)(a:α):l.toArray.setIfInBounds i a=(l.set i a).toArray:=by simp
theorem aB{α:Type}(l:List α)(a b:α):(a :: l).set 0 b=b :: l:=List.set_cons_zero ..
theorem aC{α:Type}(l:List α)(n:Nat)(a b:α):(a :: l).set (n+1) b=a :: l.set n b:=List.set_cons_succ ..
theorem aT{P:Program}{md:Region.Mode}{l:List Oper}{Q:Exit->Act->World->Prop}{S:World->Prop}(i:Nat){oi:Oper}{v:Value}{fuel:Nat}{listed:Array Bool}{a:Act}{w:World}(hi:l[i]?=some oi)
  (hs:Region.noSelect l.toArray=true:=by kernel_rfl) (hf:Region.free md l.toArray listed i=true:=by kernel_rfl) (hr:(Region.ready md l.toArray listed).contains i=true:=by kernel_rfl)
  (hw:Region.wanted oi (yielded l.toArray a.tmps)=true:=by rfl)
  (hy:∀ w,S w->(execOp a.eval oi).run P w=.ok (.value v) w:=by intro w hSw;(try simp only[Act.put,aA,aB,aC]);(try dsimp only at hSw);go_simp;try with_reducible rfl)
  (hQ:∀ c a w,Q (.panic c) (a.put oi.dst v) w->Q (.panic c) a w:=by exact λ _ _ _ h=>h) (hS:S w:=by assumption)
  (h:wpAnyH P md l.toArray Q S fuel (listed.setIfInBounds i true) (a.put oi.dst v) w):wpAnyH P md l.toArray Q S (fuel+1) listed a w :=
 wpAnyH_take (by simpa using hi) hs hf hr hQ (Or.inl ⟨hw,hy⟩) hS h
theorem aU{P:Program}{md:Region.Mode}{l:Array Oper}{Q:Exit->Act->World->Prop}{S:World->Prop}(i:Nat)(d:Option Tmp){oi:Oper}{v:Value}{fuel:Nat}{listed:Array Bool}{a:Act}{w:World}(hi:l[i]?=some oi)
  (hd:oi.dst=d:=by rfl) (hs:Region.noSelect l=true:=by kernel_rfl) (hf:Region.free md l listed i=true:=by kernel_rfl) (hr:(Region.ready md l listed).contains i=true:=by kernel_rfl)
  (hw:Region.wanted oi (yielded l a.tmps)=true:=by rfl)
  (hy:∀ w,S w->(execOp a.eval oi).run P w=.ok (.value v) w:=by intro w hSw;(try simp only[Act.put,aA,aB,aC]);(try dsimp only at hSw);go_simp;try with_reducible rfl)
  (hQ:∀ c a w,Q (.panic c) (a.put d v) w->Q (.panic c) a w:=by exact λ _ _ _ h=>h) (hS:S w:=by assumption)
  (h:wpAnyH P md l Q S fuel (listed.setIfInBounds i true) (a.put d v) w):wpAnyH P md l Q S (fuel+1) listed a w:=by
 subst hd;exact wpAnyH_take hi hs hf hr hQ (Or.inl ⟨hw,hy⟩) hS h
theorem aV{P:Program}{md:Region.Mode}{l:Array Oper}{Q:Exit->Act->World->Prop}{S:World->Prop}(i:Nat)(d:Option Tmp){oi:Oper}{fuel:Nat}{listed:Array Bool}{a:Act}{w:World}(hi:l[i]?=some oi)
  (hd:oi.dst=d:=by rfl) (hs:Region.noSelect l=true:=by kernel_rfl) (hf:Region.free md l listed i=true:=by kernel_rfl) (hr:(Region.ready md l listed).contains i=true:=by kernel_rfl)
  (hw:Region.wanted oi (yielded l a.tmps)=false:=by rfl)
  (hQ:∀ c a w,Q (.panic c) (a.put d undef) w->Q (.panic c) a w:=by exact λ _ _ _ h=>h) (hS:S w:=by assumption)
  (h:wpAnyH P md l Q S fuel (listed.setIfInBounds i true) (a.put d undef) w):wpAnyH P md l Q S (fuel+1) listed a w:=by
 subst hd;exact wpAnyH_take hi hs hf hr hQ (Or.inr ⟨hw,rfl⟩) hS h
end Go.Proofs.YtkfahppdklecdaaGreatDoor
