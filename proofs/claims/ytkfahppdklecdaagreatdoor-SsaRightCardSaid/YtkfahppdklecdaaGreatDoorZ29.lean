import Derived.Test.YtkfahppdklecdaaGreatDoorRows
import Derived.LaidMore
import Derived.LaidHandle
import Derived.Deep.DeepHandedRow
import Derived.Test.YtkfahppdklecdaaGreatDoorZ28
import Derived.Stop.LaidTwo
set_option maxRecDepth 100000
set_option maxHeartbeats 16000000
namespace Go.Proofs.YtkfahppdklecdaaGreatDoor
open Go.ChangeShapes Go.WideShapes Go.ChangeAt Go.RowKit
theorem own:ownKnob Tryz.prog.godebug=none:=by kernel_rfl
theorem laidOut:laidOutB Tryz.prog=true:=by kernel_rfl
theorem stays_all{H:Type}{enc:TypeId×Value->H}{W W':World}(hb:Below W.heap.size W W'):∀ (ts:List TypeId) (vs:List Value) (ds:List (DataW H)) (ps:List MemPlace),
  (∀ t∈ts,Tryz.prog.readableRec t=true/\t<Tryz.prog.types.size)->DataW.TrodAll enc Tryz.prog W 0 (λ _=>true) true ts vs ds ps->(∀ x∈ps,x.block<W.heap.size) ->
  DataW.TrodAll enc Tryz.prog W' 0 (λ b=>decide (b<W.heap.size)) true ts vs ds ps
 | [],vs,ds,ps,_,h,_=>by
  obtain⟨rfl,rfl,rfl⟩:=trodAll_nil h;exact trodAll_mk0
 | t :: ts,vs,ds,ps,hr,h,hlt=>by
  obtain⟨v,vs',d,ds',p,q,rfl,rfl,rfl,h0,h1⟩:=trodAll_cons h
  exact trodAll_cons_mk (Below.trod laidOut (hr t (List.mem_cons_self ..)).1 (hr t (List.mem_cons_self ..)).2 h0 hb (λ x hx=>hlt x (List.mem_append_left _ hx)))
   (stays_all hb ts vs' ds' q (λ u hu=>hr u (List.mem_cons_of_mem _ hu)) h1 (λ x hx=>hlt x (List.mem_append_right _ hx)))
theorem law_post{H:Type}{enc:TypeId×Value->H}{f:Func}{s:ChangeSpec}{W W':World}{args:Array Value}{ds gs:List (DataW H)}{before:List MemPlace}
  (hW:DataW.Whole enc Tryz.prog f.params.toList s.vars false W args.toList ds gs before) (hvars:s.vars=[]) (hres:f.resultTypes=#[4])
  (hread:∀ t∈f.params.toList,Tryz.prog.readableRec t=true/\t<Tryz.prog.types.size)
  (hfn:s.fn H (ds ++ gs) = { results:=[.lit (.bool true)],args:=ds }) (hb:Below W.heap.size W W') :
  s.post enc Tryz.prog f false true false false W args (.bool true) W':=by
 have hW':=hW;obtain⟨p,q,hA,hV,rfl,_,_⟩:=hW;rw[hvars]at hV;obtain⟨rfl,rfl⟩:=trodVars_none hV;have hlt:∀ x∈p,x.block<W.heap.size:=λ x hx=>hW'.lt x (by simpa using hx)
 refine⟨ds,[],p ++ [],[],p,[],hW',?_,?_,?_,hb.frame _,λ h=>by cases h⟩
 ·rw[hfn,hres]
  exact trodAll_cons_mk (shut_bool Tryz.underlying4 _) trodAll_mk0
 ·rw[hfn]
  exact stays_all hb _ _ _ _ hread hA hlt
 ·rw[hfn,hvars]
  rfl
theorem read_of{ts:List TypeId}(h:(ts.all λ t=>Tryz.prog.readableRec t && decide (t<Tryz.prog.types.size))=true):∀ t∈ts,Tryz.prog.readableRec t=true/\t<Tryz.prog.types.size:=by
 intro t ht;have:=List.all_eq_true.1 h t ht;simpa using this
end Go.Proofs.YtkfahppdklecdaaGreatDoor
namespace Go.Proofs.YtkfahppdklecdaaGreatDoor
open Go.RowKit M
def laid1:List (String×DataW Unit):=[("clevis/ssa.arguments",Rows.laid_clevis_ssa_arguments)]
def argsT:List Int:=[0,0,1,2,2,3]
theorem argsT_at:∀ i,i<6->argsT.getD i 0=((arity (i:Int):Nat):Int):=by decide
theorem laid_args:(Rows.laid_clevis_ssa_arguments:DataW Unit)=.agg (argsT.map λ n=>.lit (.int .i64 n)):=by kernel_rfl
theorem lda_of_laid{W:World}(h0:laidMetH Tryz.prog laid1 W):LdA W:=by
 rw[MakeChecks.laidMetH_plain _ _ _ (by kernel_rfl)]at h0;obtain⟨ps,⟨g,t,cs,fuel,p,q,hg,ht,hv,hd,_,_⟩,_,_⟩:=h0;obtain rfl:=Option.some.inj ((show Tryz.prog.globalNamed "clevis/ssa.arguments" = some 0 by kernel_rfl).symm.trans hg);obtain rfl:=Option.some.inj ((show(Tryz.prog.globals[0]?).map (·.type)=some 247 by kernel_rfl).symm.trans ht);obtain⟨xs,m,_,ex,_,hl,hel⟩:=DataW.trod_array Tryz.underlying247 hd;have c5:Tryz.prog.cellsOf 3=1:=by kernel_rfl
 have hlen:argsT.length=6:=rfl
 have e3:(xs.map (·.1))=argsT.map λ n=>.lit (.int .i64 n):=by
  have:=(Prod.mk.inj ex).1;rw[laid_args]at this;exact(DataW.agg.inj this).symm
 have hc:∀ r,r<6->W.cell? ⟨0,r,none⟩=some (.int .i64 (argsT.getD r 0)):=by
  intro r hr;have hE:=hel r hr;rw[c5,Nat.mul_one,List.getElem?_eq_getElem (by omega)]at hE;obtain⟨z,e1,e2,_⟩:=DataW.trod_int Tryz.underlying3 hE;have e4:(xs.map (·.1))[r]?=(argsT.map λ n=>(DataW.lit (.int .i64 n):DataW Unit))[r]?:=by rw[e3]
  rw[List.getElem?_map,List.getElem?_map,List.getElem?_eq_getElem (by omega:r<xs.length),List.getElem?_eq_getElem (by omega:r<argsT.length),e2]at e4
  have hz:z=argsT.getD r 0:=by
   simp only[Option.map_some,Option.some.injEq,DataW.lit.injEq,Lit.int.injEq,true_and]at e4;rw[e4,List.getD,List.getElem?_eq_getElem (by omega:r<argsT.length)];rfl
  rw[World.var?_cell hg hv r,<- hz]
  have:cs.toList[r]?=some (.int .i64 z):=by
   have h0:((cs.toList.drop r).take 1)[0]?=some (.int .i64 z):=by rw[e1];rfl
   simpa using h0
  simpa using this
 refine⟨?_,λ i hi=>by rw[hc i hi,argsT_at i hi]⟩;have h:=hc 0 (by omega);by_cases hb:0<W.heap.size
 ·exact hb
 ·simp[World.cell?,hb]at h
theorem door_met17(os:Os)(args:Array Value):laidMetH Tryz.prog laid1 ((World.doorLaid Tryz.prog 180 os).forCall (λ _ _=>0) ⟨#[],args,[]⟩).memory :=
 laidMetH_of_parts3 (fuel:=8) (laidMet_of_run' 8 (by kernel_rfl) (by kernel_rfl)) (by kernel_rfl) (by kernel_rfl)
end Go.Proofs.YtkfahppdklecdaaGreatDoor
