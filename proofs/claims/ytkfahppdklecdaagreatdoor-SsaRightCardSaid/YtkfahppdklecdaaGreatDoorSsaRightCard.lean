/- SsaRight: the code that is built of a right program of at most 200 instructions may be, has a part for each block and at most one more, and no part with one Pred has phis; and no other program has one; for every program, and every memory that bears it. -/
import Derived.Test.YtkfahppdklecdaaGreatDoorCards
import Derived.Test.YtkfahppdklecdaaGreatDoorTie
import Derived.Test.YtkfahppdklecdaaGreatDoorZ29
import Derived.Test.YtkfahppdklecdaaGreatDoorZ42
set_option maxRecDepth 100000
namespace Go.Proofs.YtkfahppdklecdaaGreatDoor.lawSsaRight
open Go.ChangeShapes Go.WideShapes Go.ChangeAt Go.RowKit M
theorem weight_le{H:Type}{ts:List TypeId}{ds:List (DataW H)}(h:(DataW.weightsEach Tryz.prog ts ds).all (·<=reachBytes)=true){j:Nat}{t:TypeId}{d:DataW H}(ht:ts[j]?=some t)(hd:ds[j]?=some d) :
  ∀ k∈d.weights Tryz.prog t,k<=140737488351232:=λ k hk=>by
 have:=List.all_eq_true.1 h k (DataW.weights_mem_each ht hd k hk);have h2:k<=reachBytes:=of_decide_eq_true this;simpa[reachBytes]using h2
theorem contract(H:Type)(enc:TypeId×Value->H)(W:World)(base:Nat)(args:Array Value)(ds gs:List (DataW H))(before:List MemPlace)
  (hval:∀ (j:Nat) t v,Tryz.f3.params[j]?=some t->args[j]?=some v->Value.okWide Tryz.prog W .any base t v)
  (hW:DataW.Whole enc Tryz.prog Tryz.f3.params.toList Rows.ssaRightSpec.vars false W args.toList ds gs before) (hL:laidMetH Tryz.prog Rows.ssaRightRow.laid W)
  (hsz:(DataW.weightsEach Tryz.prog (Tryz.f3.params.toList ++ (OpenSpec.ofChange Rows.ssaRightSpec).bare.plain.varTypes Tryz.prog) (ds ++ gs)).all (·<=reachBytes)=true) :
  Calls Tryz.prog 3 args W λ e W'=>∃ v,e=.returned v/\Rows.ssaRightSpec.post enc Tryz.prog Tryz.f3 false true false false W args v W':=by
 have hW':=hW;have hld:=lda_of_laid (W:=W) (by rw[show Rows.ssaRightRow.laid=laid1 from rfl]at hL;exact hL);obtain⟨p,q,hA0,hV,rfl,hfz,hnd⟩:=hW;have hA:DataW.TrodAll enc Tryz.prog W 0 (λ _=>true) true Tryz.f3.params.toList args.toList ds p:=hA0;rw[Tryz.params3]at hA hval hsz;obtain⟨v0,vs0,d0,ds0,p0,q0,hargs,rfl,rfl,h0,r0⟩:=trodAll_cons hA;obtain⟨rfl,rfl,rfl⟩:=trodAll_nil r0;obtain rfl:args=#[v0]:=by cases args;simp_all
 obtain⟨rfl,rfl⟩:=trodVars_none hV;obtain⟨q0,c0,l0,rfl,n0,b0⟩:=open_list (hval 0 22 v0 rfl rfl) h0 (weight_le hsz (j:=0) rfl rfl);refine(jT q0 c0 l0 W b0 n0 hld).mono λ e W' ⟨he,hb⟩=>⟨_,he,?_⟩
 exact law_post hW' rfl (by kernel_rfl) (read_of (by kernel_rfl)) (by kernel_rfl) hb
theorem reads(os:Os){H:Type}(enc:TypeId×Value->H):∃ places,DataW.whole enc Tryz.prog ((World.doorLaid Tryz.prog 180 os).forCall (λ _ _=>0) ⟨#[],#[Value.slice none 0 0],[]⟩).memory Tryz.f3.params.toList Rows.ssaRightSpec.vars false
  #[Value.slice none 0 0].toList 8=some ([.nil],[],places) :=
 ⟨[],by kernel_rfl⟩
theorem lifted(os:Os)(started:os.Started)(H:Type)(enc:TypeId×Value->H)(F:Stop.Interp) :
  ReturnsInHanded {} Tryz.checked os 3 .any ((OpenSpec.ofChange Rows.ssaRightSpec).preRow enc Tryz.prog Tryz.f3 Rows.ssaRightRow.domain false Rows.ssaRightRow.laid) (((OpenSpec.ofChange Rows.ssaRightSpec).at F).post enc Tryz.prog Tryz.f3 false true false false):=by
 obtain⟨places,hx⟩:=reads os enc
 refine returnsInHanded_of_row (C:=Tryz.checked) (s:=OpenSpec.ofChange Rows.ssaRightSpec) own started (by kernel_rfl) Tryz.func3
  ⟨World.doorLaid Tryz.prog 180 os,λ _ _=>0,⟨#[],#[Value.slice none 0 0],[]⟩,rfl,World.shaped_of_RefB (by kernel_rfl) (by kernel_rfl),rfl,(Input.okWide_of_okWideB (by kernel_rfl)).2,
   OpenSpec.preRow_of_cond 8 hx (by kernel_rfl) (λ k hk=>by cases hk) (by kernel_rfl) (door_met17 os _),by simp only[Assume.holds];exact⟨by simp,by simp,λ _=>Modest.zero,by simp,by simp⟩⟩ ?_
 intro W base args ds gs before hval hW _ _ hsz hL _ _;exact contract H enc W base args ds gs before hval hW hL hsz
theorem said:Rows.SsaRightSaid :=
 OpenClaim.holds_of_cond 3 Tryz.f3 rfl rfl rfl rfl rfl rfl rfl ⟨rfl,rfl,rfl,rfl,rfl⟩ rfl rfl rfl rfl rfl (by kernel_rfl) Tryz.func3 (by kernel_rfl)
  (of_decide_eq_true (by kernel_rfl)) (by unfold Func.isWrapper;first|(rw[if_pos (by decide +kernel)];kernel_rfl)|(rw[if_neg (by decide +kernel)];exact⟨rfl,rfl⟩))
  (λ os started H enc _ F=>by rw[OpenClaim.pre_eq_preRow];exact lifted os started H enc F)
theorem plain(f:FuncId)(fn:Func)(hf:Tryz.pinned.checked.prog.funcNamed "clevis/clevislaw17.SsaRight" = some f)(hfn:Tryz.pinned.checked.prog.funcs[f]?=some fn) :
  false=Tryz.pinned.checked.prog.looks []/\∀ (j:Nat) t,fn.params[j]?=some t->Tryz.pinned.checked.prog.wantsStandIn t=false:=by
 obtain rfl:f=3:=Option.some.inj ((show Tryz.prog.funcNamed "clevis/clevislaw17.SsaRight" = some 3 by kernel_rfl).symm.trans hf) |>.symm
 obtain rfl:fn=Tryz.f3:=(Option.some.inj (Tryz.func3.symm.trans hfn)).symm;refine⟨by kernel_rfl,λ j t ht=>?_⟩;rw[Tryz.params3]at ht;have hm:t∈[22]:=by simpa using Array.mem_of_getElem? ht
 have hall:([22].all λ u=>!Tryz.prog.wantsStandIn u)=true:=by kernel_rfl
 exact(show Tryz.prog.wantsStandIn t=false by simpa using List.all_eq_true.1 hall t hm)
theorem card:Rows.SsaRightCardSaid :=
 Claim7.holds_tied_plain_at .later [] _ _ _ _ said (λ _ h=>by cases h) (by kernel_rfl) (λ _ h=>by cases h) ssaRight_row_tie rfl ⟨rfl,rfl⟩ (by kernel_rfl) rfl plain (by kernel_rfl)
end Go.Proofs.YtkfahppdklecdaaGreatDoor.lawSsaRight
