import Derived.Test.YtkfahppdklecdaaGreatDoorZ15
import Derived.Laws.EntriesVeiled
import Derived.Test.YtkfahppdklecdaaGreatDoorZ14
import Derived.Test.YtkfahppdklecdaaGreatDoorZ10
import Derived.Test.YtkfahppdklecdaaGreatDoorShelf
import Derived.Sort.OwnSortedInts
set_option maxRecDepth 100000
set_option maxHeartbeats 16000000
namespace Go.Proofs.YtkfahppdklecdaaGreatDoor.J
section
variable {P:Program} {md:Region.Mode} {l:List Oper} {Q:Exit->Act->World->Prop} {S:World->Prop}
theorem held_take(i:Nat){oi:Oper}{v:Value}{fuel:Nat}{listed:Array Bool}{a:Act}{w:World}(hi:l[i]?=some oi)
  (hs:Region.noSelect l.toArray=true) (hf:Region.free md l.toArray listed i=true) (hr:(Region.ready md l.toArray listed).contains i=true)
  (hQ:∀ c a w,Q (.panic c) (a.put oi.dst v) w->Q (.panic c) a w) (hy:YieldsIf P l.toArray S oi v a) (hS:S w)
  (h:wpAnyH P md l.toArray Q S fuel (listed.setIfInBounds i true) (a.put oi.dst v) w):wpAnyH P md l.toArray Q S (fuel+1) listed a w :=
 wpAnyH_take (by simpa using hi) hs hf hr hQ hy hS h
theorem aK(i:Nat){o:Oper}{fuel:Nat}{listed:Array Bool}{a:Act}{w:World}(hr:Region.ready md l.toArray listed=[i])(ho:l[i]?=some o)
  (h:∀ K':Act->World->Prop,Shut (∀ a w,S w->(S w->wpAnyH P md l.toArray Q S fuel (listed.setIfInBounds i true) a w)->K' a w)->if Region.wanted o (yielded l.toArray a.tmps)=true then Oper.wp P o a w K' Q else K' (a.put o.dst undef) w) :
  wpAnyH P md l.toArray Q S (fuel+1) listed a w :=
 wpAnyH_ready hr (by simp) (AllReadyH.cons (by simpa using ho) h AllReadyH.nil)
theorem bY(i j:Nat){o o':Oper}{fuel:Nat}{listed:Array Bool}{a:Act}{w:World}(hr:Region.ready md l.toArray listed=[i,j])(ho:l[i]?=some o)(ho':l[j]?=some o')
  (h:∀ K':Act->World->Prop,Shut (∀ a w,S w->(S w->wpAnyH P md l.toArray Q S fuel (listed.setIfInBounds i true) a w)->K' a w)->if Region.wanted o (yielded l.toArray a.tmps)=true then Oper.wp P o a w K' Q else K' (a.put o.dst undef) w)
  (h':∀ K':Act->World->Prop,Shut (∀ a w,S w->(S w->wpAnyH P md l.toArray Q S fuel (listed.setIfInBounds j true) a w)->K' a w)->if Region.wanted o' (yielded l.toArray a.tmps)=true then Oper.wp P o' a w K' Q else K' (a.put o'.dst undef) w) :
  wpAnyH P md l.toArray Q S (fuel+1) listed a w :=
 wpAnyH_ready hr (by simp) (AllReadyH.cons (by simpa using ho) h (AllReadyH.cons (by simpa using ho') h' AllReadyH.nil))
end
end Go.Proofs.YtkfahppdklecdaaGreatDoor.J
namespace Go.Proofs.YtkfahppdklecdaaGreatDoor.J
open Go.RowKit
open Dm
def VisP(w:World)(b m:Nat)(dn:List Int)(n0 i:Nat)(T:Ws)(e:Ending)(w':World):Prop :=
 e=.returned (.int .i64 (-1))/\∃ dn' f q c,dn'.length=T.nodes.length/\(∀ k,k<n0->k≠i->dn'.getD k 0=dn.getD k 0)/\To w w' b m T dn' f q c
def VisC(w:World)(b m N:Nat)(cl:Int)(su:Nat->List Int)(bs bt bo bv room:Nat):Prop :=
 ∀ (S:Ws) (dn:List Int) (i:Nat) (R:Int) (W:World) (f:Int->Option Int) (q:Nat->Option Addr) (c:Nat->Nat),R=(room:Int)->Wf N cl S->i<S.nodes.length->N<=S.nodes.length+room->S.left.length<S.nodes.length->dn.length=S.nodes.length->dn.getD i 0=0->To w W b m S dn f q c ->
  Calls Tryz.prog 133 #[.int .i64 (i:Int),.int .i64 R,.pointer (some ⟨bs,0,none⟩),.pointer (some ⟨bt,0,none⟩),.pointer (some ⟨bo,0,none⟩),.pointer (some ⟨bv,0,none⟩)] W (VisP w b m dn S.nodes.length i (vz N cl su (room+1) S i))
structure Vj(w W:World)(b m N:Nat)(cl:Int)(S T:Ws)(dn dn':List Int)(i j:Nat)(f:Int->Option Int)(q:Nat->Option Addr)(c:Nat->Nat):Prop where
 to:To w W b m T dn' f q c
 fs:Fs N cl S T
 ln:dn'.length=T.nodes.length
 at':dn'.getD i 0=(j:Int)
 ot:∀ k,k<S.nodes.length->k≠i->dn'.getD k 0=dn.getD k 0
theorem Fs.len{N:Nat}{cl:Int}{S T:Ws}(h:Fs N cl S T):S.nodes.length<=T.nodes.length:=by
 obtain⟨l,e⟩:=h.pn;rw[e];simp
theorem Fs.old{N:Nat}{cl:Int}{S T:Ws}(h:Fs N cl S T){k:Nat}(hk:k<S.nodes.length):T.nodes.getD k 0=S.nodes.getD k 0:=by
 obtain⟨l,e⟩:=h.pn;rw[e];exact cV _ _ _ hk
theorem Vj.cells{w W:World}{b m N:Nat}{cl:Int}{S T:Ws}{dn dn':List Int}{i j:Nat}{f:Int->Option Int}{q:Nat->Option Addr}{c:Nat->Nat}(h:Vj w W b m N cl S T dn dn' i j f q c)(hi:i<S.nodes.length) :
  ∃ g3 g1,q 3=some ⟨g3,0,none⟩/\q 1=some ⟨g1,0,none⟩/\W.cell? ⟨b,3,none⟩=some (.slice (some ⟨g3,0,none⟩) T.nodes.length (c 3))/\W.cell? ⟨g3,i,none⟩=some (.int .i64 (j:Int))/\W.frozen? ⟨g3,i,none⟩=false/\g3<W.heap.size/\g3≠b /\
   W.cell? ⟨b,1,none⟩=some (.slice (some ⟨g1,0,none⟩) T.nodes.length (c 1))/\W.cell? ⟨g1,i,none⟩=some (.int .i64 ((S.nodes.getD i 0:Nat):Int))/\i<T.nodes.length/\b<W.heap.size/\W.cell? ⟨b,4,none⟩=some (.slice (q 4) T.left.length (c 4))/\W.frozen? ⟨b,4,none⟩=false/\w.heap.size<=g3:=by
 have hl:=h.fs.len;obtain⟨g3,e3,b3,k1,k2,k3,k4⟩:=h.to.sr.row (j:=3) (by decide) (by show 0<dn'.length;rw[h.ln];omega);obtain⟨g1,e1,_,_,_,_,m4⟩:=h.to.sr.row (j:=1) (by decide) (by show 0<(T.nodes.map Int.ofNat).length;simp;omega);have c3:=h.to.sr.clE (j:=3) (by decide) (l:=dn') rfl e3 rfl h.ln;have c1:=h.to.sr.clE (j:=1) (by decide) (l:=T.nodes.map Int.ofNat) rfl e1 rfl (List.length_map ..);have c4:=h.to.sr.clE (j:=4) (by decide) (l:=T.left.map Int.ofNat) rfl rfl rfl (List.length_map ..);refine⟨g3,g1,e3,e1,c3,?_,k3 i,k1,k2,c1,?_,by omega,h.to.sr.bl,c4,h.to.sr.fz 4,b3⟩
 ·rw[k4 i (by show i<dn'.length;rw[h.ln];omega)]
  show some (Value.int .i64 (dn'.getD i 0))=_;rw[h.at']
 ·rw[m4 i (by show i<(T.nodes.map Int.ofNat).length;simp;omega)]
  show some (Value.int .i64 ((T.nodes.map Int.ofNat).getD i 0))=_;rw[List.getD_eq_getElem?_getD,List.getElem?_map,List.getElem?_eq_getElem (by omega),<- h.fs.old hi,List.getD_eq_getElem?_getD,List.getElem?_eq_getElem (by omega)];rfl
theorem Vj.start{w W:World}{b m N:Nat}{cl:Int}{S:Ws}{dn:List Int}{i:Nat}{f:Int->Option Int}{q:Nat->Option Addr}{c:Nat->Nat}(h:To w W b m S dn f q c)(hw:Wf N cl S)(hl:dn.length=S.nodes.length)(h0:dn.getD i 0=0):Vj w W b m N cl S S dn dn i 0 f q c :=
 ⟨h,Fs.refl hw,hl,h0,λ _ _ _=>rfl⟩
theorem Vj.next{w W W':World}{b m N:Nat}{cl:Int}{S T:Ws}{dn dn':List Int}{i j:Nat}{f:Int->Option Int}{q:Nat->Option Addr}{c:Nat->Nat}(h:Vj w W b m N cl S T dn dn' i j f q c)(hb:Below W.heap.size W W'):Vj w W' b m N cl S T dn dn' i j f q c :=
 ⟨h.to.next hb,h.fs,h.ln,h.at',h.ot⟩
theorem Vj.skip{w W:World}{b m N g3 room:Nat}{cl:Int}{su:Nat->List Int}{S T:Ws}{dn dn':List Int}{i j:Nat}{f:Int->Option Int}{q:Nat->Option Addr}{c:Nat->Nat}{x:Int}(h:Vj w W b m N cl S T dn dn' i j f q c)(hi:i<S.nodes.length)(e:q 3=some ⟨g3,0,none⟩)(ho:opn N cl T x=false) :
  Vj w (W.setCell ⟨g3,i,none⟩ (.int .i64 ((j:Int)+1))) b m N cl S (vzs N cl su room i T x) dn (dn'.set i ((j:Int)+1)) i (j+1) f q c:=by
 have hl:=h.fs.len;have e2:vzs N cl su room i T x=T:=by unfold vzs;rw[if_neg (by rw[ho];simp)]
 rw[e2];refine⟨h.to.bump e i _,h.fs,by simp[h.ln],?_,λ k hk hne=>?_⟩
 ·rw[bA,if_pos ⟨rfl,by rw[h.ln];omega⟩];simp
 ·rw[bA,if_neg (λ c=>hne c.1)];exact h.ot k hk hne
theorem Vj.go{w W W':World}{b m N room:Nat}{cl:Int}{su:Nat->List Int}{S T:Ws}{dn dn' dn2:List Int}{i j:Nat}{f f':Int->Option Int}{q q':Nat->Option Addr}{c c':Nat->Nat}{x:Int}(h:Vj w W b m N cl S T dn dn' i j f q c)(hi:i<S.nodes.length)(ho:opn N cl T x=true)(hr:N<=S.nodes.length+room)
  (h2:To w W' b m (vz N cl su room (T.meet x.toNat i) T.nodes.length) dn2 f' q' c') (hl2:dn2.length=(vz N cl su room (T.meet x.toNat i) T.nodes.length).nodes.length) (hot:∀ k,k<T.nodes.length+1->k≠T.nodes.length->dn2.getD k 0=(dn'.set i ((j:Int)+1) ++ [0]).getD k 0) :
  Vj w W' b m N cl S (vzs N cl su room i T x) dn dn2 i (j+1) f' q' c':=by
 have hl:=h.fs.len;have e2:vzs N cl su room i T x=vz N cl su room (T.meet x.toNat i) T.nodes.length:=by unfold vzs;rw[if_pos ho]
 have hfs:Fs N cl S (vzs N cl su room i T x):=h.fs.step (by omega);have hlen:(dn'.set i ((j:Int)+1)).length=T.nodes.length:=by simp[h.ln]
 refine⟨by rw[e2];exact h2,hfs,by rw[e2];exact hl2,?_,λ k hk hne=>?_⟩
 ·rw[hot i (by omega) (by omega),cV _ _ _ (by omega),bA,if_pos ⟨rfl,by rw[h.ln];omega⟩];simp
 ·rw[hot k (by omega) (by omega),cV _ _ _ (by omega),bA,if_neg (λ c=>hne c.1)];exact h.ot k hk hne
theorem svisit_step{w z:World}{b m N:Nat}{q0:Option Addr}{qc:Nat}{cl:Int}{bs bc bt bo bv:Nat}{g:List (List Int)}(hE:En w b m N q0 qc cl bs bc bt bo bv)(hG:GsAt z q0 g)(hN:g.length=N)(hN2:N<=4096)(hz:z.heap.size<=b/\z.heap.size<=m)(hzw:Below z.heap.size z w)(room:Nat)(hroom:room<=1000)
  (IH:∀ r,r+1=room->VisC w b m N cl (λ i=>g.getD i []) bs bt bo bv r):VisC w b m N cl (λ i=>g.getD i []) bs bt bo bv room:=by
 intro S dn i R W f q c hR hS hi hr hlf hdl hd0 h;have HBZ:Hid (∀ W,Chg w.heap.size (λ k=>k=b∨k=m) w W->Below z.heap.size z W):=aQ (λ W hW=>hzw.trans (hW.below hzw.size (λ k hk=>by omega)));have huN:S.nodes.getD i 0<N:=by have:=hS.lt _ (bV hi);unfold isN at this;omega
 obtain⟨b4,o4,p4,c4,rfl,hb4,e4,n4⟩:=hG.cells (S.nodes.getD i 0) (by rw[hN];exact huN);have HGC:Hid (∀ W,Below z.heap.size z W->W.cell? ⟨b4,o4+S.nodes.getD i 0,none⟩=some (.slice p4 (g.getD (S.nodes.getD i 0) []).length c4)/\NumsAt .i64 W p4 (g.getD (S.nodes.getD i 0) [])):=aQ (λ W hW=>⟨(hW.cell (p:=⟨b4,_,none⟩) hb4).trans e4,n4.below hW⟩)
 have hM:(g.getD (S.nodes.getD i 0) []).length<=140737488351232:=by
  obtain⟨_,_,_,_,_,_,_,hn⟩:=hG.cells (S.nodes.getD i 0) (by rw[hN];exact huN);exact hn.small
 unfold VisP;rw[vz_succ];obtain⟨su,hsu⟩:∃ su:Nat->List Int,(λ i=>g.getD i [])=su:=⟨_,rfl⟩;have hsi:∀ i,g.getD i []=su i:=λ i=>congrFun hsu i
 rw[hsu]at IH ⊢;simp only[hsi]at HGC hM ⊢;obtain⟨row,hrow⟩:∃ row,su (S.nodes.getD i 0)=row:=⟨_,rfl⟩;rw[hrow]at HGC hM ⊢;obtain⟨M,hMd⟩:∃ M,row.length=M:=⟨_,rfl⟩;have HM:=aQ hMd;rw[hMd]at HGC hM;have hMT:M<=140737488351232:=hM;obtain⟨F,hFd⟩:∃ F:Nat->Ws,∀ k,F k=(row.take k).foldl (vzs N cl su room i) S:=⟨_,λ _=>rfl⟩;have HF0:Hid (F 0=S):=aQ (by rw[hFd];rfl)
 have HFS:Hid (∀ k,k<M->F (k+1)=vzs N cl su room i (F k) (row.getD k 0)):=aQ (λ k hk=>by
  have hk':k<row.length:=by rw[hMd];exact hk
  rw[hFd,hFd,List.take_add_one,List.getElem?_eq_getElem hk',List.foldl_append,List.getD_eq_getElem?_getD,List.getElem?_eq_getElem hk'];rfl)
 have HFM:Hid (row.foldl (vzs N cl su room i) S=F M):=aQ (by rw[hFd,<- hMd,List.take_length]);rw[HFM.out];have HVJ:=aQ (Vj.start h hS hdl hd0);have HR:=aQ hR;have HLF:=aQ hlf;clear hR;have HIH:=aQ IH;have HEN:=aQ (λ W (hW:Chg w.heap.size (λ k=>k=b∨k=m) w W)=>hE.at hW);have HET:=aQ hE;obtain⟨u,hu⟩:∃ u,S.nodes.getD i 0=u:=⟨_,rfl⟩;have HU:=aQ hu;rw[hu]at huN HGC;obtain⟨n0,hn0⟩:∃ n,S.nodes.length=n:=⟨_,rfl⟩;have HN0:=aQ hn0;have hi0:i<n0:=by omega
 have hn1:n0<=N:=by have:=hS.le;omega
 obtain⟨es,ec,et,eo,ev,_⟩:=hE.at h.ch;obtain⟨g3,g1,q3,q1,d3,d3c,d3f,d3l,d3b,d1,d1c,diT,dbl,d4,d4f,d3g⟩:=HVJ.out.cells hi;rw[hu]at d1c;rw[hn0]at d1 d3;obtain⟨x1,n4'⟩:=HGC.out W (HBZ.out W h.ch);clear hFd hsu hsi hrow hMd h hS hdl hd0 hlf IH hE hG hz hzw n4 e4 hb4 hu hn0;go_enter Tryz.func133,Tryz.ntmps133
 go_wp2_with fail
 go_quiet (fail)
 go_wp2_with fail
 clear es ec et eo ev d3 d3c d3f d3l d3b d1 d1c diT dbl d4 d4f d3g x1 n4' q3 q1
 go_loopw [10] (λ _ wr=>∃ (j:Nat) (dn':List Int) (f:Int->Option Int) (q:Nat->Option Addr) (c:Nat->Nat),j<=M/\Vj w wr b m N cl S (F j) dn dn' i j f q c) (λ _ wr=>M - dnAt wr b i)
 case atStart=>exact⟨0,dn,f,q,c,Nat.zero_le _,by rw[HF0.out];exact HVJ.out.next (below_drewN (Below.refl _ _) _)⟩
 case round =>
  clear HVJ HF0 HFM;obtain⟨j,dn',f,q,c,hj,hv⟩:=hrel;have HV:=aQ hv;obtain⟨es,ec,et,eo,ev,_⟩:=HEN.out wr hv.to.ch;obtain⟨g3,g1,q3,q1,d3,d3c,d3f,d3l,d3b,d1,d1c,diT,dbl,d4,d4f,d3g⟩:=hv.cells (by rw[HN0.out];exact hi0);obtain⟨x1,n4'⟩:=HGC.out wr (HBZ.out wr hv.to.ch);obtain⟨_,_,nt,no,nv⟩:=HET.out.lts d3g;rw[HU.out]at d1c;have HDN:Hid (dnAt wr b i=j):=aQ (by rw[hv.to.dnAt (by rw[hv.ln];exact diT),hv.at'];simp);have HTN:=aQ hv.fs.wf.le;obtain⟨T,hTd⟩:∃ T,F j=T:=⟨_,rfl⟩;have HTE:=aQ hTd;rw[hTd]at HV HTN d3 d1 d4 diT;obtain⟨n,hn⟩:∃ n,T.nodes.length=n:=⟨_,rfl⟩;have HNN:=aQ hn;rw[hn]at d3 d1 diT;by_cases hjM:j<M
  ·have HS:=aQ (HFS.out j hjM)
   obtain⟨b5,o5,rfl,hl5,e5⟩:=n4'.cells j (by rw[HM.out];exact hjM);have HQ3:=aQ q3;clear n4' hv hn hTd q1 q3;generalize row.getD j 0=y at *;cases ho:opn N cl T y with
   | false =>
    have HK:=aQ (HV.out.skip (su:=su) (room:=room) (by rw[HN0.out];exact hi0) HQ3.out ho);have HO:=aQ (sopen_any HET.out HK.out.to (by omega) y);have e:vzs N cl su room i T y=T:=by unfold vzs;rw[if_neg (by rw[ho];simp)]
    rw[e,ho]at HO;have HX:Hid (dnAt (wr.setCell ⟨g3,i,none⟩ (.int .i64 ((j:Int)+1))) b i=j+1):=aQ (by rw[HK.out.to.dnAt (by rw[HK.out.ln,e,HNN.out];exact diT),HK.out.at'];simp);clear ho e HIH;go_wp2_with (go_at_call 131;(with_reducible refine HO.out.mono ?_);rintro e w1 ⟨rfl,rfl⟩)
    go_roundw
    case rel=>exact⟨j+1,_,_,_,_,by omega,by rw[HS.out,HTE.out];exact HK.out⟩
    case measure=>rw[HX.out,HDN.out];omega
   | true =>
    obtain⟨yn,rfl⟩:∃ yn:Nat,y=(yn:Int):=⟨y.toNat,by have:=of_decide_eq_true ho;unfold isN at this;omega⟩;obtain⟨hyN,hyn⟩:=of_decide_eq_true ho;have HM1:=aQ (Wf.meet (i:=(i:Int)) HV.out.fs.wf ho);have hm1:n+1<=N:=by have:=HM1.out.le;simp[Ws.meet,HNN.out]at this;exact this
    have hln:=HV.out.fs.len;rw[HNN.out]at hln;obtain⟨r,hr1⟩:∃ r,r+1=room:=⟨room - 1,by omega⟩;have hR1:(1:Int)<=R:=by have:=HR.out;omega
    have hR2:R<=1000:=by have:=HR.out;omega
    have HKT:=aQ (HV.out.to.bump HQ3.out i ((j:Int)+1));have HO:=aQ (sopen_any HET.out HKT.out (by omega) (yn:Int));rw[ho]at HO;have HME:=aQ (smeet_any HKT.out yn (i:Int) (by simpa using hyn) (by unfold isN at hyN;omega) HV.out.fs.wf.lf (by simp[HV.out.ln]) (by rw[HNN.out];omega));unfold MeetQ at HME;rw[HNN.out]at HME
    have HMW:Hid (Wf N cl (T.meet yn (i:Int))/\n<(T.meet yn (i:Int)).nodes.length/\N<=(T.meet yn (i:Int)).nodes.length+r/\(T.meet yn (i:Int)).left.length<(T.meet yn (i:Int)).nodes.length/\(dn'.set i ((j:Int)+1) ++ [0]).length=(T.meet yn (i:Int)).nodes.length/\(dn'.set i ((j:Int)+1) ++ [0]).getD n 0=0):=aQ (by
     have e1:(T.meet yn (i:Int)).nodes.length=n+1:=by simp[Ws.meet,HNN.out]
     have e2:(T.meet yn (i:Int)).left=T.left:=rfl;have e3:(dn'.set i ((j:Int)+1)).length=n:=by simp[HV.out.ln,HNN.out]
     have e4:=HV.out.fs.lf;rw[HNN.out]at e4;have e5:=HLF.out;refine⟨HM1.out,by omega,by omega,by rw[e2,e1];omega,by rw[e1];simp[HV.out.ln,HNN.out],?_⟩;rw[<- e3];exact eR _ _ _)
    have HIH2:Hid (∀ W2 f2 q2 c2,To w W2 b m (T.meet yn (i:Int)) (dn'.set i ((j:Int)+1) ++ [0]) f2 q2 c2->Calls Tryz.prog 133 #[.int .i64 (n:Int),.int .i64 (R - 1),.pointer (some ⟨bs,0,none⟩),.pointer (some ⟨bt,0,none⟩),.pointer (some ⟨bo,0,none⟩),.pointer (some ⟨bv,0,none⟩)] W2 (λ e w'=>e=.returned (.int .i64 (-1))/\∃ dn2 f q c,Vj w w' b m N cl S (vzs N cl su room i T (yn:Int)) dn dn2 i (j+1) f q c)):=aQ (λ W2 f2 q2 c2 h2=>by
     obtain⟨k1,k2,k3,k4,k5,k6⟩:=HMW.out;refine(HIH.out r hr1 _ _ n (R - 1) W2 f2 q2 c2 (by have:=HR.out;omega) k1 k2 k3 k4 k5 k6 h2).mono ?_;rintro e w' ⟨he,dn2,f,q,c,l2,o2,t2⟩;rw[hr1]at l2 t2;refine⟨he,dn2,f,q,c,HV.out.go (by rw[HN0.out];exact hi0) ho hr (by rw[HNN.out];exact t2) (by rw[HNN.out];exact l2) (λ k hk hne=>?_)⟩;rw[HNN.out]at hk hne;exact o2 k (by simp[Ws.meet,HNN.out];omega) hne)
    clear ho hyN hyn HIH hln HMW
    go_wp2_with (first
     | (go_at_call 131;(with_reducible refine HO.out.mono ?_);rintro e w1 ⟨rfl,rfl⟩)
     | (go_at_call 134;(with_reducible refine HME.out.mono ?_);rintro e w2 ⟨rfl,f2,q2,c2,hto⟩;have HC:=aQ (HIH2.out w2 f2 q2 c2 hto);obtain⟨_,_,_,_,ev2,_⟩:=HET.out.at hto.ch;clear hto)
     | (go_at_call 133;(with_reducible refine HC.out.mono ?_);rintro e w3 ⟨rfl,dn2,f3,q3,c3,hv3⟩;have HV3:=aQ hv3;clear hv3))
    have HX:Hid (dnAt w3 b i=j+1):=aQ (by
     have hl3:=HV3.out.fs.len;rw[HV3.out.to.dnAt (by rw[HV3.out.ln];rw[HN0.out]at hl3;omega),HV3.out.at'];simp)
    go_roundw
    case rel=>exact⟨j+1,dn2,f3,q3,c3,by omega,by rw[HS.out,HTE.out];exact HV3.out⟩
    case measure=>rw[HX.out,HDN.out];omega
  ·obtain rfl:M=j:=by omega
   have hll:T.left.length<=8192:=by
    have h1:=HV.out.fs.lf;have h2:=HLF.out;have h3:=HV.out.fs.wf.le;omega
   have HLL:Hid ((T.left.map Int.ofNat).length=T.left.length/\(T.left.map Int.ofNat ++ [(u:Int)]).length=T.left.length+1/\(T.left.map Int.ofNat).length+[(u:Int)].length<=1099511627776):=aQ ⟨by simp,by simp,by simp;omega⟩;have lbt:bt<wr.heap.size:=World.block_lt_of_cell? wr ⟨bt,0,none⟩ et;have lg1:g1<wr.heap.size:=World.block_lt_of_cell? wr ⟨g1,i,none⟩ d1c;have HTM:=aQ HV.out.to.tm;have HQ:Hid (∀ W q' c',Tm w W b m T.nodes.length (up1 (rws T dn') 4 (T.left.map Int.ofNat ++ [(u:Int)])) f q' c'->∃ dn2 f q c,dn2.length=(T.leave u).nodes.length/\(∀ k,k<S.nodes.length->k≠i->dn2.getD k 0=dn.getD k 0)/\To w W b m (T.leave u) dn2 f q c):=aQ (λ W q' c' hW=>⟨dn',f,q',c',HV.out.ln,HV.out.ot,hW.leave HV.out.to.nf⟩);obtain⟨ll,hlld⟩:∃ l,T.left.length=l:=⟨_,rfl⟩;have HLD:=aQ hlld;rw[hlld]at HLL hll d4;have HN9:=aQ (λ (x:Int) (W:World) k (e:k=W.heap.size)=>(e ▸ bH (k:=.i64) W 3 [x] #[.int .i64 x] rfl (by simp):NumsAt .i64 (W.alloc (.cells #[.int .i64 x] 3)) (some ⟨k,0,none⟩) [x]).below ((Below.refl _ _).drew));clear hv hn n4' hlld HIH;go_wp2_with fail
   have H1:=aQ (HTM.out.grown (cR wr (.cells #[.int .i64 (u:Int)] 3)))
   have F1:(wr.alloc (.cells #[.int .i64 (u:Int)] 3)).drew.cell? ⟨bt,0,none⟩=some (.pointer (some ⟨b,0,none⟩))/\(wr.alloc (.cells #[.int .i64 (u:Int)] 3)).drew.cell? ⟨b,1,none⟩=some (.slice (some ⟨g1,0,none⟩) n (c 1))/\(wr.alloc (.cells #[.int .i64 (u:Int)] 3)).drew.cell? ⟨g1,i,none⟩=some (.int .i64 (u:Int)) :=
    ⟨(cR wr _).cell et (by simp),(cR wr _).cell d1 (by simp),(cR wr _).cell d1c (by simp)⟩
   have HQ1:=aQ q1;have ng1:g1≠b:=HTM.out.sr.ne 1 (by decide) ∘ (λ e=>by rw[HQ1.out,e];rfl);refine wp_region_held_drew (S:=(λ W=>W.cell? ⟨bt,0,none⟩=some (.pointer (some ⟨b,0,none⟩))/\W.cell? ⟨b,1,none⟩=some (.slice (some ⟨g1,0,none⟩) n (c 1))/\W.cell? ⟨g1,i,none⟩=some (.int .i64 (u:Int)))) (by kernel_rfl) ?_ (λ hHeld=>?_)
   ·(try dsimp only);first|exact⟨et,d1,d1c⟩|exact F1|exact F8|exact F9
   refine aT 0 rfl (h:=aT 1 rfl (h:=aT 2 rfl (h:=aT 3 rfl (h:=aT 5 rfl (h:=?_)))));try simp only[Act.put,aA,aB,aC]
   refine aT 6 rfl (h:=aT 7 rfl (h:=aT 8 rfl (h:=aT 9 rfl (h:=aT 10 rfl (h:=?_)))));try simp only[Act.put,aA,aB,aC]
   refine aT 11 rfl (h:=?_);try simp only[Act.put,aA,aB,aC]
   refine bY 4 12 (by kernel_rfl) rfl rfl (λ K hK=>?_) (λ K hK=>?_)
   ·
    go_simp
    refine hK.out _ _ ?_ (λ hHeld=>?_)
    ·(try dsimp only);first|exact⟨et,d1,d1c⟩|exact F1|exact F8|exact F9
    clear hK K;try simp only[Act.put,aA,aB,aC]
    refine aK 12 (by kernel_rfl) rfl (λ K hK=>?_);go_simp
    refine hK.out _ _ ?_ (λ hHeld=>?_)
    ·(try dsimp only);first|exact⟨et,d1,d1c⟩|exact F1|exact F8|exact F9
    clear hK K;try simp only[Act.put,aA,aB,aC]
    refine aK 13 (by kernel_rfl) rfl (λ K hK=>?_)
    (refine bI rfl (.tmp 75) (.tmp 83) rfl rfl w.heap.size _ [(u:Int)] (T.left.map Int.ofNat) (.slice (q 4) ll (c 4)) 1 1 rfl (by simp[Act.eval]) (by simp[Act.eval];rfl) (H1.out.sr.ownE (j:=4) (by decide) rfl rfl rfl HLL.out.1.symm) (HN9.out _ _ _ (by simp)) H1.out.ch.size HLL.out.2.2 ?_;intro v8 w8 ho8 hg8 hb8;rw[HLL.out.2.1]at ho8;obtain⟨q8,c8,rfl⟩:=aW ho8;obtain⟨e8,fz8,bl8⟩:=H1.out.mid0 (j:=4) (by decide) hg8;have d8:=(e8 4).trans (H1.out.sr.clE (j:=4) (by decide) (l:=T.left.map Int.ofNat) rfl rfl rfl HLL.out.1);have f8:=fz8 4;have et8:=(HEN.out w8 (H1.out.chg0 (j:=4) (by decide) hg8)).t;have g8:=(H1.out.oth0 (j:=4) (k:=1) (by decide) (by decide) (by decide) HQ1.out hg8 i).trans F1.2.2;have F8:=And.intro et8 (And.intro ((e8 1).trans F1.2.1) g8);have HV8:=aQ (H1.out.app0 (j:=4) (by decide) ho8 HLL.out.2.1 hg8 hb8);have F9:=And.intro ((HEN.out _ HV8.out.ch).t) (And.intro ((World.cell?_setCell_other w8 ⟨b,4,none⟩ ⟨b,1,none⟩ (.slice q8 (ll+1) c8) (by simp)).trans F8.2.1) ((World.cell?_setCell_other w8 ⟨b,4,none⟩ ⟨g1,i,none⟩ (.slice q8 (ll+1) c8) (λ e=>ng1 (congrArg Addr.block e).symm)).trans F8.2.2));clear ho8 hg8 hb8 e8 fz8)
    refine hK.out _ _ ?_ (λ hHeld=>?_)
    ·(try dsimp only);first|exact⟨et,d1,d1c⟩|exact F1|exact F8|exact F9
    clear hK K;try simp only[Act.put,aA,aB,aC]
    refine aT 14 rfl (h:=aT 15 rfl (h:=?_));try simp only[Act.put,aA,aB,aC]
    refine aK 16 (by kernel_rfl) rfl (λ K hK=>?_);go_simp
    refine hK.out _ _ ?_ (λ hHeld=>?_)
    ·(try dsimp only);first|exact⟨et,d1,d1c⟩|exact F1|exact F8|exact F9
    clear hK K;try simp only[Act.put,aA,aB,aC]
    refine wpAnyH_done (by kernel_rfl) ?_ _;go_wp2_with fail
    go_ret
    (rw[HTE.out,HU.out];exact⟨rfl,HQ.out _ _ _ HV8.out⟩)
   ·
    go_simp
    refine hK.out _ _ ?_ (λ hHeld=>?_)
    ·(try dsimp only);first|exact⟨et,d1,d1c⟩|exact F1|exact F8|exact F9
    clear hK K;try simp only[Act.put,aA,aB,aC]
    refine aK 4 (by kernel_rfl) rfl (λ K hK=>?_);go_simp
    refine hK.out _ _ ?_ (λ hHeld=>?_)
    ·(try dsimp only);first|exact⟨et,d1,d1c⟩|exact F1|exact F8|exact F9
    clear hK K;try simp only[Act.put,aA,aB,aC]
    refine aK 13 (by kernel_rfl) rfl (λ K hK=>?_)
    (refine bI rfl (.tmp 75) (.tmp 83) rfl rfl w.heap.size _ [(u:Int)] (T.left.map Int.ofNat) (.slice (q 4) ll (c 4)) 1 1 rfl (by simp[Act.eval]) (by simp[Act.eval];rfl) (H1.out.sr.ownE (j:=4) (by decide) rfl rfl rfl HLL.out.1.symm) (HN9.out _ _ _ (by simp)) H1.out.ch.size HLL.out.2.2 ?_;intro v8 w8 ho8 hg8 hb8;rw[HLL.out.2.1]at ho8;obtain⟨q8,c8,rfl⟩:=aW ho8;obtain⟨e8,fz8,bl8⟩:=H1.out.mid0 (j:=4) (by decide) hg8;have d8:=(e8 4).trans (H1.out.sr.clE (j:=4) (by decide) (l:=T.left.map Int.ofNat) rfl rfl rfl HLL.out.1);have f8:=fz8 4;have et8:=(HEN.out w8 (H1.out.chg0 (j:=4) (by decide) hg8)).t;have g8:=(H1.out.oth0 (j:=4) (k:=1) (by decide) (by decide) (by decide) HQ1.out hg8 i).trans F1.2.2;have F8:=And.intro et8 (And.intro ((e8 1).trans F1.2.1) g8);have HV8:=aQ (H1.out.app0 (j:=4) (by decide) ho8 HLL.out.2.1 hg8 hb8);have F9:=And.intro ((HEN.out _ HV8.out.ch).t) (And.intro ((World.cell?_setCell_other w8 ⟨b,4,none⟩ ⟨b,1,none⟩ (.slice q8 (ll+1) c8) (by simp)).trans F8.2.1) ((World.cell?_setCell_other w8 ⟨b,4,none⟩ ⟨g1,i,none⟩ (.slice q8 (ll+1) c8) (λ e=>ng1 (congrArg Addr.block e).symm)).trans F8.2.2));clear ho8 hg8 hb8 e8 fz8)
    refine hK.out _ _ ?_ (λ hHeld=>?_)
    ·(try dsimp only);first|exact⟨et,d1,d1c⟩|exact F1|exact F8|exact F9
    clear hK K;try simp only[Act.put,aA,aB,aC]
    refine aT 14 rfl (h:=aT 15 rfl (h:=?_));try simp only[Act.put,aA,aB,aC]
    refine aK 16 (by kernel_rfl) rfl (λ K hK=>?_);go_simp
    refine hK.out _ _ ?_ (λ hHeld=>?_)
    ·(try dsimp only);first|exact⟨et,d1,d1c⟩|exact F1|exact F8|exact F9
    clear hK K;try simp only[Act.put,aA,aB,aC]
    refine wpAnyH_done (by kernel_rfl) ?_ _;go_wp2_with fail
    go_ret
    (rw[HTE.out,HU.out];exact⟨rfl,HQ.out _ _ _ HV8.out⟩)
theorem svisit_any{w z:World}{b m N:Nat}{q0:Option Addr}{qc:Nat}{cl:Int}{bs bc bt bo bv:Nat}{g:List (List Int)}(hE:En w b m N q0 qc cl bs bc bt bo bv)(hG:GsAt z q0 g)(hN:g.length=N)(hN2:N<=4096)(hz:z.heap.size<=b/\z.heap.size<=m)(hzw:Below z.heap.size z w):∀ room,room<=1000->VisC w b m N cl (λ i=>g.getD i []) bs bt bo bv room
 | 0,h=>svisit_step hE hG hN hN2 hz hzw 0 h (λ r e=>by omega)
 | room+1,h=>svisit_step hE hG hN hN2 hz hzw (room+1) h (λ r e=>by
   obtain rfl:r=room:=by omega
   exact svisit_any hE hG hN hN2 hz hzw r (by omega))
structure Tt(B:Nat)(W:World)(b:Nat)(S:Ws):Prop where
 bl:b<W.heap.size
 bB:B<=b
 mp:∃ m n f,W.cell? ⟨b,0,none⟩=some (.map (some m))/\Mp W m n f/\NumF f S.nodes/\B<=m
 r1:∃ q c,W.cell? ⟨b,1,none⟩=some (.slice q S.nodes.length c)/\NumsAt .i64 W q (S.nodes.map Int.ofNat)/\∀ ad,q=some ad->B<=ad.block
 r2:∃ q c,W.cell? ⟨b,2,none⟩=some (.slice q S.frm.length c)/\NumsAt .i64 W q S.frm/\∀ ad,q=some ad->B<=ad.block
theorem NumsAt.grownB{W W':World}{k:IntKind}{q:Option Addr}{l:List Int}{row:Option Nat}{B:Nat}(h:NumsAt k W q l)(hq:∀ ad,q=some ad->B<=ad.block)(hg:W.grownBy W' row)(hr:∀ k,row=some k->k<B):NumsAt k W' q l :=
 ⟨h.small,λ i hi=>by
  obtain⟨b,off,e,hl,hc⟩:=h.cells i hi;refine⟨b,off,e,Nat.lt_of_lt_of_le hl hg.size,(World.cell?_of_block (a:=⟨b,off+i,none⟩) (hg.block b hl (λ e2=>?_))).trans hc⟩;have:=hq _ e;have:=hr b e2.symm;have:B<=b:=hq _ e;omega⟩
theorem Tt.grown{B:Nat}{W W':World}{b:Nat}{S:Ws}{row:Option Nat}(h:Tt B W b S)(hg:W.grownBy W' row)(hr:∀ k,row=some k->k<B):Tt B W' b S:=by
 obtain⟨bl,bB,⟨m,n,f,c0,hm,hf,mB⟩,⟨q1,c1,e1,n1,k1⟩,⟨q2,c2,e2,n2,k2⟩⟩:=h;have hb:row≠some b:=λ e=>by have:=hr b e;omega
 exact⟨Nat.lt_of_lt_of_le bl hg.size,bB,⟨m,n,f,hg.cell c0 (λ e=>hb e.symm),hm.grown hg (λ e=>by have:=hr m e;omega),hf,mB⟩,⟨q1,c1,hg.cell e1 (λ e=>hb e.symm),n1.grownB k1 hg hr,k1⟩,⟨q2,c2,hg.cell e2 (λ e=>hb e.symm),n2.grownB k2 hg hr,k2⟩⟩
theorem Tt.next{B:Nat}{W W':World}{b:Nat}{S:Ws}(h:Tt B W b S)(hb:Below W.heap.size W W'):Tt B W' b S:=h.grown (below_grown hb) (λ k e=>by cases e)
theorem To.tt{w W:World}{b m B:Nat}{S:Ws}{dn:List Int}{f:Int->Option Int}{q:Nat->Option Addr}{c:Nat->Nat}(h:To w W b m S dn f q c)(hl:S.nodes.length<=1048576)(hf:S.frm.length=S.nodes.length)(hB:B<=b/\B<=m/\B<=w.heap.size):Tt B W b S:=by
 have hr:∀ j∈TJ,∀ ad,q j=some ad->B<=ad.block:=λ j hj ad e=>by
  have:=(h.sr.blk hj (k:=ad.block) (by rw[e];rfl)).1;omega
 exact⟨h.sr.bl,hB.1,⟨m,_,f,h.c0,h.mp,h.nf,hB.2.1⟩,⟨q 1,c 1,h.sr.clE (j:=1) (by decide) (l:=S.nodes.map Int.ofNat) rfl rfl rfl (List.length_map ..),h.sr.nums (j:=1) (by decide) (by show(S.nodes.map Int.ofNat).length<=_;simp;omega),hr 1 (by decide)⟩,
  ⟨q 2,c 2,h.sr.clE (j:=2) (by decide) (l:=S.frm) rfl rfl rfl rfl,h.sr.nums (j:=2) (by decide) (by show S.frm.length<=_;omega),hr 2 (by decide)⟩⟩
def wkS(g:List (List Int))(cl:Int):Ws:=if isN g.length cl 0 then vz g.length cl (λ i=>g.getD i []) 1001 ws0 0 else { nodes:=[],frm:=[],left:=[] }
def WkP(w:World)(S:Ws)(e:Ending)(w':World):Prop :=
 ∃ b ql cl,e=.returned (.pointer (some ⟨b,0,none⟩))/\w.heap.size<=b/\Tt w.heap.size w' b S/\w'.cell? ⟨b,4,none⟩=some (.slice ql S.left.length cl)/\w'.ownsRow w.heap.size 3 1 (.slice ql S.left.length cl) S.left.length (aX (S.left.map Int.ofNat))/\Below w.heap.size w w'
theorem own_low{w:World}{base base':Nat}{e:TypeId}{size n:Nat}{v:Value}{xs:List Value}(h:w.ownsRow base e size v n xs)(hb:base'<=base):w.ownsRow base' e size v n xs:=by
 obtain⟨h1,h2|⟨g,cap,cur,e1,e2,e3⟩⟩:=h
 ·exact⟨h1,.inl h2⟩
 ·exact⟨h1,.inr ⟨g,cap,cur,e1,by omega,e3⟩⟩
def preW(w:World)(q0:Option Addr)(N qc:Nat)(cl:Int):World :=
 (((((((w.alloc (.cells #[.slice q0 N qc] 72)).alloc (.cells #[.int .i64 cl] 3)).alloc (.map #[] 0)).alloc (.cells #[.map (some (w.heap.size+1+1)),.slice none 0 0,.slice none 0 0,.slice none 0 0,.slice none 0 0] 184)).alloc (.cells #[.pointer (some ⟨w.heap.size+1+1+1,0,none⟩)] 179)).alloc
  (.cells #[.func (.func 131) #[] #[.pointer (some ⟨w.heap.size,0,none⟩),.pointer (some ⟨w.heap.size+1,0,none⟩),.pointer (some ⟨w.heap.size+1+1+1+1,0,none⟩)]] 89)).alloc
  (.cells #[.func (.func 133) #[] #[.pointer (some ⟨w.heap.size,0,none⟩),.pointer (some ⟨w.heap.size+1+1+1+1,0,none⟩),.pointer (some ⟨w.heap.size+1+1+1+1+1,0,none⟩),.pointer (some ⟨w.heap.size+1+1+1+1+1+1,0,none⟩)]] 216))
def Ws0:Ws:={ nodes:=[],frm:=[],left:=[] }
theorem rws0(j:Nat):rws Ws0 [] j=[]:=by simp[rws,Ws0]
theorem cI{w:World}{o:Obj}{a:Addr}{v:Value}(h:w.cell? a=some v):(w.alloc o).cell? a=some v:=(b1.cell (World.block_lt_of_cell? w a h)).trans h
theorem gU(w:World){n:Nat}(hn:w.heap.size=n){cs:Array Value}{t:TypeId}{i:Nat}{v:Value}(h:cs[i]?=some v):(w.alloc (.cells cs t)).cell? ⟨n,i,none⟩=some v:=by
 subst hn;exact aJ w h
theorem pre_ok(w:World)(q0:Option Addr)(N qc:Nat)(cl:Int) :
  En (preW w q0 N qc cl) (w.heap.size+1+1+1) (w.heap.size+1+1) N q0 qc cl w.heap.size (w.heap.size+1) (w.heap.size+1+1+1+1) (w.heap.size+1+1+1+1+1) (w.heap.size+1+1+1+1+1+1) /\
  To (preW w q0 N qc cl) (preW w q0 N qc cl) (w.heap.size+1+1+1) (w.heap.size+1+1) Ws0 [] (λ _=>none) (λ _=>none) (λ _=>0)/\Below w.heap.size w (preW w q0 N qc cl):=by
 unfold preW;generalize ho1:(Obj.cells #[.slice q0 N qc] 72)=o1;generalize ho2:(Obj.cells #[.int .i64 cl] 3)=o2;generalize ho4:(Obj.cells #[.map (some (w.heap.size+1+1)),.slice none 0 0,.slice none 0 0,.slice none 0 0,.slice none 0 0] 184)=o4;generalize ho5:(Obj.cells #[.pointer (some ⟨w.heap.size+1+1+1,0,none⟩)] 179)=o5;generalize ho6:(Obj.cells #[.func (.func 131) #[] #[.pointer (some ⟨w.heap.size,0,none⟩),.pointer (some ⟨w.heap.size+1,0,none⟩),.pointer (some ⟨w.heap.size+1+1+1+1,0,none⟩)]] 89)=o6;generalize ho7:(Obj.cells #[.func (.func 133) #[] #[.pointer (some ⟨w.heap.size,0,none⟩),.pointer (some ⟨w.heap.size+1+1+1+1,0,none⟩),.pointer (some ⟨w.heap.size+1+1+1+1+1,0,none⟩),.pointer (some ⟨w.heap.size+1+1+1+1+1+1,0,none⟩)]] 216)=o7;have z1:(w.alloc o1).heap.size=w.heap.size+1:=World.size_alloc ..;have z2:((w.alloc o1).alloc o2).heap.size=w.heap.size+1+1:=by rw[World.size_alloc,z1]
 have z3:(((w.alloc o1).alloc o2).alloc (.map #[] 0)).heap.size=w.heap.size+1+1+1:=by rw[World.size_alloc,z2]
 have z4:((((w.alloc o1).alloc o2).alloc (.map #[] 0)).alloc o4).heap.size=w.heap.size+1+1+1+1:=by rw[World.size_alloc,z3]
 have z5:(((((w.alloc o1).alloc o2).alloc (.map #[] 0)).alloc o4).alloc o5).heap.size=w.heap.size+1+1+1+1+1:=by rw[World.size_alloc,z4]
 have z6:((((((w.alloc o1).alloc o2).alloc (.map #[] 0)).alloc o4).alloc o5).alloc o6).heap.size=w.heap.size+1+1+1+1+1+1:=by rw[World.size_alloc,z5]
 have z7:(((((((w.alloc o1).alloc o2).alloc (.map #[] 0)).alloc o4).alloc o5).alloc o6).alloc o7).heap.size=w.heap.size+1+1+1+1+1+1+1:=by rw[World.size_alloc,z6]
 have f1:(w.alloc o1).cell? ⟨w.heap.size,0,none⟩=some (.slice q0 N qc):=by rw[<- ho1];exact aJ w rfl
 have f2:((w.alloc o1).alloc o2).cell? ⟨w.heap.size+1,0,none⟩=some (.int .i64 cl):=by rw[<- ho2];exact gU _ z1 rfl
 have f3:=Mp.made ((w.alloc o1).alloc o2);rw[z2]at f3;have f4:∀ i u,(#[.map (some (w.heap.size+1+1)),.slice none 0 0,.slice none 0 0,.slice none 0 0,.slice none 0 0]:Array Value)[i]?=some u->((((w.alloc o1).alloc o2).alloc (.map #[] 0)).alloc o4).cell? ⟨w.heap.size+1+1+1,i,none⟩=some u:=λ i u hu=>by rw[<- ho4];exact gU _ z3 hu
 have g4:∀ j,((((w.alloc o1).alloc o2).alloc (.map #[] 0)).alloc o4).frozen? ⟨w.heap.size+1+1+1,j,none⟩=false:=λ j=>by
  rw[<- ho4,<- z3];exact World.frozen?_alloc_new _ _ _ j
 have f5:(((((w.alloc o1).alloc o2).alloc (.map #[] 0)).alloc o4).alloc o5).cell? ⟨w.heap.size+1+1+1+1,0,none⟩=some (.pointer (some ⟨w.heap.size+1+1+1,0,none⟩)):=by rw[<- ho5];exact gU _ z4 rfl
 have f6:((((((w.alloc o1).alloc o2).alloc (.map #[] 0)).alloc o4).alloc o5).alloc o6).cell? ⟨w.heap.size+1+1+1+1+1,0,none⟩=some (.func (.func 131) #[] #[.pointer (some ⟨w.heap.size,0,none⟩),.pointer (some ⟨w.heap.size+1,0,none⟩),.pointer (some ⟨w.heap.size+1+1+1+1,0,none⟩)]):=by rw[<- ho6];exact gU _ z5 rfl
 have f7:(((((((w.alloc o1).alloc o2).alloc (.map #[] 0)).alloc o4).alloc o5).alloc o6).alloc o7).cell? ⟨w.heap.size+1+1+1+1+1+1,0,none⟩=some (.func (.func 133) #[] #[.pointer (some ⟨w.heap.size,0,none⟩),.pointer (some ⟨w.heap.size+1+1+1+1,0,none⟩),.pointer (some ⟨w.heap.size+1+1+1+1+1,0,none⟩),.pointer (some ⟨w.heap.size+1+1+1+1+1+1,0,none⟩)]):=by rw[<- ho7];exact gU _ z6 rfl
 clear ho1 ho2 ho4 ho5 ho6 ho7;have b67:Below ((((w.alloc o1).alloc o2).alloc (.map #[] 0)).alloc o4).heap.size ((((w.alloc o1).alloc o2).alloc (.map #[] 0)).alloc o4) (((((((w.alloc o1).alloc o2).alloc (.map #[] 0)).alloc o4).alloc o5).alloc o6).alloc o7):=((b1).alloc (by rw[z4,z5];omega) _).alloc (by rw[z4,z6];omega) _
 refine⟨⟨cI (cI (cI (cI (cI (cI f1))))),cI (cI (cI (cI (cI f2)))),cI (cI f5),cI f6,f7,by omega,by omega,by omega,by omega,by omega⟩,
  ⟨Chg.refl _ _ _,⟨by rw[z7];omega,λ j=>(b67.frozen (p:=⟨w.heap.size+1+1+1,j,none⟩) (by show w.heap.size+1+1+1<_;rw[z4];omega)).trans (g4 j),λ j hj=>?_,λ j hj=>?_,λ j _=>by simp,λ j _ k _ _=>.inl rfl⟩,cI (cI (cI (f4 0 _ rfl))),(((f3.next b1).next b1).next b1).next b1,NumF.nil,by rw[z7];omega,by rw[z7];omega,by omega⟩,
  ((((((b1).alloc (by rw[z1];omega) _).alloc (by rw[z2];omega) _).alloc (by rw[z3];omega) _).alloc (by rw[z4];omega) _).alloc (by rw[z5];omega) _).alloc (by rw[z6];omega) _⟩
 ·have e:(rws Ws0 [] j).length=0:=by rw[rws0];rfl
  rw[e];refine cI (cI (cI (f4 j _ ?_)));rcases hj with _|⟨_,_|⟨_,_|⟨_,_|⟨_,h⟩⟩⟩⟩
  ·rfl
  ·rfl
  ·rfl
  ·rfl
  ·cases h
 ·rw[rws0]
  exact World.ownsRow_nil _ _ _ _
theorem swalk_all(q0:Option Addr)(qc:Nat)(g:List (List Int))(cl:Int)(w:World)(h:GsAt w q0 g)(hN:g.length<=1000):Calls Tryz.prog 99 #[.slice q0 g.length qc,.int .i64 cl] w (WkP w (wkS g cl)):=by
 have hmm:=@run_makeMap Tryz.prog;have HH:=aQ h;obtain⟨N,hNl⟩:∃ N,g.length=N:=⟨_,rfl⟩;have HNL:=aQ hNl;obtain⟨hE,hT0,hB0⟩:=pre_ok w q0 N qc cl;have HE:=aQ hE;have HT0:=aQ hT0;have HB0:=aQ hB0;obtain⟨W0,hW0⟩:∃ W,preW w q0 N qc cl=W:=⟨_,rfl⟩;have HW0:=aQ hW0;have HO:=aQ (sopen_any hE hT0 (by omega) 0);have HME:=aQ (smeet_any hT0 0 (-1) (by simp[Ws0]) (by omega) rfl rfl (by simp[Ws0]));have HVI:=aQ (svisit_any (z:=w) hE h hNl (by omega) ⟨by omega,by omega⟩ hB0 1000 (Nat.le_refl _));unfold MeetQ at HME;have hS0:Ws0.meet 0 (-1)=ws0:=rfl;rw[hS0,show((Ws0.nodes.length:Nat):Int)=0 from rfl,show((0:Nat):Int)=0 from rfl]at HME;have hwk:wkS g cl=if isN N cl 0 then vz N cl (λ i=>g.getD i []) 1001 ws0 0 else Ws0:=by unfold wkS;rw[hNl];rfl
 have HFin:Hid (∀ (W:World) (S:Ws) (dn:List Int) (f:Int->Option Int) (q:Nat->Option Addr) (c:Nat->Nat),wkS g cl=S->S.nodes.length<=N->S.frm.length=S.nodes.length->To (preW w q0 N qc cl) W (w.heap.size+1+1+1) (w.heap.size+1+1) S dn f q c->WkP w (wkS g cl) (.returned (.pointer (some ⟨w.heap.size+1+1+1,0,none⟩))) W):=aQ (λ W S dn f q c e h1 h2 h3=>by
  rw[e];have hs:=HB0.out.size;have h4:=h3.sr.clE (j:=4) (by decide) (l:=S.left.map Int.ofNat) rfl rfl rfl (List.length_map ..);have h5:=h3.sr.ownE (j:=4) (by decide) (l:=S.left.map Int.ofNat) rfl rfl rfl (List.length_map ..).symm;rw[List.length_map]at h5;exact⟨_,_,_,rfl,by omega,h3.tt (by omega) h2 ⟨by omega,by omega,hs⟩,h4,own_low h5 hs,HB0.out.trans (h3.ch.below hs (λ k hk=>by omega))⟩)
 clear h hE hT0 hB0;generalize WkP w (wkS g cl)=Q at *;rw[hNl]at hN ⊢;by_cases h0:isN N cl 0
 ·have HO1:opn N cl Ws0 0=true:=by unfold opn;exact decide_eq_true ⟨h0,by simp[Ws0]⟩
  rw[HO1]at HO;rw[if_pos h0]at hwk;have HWK:=aQ hwk;have HIS:=aQ h0;unfold preW at HO HME
  have HVS:Hid (∃ S,vz N cl (λ i=>g.getD i []) 1001 ws0 0=S/\S.nodes.length<=N/\S.frm.length=S.nodes.length/\0<S.frm.length/\S.frm.getD 0 0 = -1):=aQ (by
   obtain⟨hi,k,_⟩:=vz_ok N cl (λ i=>g.getD i []) 1001 ws0 0 (ws0_wf h0) (by simp[ws0]) (by simp[ws0];omega);have h1:=k.len;have h2:ws0.nodes.length=1:=rfl;exact⟨_,rfl,k.wf.le,k.lf,by rw[k.lf];omega,by rw[k.oldF (by simp[ws0])];rfl⟩)
  obtain⟨S,hS,hS1,hS2,hS3,hS4⟩:=HVS.out
  have HVC:Hid (∀ W2 f2 q2 c2,To (preW w q0 N qc cl) W2 (w.heap.size+1+1+1) (w.heap.size+1+1) ws0 ([] ++ [0]) f2 q2 c2->Calls Tryz.prog 133 #[.int .i64 0,.int .i64 1000,.pointer (some ⟨w.heap.size,0,none⟩),.pointer (some ⟨w.heap.size+1+1+1+1,0,none⟩),.pointer (some ⟨w.heap.size+1+1+1+1+1,0,none⟩),.pointer (some ⟨w.heap.size+1+1+1+1+1+1,0,none⟩)] W2 (λ e w'=>e=.returned (.int .i64 (-1))/\∃ dn f q c,To (preW w q0 N qc cl) w' (w.heap.size+1+1+1) (w.heap.size+1+1) S dn f q c)):=aQ (λ W2 f2 q2 c2 h2=>by
   refine Calls.mono (HVI.out ws0 ([] ++ [0]) 0 1000 W2 f2 q2 c2 rfl (ws0_wf HIS.out) (by simp[ws0]) (by simp[ws0];omega) (by simp[ws0]) rfl rfl h2) ?_;rintro e w' ⟨he,dn,f,q,c,_,_,ht⟩;rw[hS]at ht;exact⟨he,dn,f,q,c,ht⟩)
  have HS:=aQ hS;have HS1:=aQ hS1;have HS2:=aQ hS2;have HS3:=aQ hS3;have HS4:=aQ hS4;clear hwk HO1 h0 hW0 hNl HVI hS hS1 hS2 hS3 hS4 HVS;have ft0:=HE.out.t;unfold preW at ft0;go_enter Tryz.func99,Tryz.ntmps99
  go_wp2_with (first
   | (go_at_call 131;(with_reducible refine HO.out.mono ?_);rintro e w1 ⟨rfl,rfl⟩)
   | (go_at_call 134;(with_reducible refine HME.out.mono ?_);rintro e w2 ⟨rfl,f2,q2,c2,hto⟩;have HTO:=aQ hto;clear hto))
  have HT2:=aQ (HVC.out w2 f2 q2 c2 HTO.out)
  go_loopw [8] (λ v wr=>(v=.int .i64 0/\wr=w2)∨(v=.int .i64 (-1)/\∃ dn f q c,To (preW w q0 N qc cl) wr (w.heap.size+1+1+1) (w.heap.size+1+1) S dn f q c)) (λ v _=>(RowKit.intOf v+1).toNat)
  case atStart=>exact .inl ⟨rfl,rfl⟩
  case round =>
   clear ft0;rcases hrel with ⟨rfl,rfl⟩|⟨rfl,dn,f,q,c,hto⟩
   ·have fv:=(HE.out.at HTO.out.ch).v
    go_wp2_with (go_at_call 133;(with_reducible refine HT2.out.mono ?_);rintro e w3 ⟨rfl,dn3,f3,q3,c3,hto⟩;obtain⟨g2,e2,_,_,_,_,k2⟩:=hto.sr.row (j:=2) (by decide) HS3.out;have d2:=hto.sr.clE (j:=2) (by decide) (l:=S.frm) rfl e2 rfl rfl;have d2c:=(k2 0 HS3.out).trans (congrArg (λ x=>some (Value.int .i64 x)) HS4.out);have ft:=(HE.out.at hto.ch).t;have hS3:=HS3.out;have HTO3:=aQ hto;clear k2 hto)
    go_roundw
    case rel=>exact .inr ⟨rfl,dn3,f3,q3,c3,HTO3.out⟩
    case measure=>simp[RowKit.intOf]
   ·have ft:=(HE.out.at hto.ch).t
    have HTO3:=aQ hto;clear hto;go_wp2_with fail
    exact HFin.out _ S _ _ _ _ (HWK.out.trans HS.out) HS1.out HS2.out HTO3.out
 ·have HO1:opn N cl Ws0 0=false:=by unfold opn;exact decide_eq_false (λ c=>h0 c.1)
  rw[HO1]at HO;rw[if_neg h0]at hwk;have HWK:=aQ hwk;unfold preW at HO;have ft:=HE.out.t;unfold preW at ft;clear hwk HO1 h0 hW0 hNl;go_enter Tryz.func99,Tryz.ntmps99
  go_wp2_with (go_at_call 131;(with_reducible refine HO.out.mono ?_);rintro e w1 ⟨rfl,rfl⟩)
  exact HFin.out _ Ws0 [] _ _ _ HWK.out (by simp[Ws0]) rfl HT0.out
theorem swalk_any(q0:Option Addr)(qc:Nat)(g:List (List Int))(cl:Int)(w:World)(h:GsAt w q0 g)(hN:g.length<=1000)(_:tot g<=1048576):Calls Tryz.prog 99 #[.slice q0 g.length qc,.int .i64 cl] w (WkP w (wkS g cl)):=swalk_all q0 qc g cl w h hN
theorem isN0{N:Nat}{cl:Int}:isN N cl 0↔0<N/\cl≠0:=by unfold isN;constructor <;> intro h <;> omega
theorem wkS_mem{g:List (List Int)}{cl:Int}(hN:g.length<=1000)(b:Nat):b∈(wkS g cl).nodes↔(gL g).Av (λ x=>(x:Int)=cl) b:=by
 unfold wkS;by_cases h:isN g.length cl 0
 ·rw[if_pos h];exact vz_mem h (by omega) b
 ·rw[if_neg h]
  constructor
  ·intro c;cases c
  ·intro c
   exfalso;rw[isN0]at h;have hl:=c.lt;have e:(gL g).N=g.length:=rfl;have hc:cl=0:=Classical.byContradiction λ k=>h ⟨by omega,k⟩
   have:∀ b,¬ (gL g).Av (λ x=>(x:Int)=cl) b:=by
    intro b hb
    induction hb with
    | zero _ h1=>exact h1 (by omega)
    | step _ _ _ ih=>exact ih
   exact this b c
theorem wkS_nm{g:List (List Int)}(hN:g.length<=1000):Nm g.length (λ i=>g.getD i []) (wkS g (-1)):=by
 unfold wkS;by_cases h:isN g.length (-1) 0
 ·rw[if_pos h];exact nm_ok (by rw[isN0]at h;exact h.1) (by omega)
 ·rw[if_neg h]
  have e:g.length=0:=by rw[isN0]at h;omega
  rw[e];exact nm_no
theorem wkS_wf{g:List (List Int)}{cl:Int}(hN:g.length<=1000):(wkS g cl).nodes.length<=g.length/\(wkS g cl).frm.length=(wkS g cl).nodes.length/\(wkS g cl).left.length<=g.length+1:=by
 unfold wkS;by_cases h:isN g.length cl 0
 ·rw[if_pos h]
  have h2:=vz_len (su:=λ i=>g.getD i []) (f:=1001) (i:=0) (ws0_wf h) (by simp[ws0]) (by simp[ws0];omega);have h3:=vz_left g.length cl (λ i=>g.getD i []) 1001 ws0 0;have h4:=h2.2.le;have h5:ws0.nodes.length=1/\ws0.left.length=0:=⟨rfl,rfl⟩;exact⟨h4,h2.2.lf,by omega⟩
 ·rw[if_neg h];exact⟨by simp,rfl,by simp⟩
theorem infoInts:(Tryz.prog.info? 34).map (λ i=>(i.zero,i.size,i.bytes))=some (some (.slice none 0 0),1,24):=by kernel_rfl
def Wd(g:List (List Int)):Prop:=∀ i,∀ x∈g.getD i [],(lit x).wf=true
theorem Sr.rows(base:Nat)(W:World)(N:Nat):Sr base (W.alloc (.cells (madeCells #[.slice none 0 0] N) 34)) W.heap.size (List.range N) (λ _=>[]) (λ _=>none) (λ _=>0):=by
 refine⟨by simp,λ j=>World.frozen?_alloc_new _ _ _ j,λ j hj=>?_,λ j _=>World.ownsRow_nil _ _ _ _,λ j _=>by simp,λ j _ k _ _=>.inl rfl⟩;have hj':=List.mem_range.1 hj;refine aJ W ?_;simp[madeCells,hj',Nat.mod_one]
def cb(k i:Nat):Nat:=k*4096+i
theorem cb_next{c k m:Nat}(h:c<=cb k m)(hm:m<=4096):c<=cb (k+1) 0:=by
 refine Nat.le_trans h ?_;unfold cb;rw[Nat.add_mul,Nat.one_mul];exact Nat.add_le_add_left hm _
structure Pr(su:Nat->List Int)(S:Ws)(k:Nat)(xs:List Int)(r:Nat->List Int)(cnt:Nat):Prop where
 is:∀ j,j<S.nodes.length->∀ x,x∈r j↔∃ p:Nat,x=(p:Int)/\((p<k/\(gN su S).e p j)∨(p=k/\((S.nodes.getD j 0:Nat):Int)∈xs))
 ln:∀ j,(r j).length<=cnt
theorem Pr.start(su:Nat->List Int)(S:Ws):Pr su S 0 [] (λ _=>[]) 0 :=
 ⟨λ j _ x=>⟨λ h=>(by cases h),λ ⟨p,_,h⟩=>(by
  rcases h with h|h
  ·exact absurd h.1 (Nat.not_lt_zero _)
  ·cases h.2)⟩,λ _=>Nat.le_refl _⟩
theorem Pr.skip{su:Nat->List Int}{S:Ws}{k cnt:Nat}{xs:List Int}{r:Nat->List Int}(h:Pr su S k xs r cnt){x:Int}(hx:∀ j,j<S.nodes.length->((S.nodes.getD j 0:Nat):Int)≠x):Pr su S k (xs ++ [x]) r (cnt+1):=by
 refine⟨λ j hj y=>?_,λ j=>Nat.le_succ_of_le (h.ln j)⟩;rw[h.is j hj y]
 have:((S.nodes.getD j 0:Nat):Int)∈xs ++ [x]↔((S.nodes.getD j 0:Nat):Int)∈xs:=by
  rw[List.mem_append,List.mem_singleton];exact⟨λ c=>c.resolve_right (hx j hj),.inl⟩
 simp only[this]
theorem Pr.put{su:Nat->List Int}{S:Ws}{k cnt n:Nat}{xs:List Int}{r:Nat->List Int}(hS:S.nodes.Nodup)(h:Pr su S k xs r cnt)(hn:n<S.nodes.length):Pr su S k (xs ++ [((S.nodes.getD n 0:Nat):Int)]) (up1 r n (r n ++ [(k:Int)])) (cnt+1):=by
 refine⟨λ j hj y=>?_,λ j=>?_⟩
 ·by_cases e:j=n
  ·subst e
   rw[cC,List.mem_append,h.is j hj y,List.mem_singleton];constructor
   ·rintro(⟨p,e1,c|⟨c1,c2⟩⟩|e1)
    ·exact⟨p,e1,.inl c⟩
    ·exact⟨p,e1,.inr ⟨c1,List.mem_append_left _ c2⟩⟩
    ·exact⟨k,e1,.inr ⟨rfl,List.mem_append_right _ (List.mem_singleton.2 rfl)⟩⟩
   ·rintro⟨p,e1,c|⟨c1,_⟩⟩
    ·exact .inl ⟨p,e1,.inl c⟩
    ·exact .inr (by rw[e1,c1])
  ·rw[bW _ _ _ e,h.is j hj y]
   have:((S.nodes.getD j 0:Nat):Int)∈xs ++ [((S.nodes.getD n 0:Nat):Int)]↔((S.nodes.getD j 0:Nat):Int)∈xs:=by
    rw[List.mem_append,List.mem_singleton];exact⟨λ c=>c.resolve_right (λ c=>e (nodup_getD hS hj hn (by omega))),.inl⟩
   simp only[this]
 ·unfold up1
  split
  ·rename_i e;subst e;have:=h.ln j;simp;omega
  ·have:=h.ln j;omega
theorem Pr.next{su:Nat->List Int}{S:Ws}{k cnt:Nat}{r:Nat->List Int}(h:Pr su S k (su (S.nodes.getD k 0)) r cnt)(hk:k<S.nodes.length):Pr su S (k+1) [] r cnt:=by
 refine⟨λ j hj y=>?_,h.ln⟩;rw[h.is j hj y];constructor
 ·rintro⟨p,e1,⟨c1,c2⟩|⟨c1,c2⟩⟩
  ·exact⟨p,e1,.inl ⟨by omega,c2⟩⟩
  ·subst c1;exact⟨p,e1,.inl ⟨by omega,hk,hj,c2⟩⟩
 ·rintro⟨p,e1,⟨c1,c2⟩|⟨_,c2⟩⟩
  ·by_cases e:p=k
   ·subst e;exact⟨p,e1,.inr ⟨rfl,c2.2.2⟩⟩
   ·exact⟨p,e1,.inl ⟨by omega,c2⟩⟩
  ·cases c2
theorem Pr.done{su:Nat->List Int}{S:Ws}{cnt:Nat}{r:Nat->List Int}(h:Pr su S S.nodes.length [] r cnt):∀ j,j<S.nodes.length->∀ x,x∈r j↔∃ p:Nat,x=(p:Int)/\(gN su S).e p j:=λ j hj x=>by
 rw[h.is j hj x];constructor
 ·rintro⟨p,e1,⟨_,c2⟩|⟨_,c2⟩⟩
  ·exact⟨p,e1,c2⟩
  ·cases c2
 ·rintro⟨p,e1,c⟩;exact⟨p,e1,.inl ⟨c.1,c⟩⟩
def PrP(w:World)(su:Nat->List Int)(S:Ws)(e:Ending)(w':World):Prop :=
 ∃ gp r P C,e=.returned (.slice (some ⟨gp,0,none⟩) S.nodes.length S.nodes.length)/\w.heap.size<=gp/\Sr w.heap.size w' gp (List.range S.nodes.length) r P C/\(∀ j,j<S.nodes.length->∀ x,x∈r j↔∃ p:Nat,x=(p:Int)/\(gN su S).e p j)/\(∀ j,(r j).length<=134217728)/\Below w.heap.size w w'
theorem spreds_any{B b:Nat}{S:Ws}(q:Option Addr)(qc:Nat)(g:List (List Int))(w:World)(h:GsAt w q g)(_hN:g.length<=999)(hT:tot g<=4096)(hW:Wd g)(ht:Tt B w b S)(hS:S.nodes.Nodup)(hlt:∀ x∈S.nodes,x<g.length)(hM:S.nodes.length<=999) :
  Calls Tryz.prog 100 #[.pointer (some ⟨b,0,none⟩),.slice q g.length qc] w (PrP w (λ i=>g.getD i []) S):=by
 have HG:=aQ (λ W (hb:Below w.heap.size w W) i hi=>(h.below hb).cells i hi);have HTT:=aQ (λ W (hb:Below w.heap.size w W)=>ht.next hb);obtain⟨su,hsu⟩:∃ su:Nat->List Int,(λ i=>g.getD i [])=su:=⟨_,rfl⟩;have hsi:∀ i,g.getD i []=su i:=λ i=>congrFun hsu i
 have HRW:Hid (∀ i,i<g.length->(g.getD i []).length<=tot g):=aQ (λ i hi=>row_le hi);unfold Wd at hW;simp only[hsi]at HG HRW hW;rw[hsu];obtain⟨q1,c1,d1,n1,_⟩:=ht.r1;have dl:=ht.bl;obtain⟨M,hMd⟩:∃ M,S.nodes.length=M:=⟨_,rfl⟩;have HML:Hid (S.nodes.length=M/\(S.nodes.map Int.ofNat).length=M):=aQ ⟨hMd,(List.length_map ..).trans hMd⟩;have HN1:=aQ n1
 have HX:Hid (∀ k,k<M->S.nodes.getD k 0<g.length/\(S.nodes.map Int.ofNat).getD k 0=((S.nodes.getD k 0:Nat):Int)):=aQ (λ k hk=>⟨hlt _ (bV (by rw[hMd];exact hk)),by
  rw[List.getD_eq_getElem?_getD,List.getD_eq_getElem?_getD,List.getElem?_map,List.getElem?_eq_getElem (by rw[hMd];exact hk)];rfl⟩)
 have HD:Hid (∀ W r P C cnt,cnt<=134217728->Pr su S M [] r cnt->Sr w.heap.size W w.heap.size (List.range M) r P C->Below w.heap.size w W->PrP w su S (.returned (.slice (some ⟨w.heap.size,0,none⟩) M M)) W):=aQ (λ W r P C cnt h0 h1 h2 h3=>by
  rw[<- hMd]at h1 h2 ⊢;exact⟨_,r,P,C,rfl,Nat.le_refl _,h2,h1.done,λ j=>Nat.le_trans (h1.ln j) h0,h3⟩)
 generalize PrP w su S=Q at *;have HW:=aQ hW;have HS:=aQ hS;have hmk:=λ W=>run_make_row' (P:=Tryz.prog) 72 34 (.slice none 0 0) 24 Tryz.underlying72 infoInts rfl .i64 .i64 M (by omega) (by omega) W
 have HN9:=aQ (λ (x:Int) (W:World) k (e:k=W.heap.size)=>(e ▸ bH (k:=.i64) W 3 [x] #[.int .i64 x] rfl (by simp):NumsAt .i64 (W.alloc (.cells #[.int .i64 x] 3)) (some ⟨k,0,none⟩) [x]));obtain⟨N,hNd⟩:∃ N,g.length=N:=⟨_,rfl⟩;obtain⟨TT,hTT⟩:∃ T,tot g=T:=⟨_,rfl⟩;rw[hMd]at d1 hM;rw[hNd]at HG HRW HX _hN ⊢;rw[hTT]at HRW hT;have HB0:Hid (Below w.heap.size w (w.alloc (.cells (madeCells #[.slice none 0 0] M) 34))):=aQ b1;have HR0:=aQ (Sr.rows w.heap.size w M);have HP0:=aQ (Pr.start su S);clear h ht n1 hW hS hlt hsu hsi hMd hNd hTT;go_enter Tryz.func100,Tryz.ntmps100
 go_wp2_with fail
 go_loopw [23] (λ v wr=>∃ (k:Nat) (r:Nat->List Int) (P:Nat->Option Addr) (C:Nat->Nat) (cnt:Nat),k<=M/\v=.int .i64 (k:Int)/\Hid (cnt<=cb k 0)/\Hid (Pr su S k [] r cnt)/\Hid (Sr w.heap.size wr w.heap.size (List.range M) r P C)/\Below w.heap.size w wr) (λ v _=>M - (RowKit.intOf v).toNat)
 case atStart=>exact⟨0,_,_,_,0,Nat.zero_le _,rfl,aQ (Nat.zero_le _),HP0,HR0,HB0.out⟩
 case round =>
  clear HP0 HR0 d1 dl HB0;obtain⟨k,r,P,C,cnt,hk,rfl,HC,HPR,HSR,hb⟩:=hrel;have HB:=aQ hb;have d1l:=hb;by_cases hkM:k<M
  ·obtain⟨b5,o5,rfl,hl5,e5⟩:=(HN1.out.below hb).cells k (by rw[HML.out.2];exact hkM)
   obtain⟨hx,e6⟩:=HX.out k hkM;rw[e6]at e5;obtain⟨u,hu⟩:∃ u,S.nodes.getD k 0=u:=⟨_,rfl⟩;rw[hu]at hx e5;have HU:=aQ hu;obtain⟨b4,o4,p4,c4,rfl,hb4,e4w,n4⟩:=HG.out w (Below.refl _ _) u hx;have e4:=(hb.cell (p:=⟨b4,o4+u,none⟩) hb4).trans e4w;have lb4:=Nat.lt_of_lt_of_le hb4 hb.size;have HG4:=aQ (λ W (hW:Below w.heap.size w W)=>n4.below hW);have HWR:Hid (∀ x∈su u,(lit x).wf=true):=aQ (HW.out u);have hRT:=HRW.out u hx;obtain⟨row,hrow⟩:∃ row,su u=row:=⟨_,rfl⟩;rw[hrow]at e4 HG4 hRT HWR;have HRE:=aQ hrow;obtain⟨m,hm⟩:∃ m,row.length=m:=⟨_,rfl⟩;rw[hm]at e4 hRT;have HMM:=aQ hm;clear hb d1l hm hrow n4 hu e6 e4w;go_wp2_with fail
   go_loopw [33] (λ v wr2=>∃ (i:Nat) (r:Nat->List Int) (P:Nat->Option Addr) (C:Nat->Nat) (cnt:Nat),i<=m/\v=.int .i64 (i:Int)/\Hid (cnt<=cb k i)/\Hid (Pr su S k (row.take i) r cnt)/\Hid (Sr w.heap.size wr2 w.heap.size (List.range M) r P C)/\Below w.heap.size w wr2) (λ v _=>m - (RowKit.intOf v).toNat)
   case atStart=>exact⟨0,r,P,C,cnt,Nat.zero_le _,rfl,HC,by rw[List.take_zero];exact HPR,HSR,HB.out⟩
   case round =>
    clear e4 HC HPR HSR HB lb4 hl5 e5;obtain⟨i,r,P,C,cnt,hi,rfl,HC,HPR,HSR,hb⟩:=hrel;have HB:=aQ hb;by_cases him:i<m
    ·obtain⟨b6,o6,rfl,hl6,e6⟩:=(HG4.out wr hb).cells i (by rw[HMM.out];exact him)
     have hilt:i<row.length:=by rw[HMM.out];exact him
     have HTK:Hid (row.take (i+1)=row.take i ++ [row.getD i 0]):=aQ (take_one hilt);have hxw:(lit (row.getD i 0)).wf=true:=HWR.out _ (by rw[List.getD_eq_getElem?_getD,List.getElem?_eq_getElem hilt];exact List.getElem_mem hilt);obtain⟨mm,nn,f,c0,hmp,hf,_⟩:=(HTT.out wr hb).mp;have dbl:=(HTT.out wr hb).bl;have HMP:=aQ hmp;have HNF:=aQ hf;clear hb hmp hf hilt;generalize row.getD i 0=x at *;cases hfx:f x with
     | none =>
      have HP2:=aQ (HPR.out.skip (x:=x) (λ j hj e=>by have:=HNF.out.is j hj;rw[e,hfx]at this;cases this));go_wp2_with (at_lookup;refine dC rfl (.tmp 41) (.tmp 42) rfl mm nn f x rfl rfl HMP.out hxw hfx ?_;intro c1)
      go_roundw
      case rel=>exact⟨i+1,r,P,C,cnt+1,by omega,rfl,aQ (Nat.succ_le_succ HC.out),by rw[HTK.out];exact HP2,HSR,HB.out⟩
      case measure=>simp[RowKit.intOf];omega
     | some y =>
      obtain⟨n,hn,hxe,rfl⟩:=HNF.out.some_iff hfx;rw[HML.out.1]at hn;have HP2:=aQ (HPR.out.put HS.out (n:=n) (by rw[HML.out.1];exact hn));rw[hxe]at HP2;have hmem:n∈List.range M:=List.mem_range.2 hn;have hln:=HPR.out.ln n;have HLB:Hid (cb k i<=1099511627775):=aQ (by unfold cb;omega);obtain⟨l,hl⟩:∃ l,r n=l:=⟨_,rfl⟩;obtain⟨z,hz⟩:∃ z,l.length=z:=⟨_,rfl⟩;have HLN:Hid (l.length=z/\(l ++ [(k:Int)]).length=z+1/\l.length+[(k:Int)].length<=1099511627776):=aQ ⟨hz,by simp[hz],by have:=HC.out;have:=HLB.out;rw[hl]at hln;simp;omega⟩;have g1:=HSR.out.clE (j:=n) hmem hl rfl rfl hz;have g2:=HSR.out.bl;have HSM:Hid (Sr w.heap.size (wr.alloc (.cells #[.int .i64 (k:Int)] 3)) w.heap.size (List.range M) r P C):=aQ (HSR.out.grown (fU wr _) (by simp) (λ _ _ _ e=>by cases e));have HEN:Hid (n∈List.range M/\r n=l):=aQ ⟨hmem,hl⟩;have HBA:Hid (Below w.heap.size w (wr.alloc (.cells #[.int .i64 (k:Int)] 3))):=aQ (HB.out.trans (b1.mono HB.out.size));have HN8:=aQ (HN9.out (k:Int) wr _ rfl);rw[hl]at HP2;clear hln hmem hl hz hxe
      go_wp2_with (first
       | (at_lookup;refine dA rfl (.tmp 41) (.tmp 42) rfl mm nn f x (n:Int) rfl rfl HMP.out hxw hfx ?_)
       | (at_builtin;refine aZ rfl (.tmp 52) (.tmp 54) rfl rfl w.heap.size _ [(k:Int)] l (.slice (P n) z (C n)) 1 1 rfl rfl rfl (HSM.out.ownE (j:=n) HEN.out.1 HEN.out.2 rfl rfl HLN.out.1.symm) HN8.out HBA.out.size HLN.out.2.2 ?_;intro v8 w8 ho8 hg8 hb8;rw[HLN.out.2.1]at ho8;obtain⟨q8,c8,rfl⟩:=aW ho8;obtain⟨e8,fz8,bl8⟩:=HSM.out.mid (j:=n) HEN.out.1 hg8;rw[HEN.out.2,HLN.out.1]at e8;have HX:=aQ (HSM.out.app (j:=n) HEN.out.1 (by rw[HLN.out.2.1];exact ho8) HLN.out.2.1.symm hg8 hb8);have HBX:=aQ ((HBA.out.grown hg8 HBA.out.size (λ k e=>(HSM.out.blk (j:=n) HEN.out.1 (by rw[<- e,aH])).1)).setCell (p:=⟨w.heap.size,n,none⟩) (Nat.le_refl _) (.slice q8 (z+1) c8));clear ho8 hg8 hb8))
      go_roundw
      case rel=>exact⟨i+1,_,_,_,cnt+1,by omega,rfl,aQ (Nat.succ_le_succ HC.out),by rw[HTK.out];exact HP2,HX,HBX.out⟩
      case measure=>simp[RowKit.intOf];omega
    ·obtain rfl:m=i:=by omega
     have HP2:Hid (Pr su S (k+1) [] r cnt):=aQ ((show Pr su S k (su (S.nodes.getD k 0)) r cnt by rw[HU.out,HRE.out,<- List.take_length (l:=row),HMM.out];exact HPR.out).next (by rw[HML.out.1];exact hkM));clear hb;go_wp2_with fail
     go_roundw
     case rel=>exact⟨k+1,r,P,C,cnt,by omega,rfl,aQ (cb_next HC.out (by omega)),HP2,HSR,HB.out⟩
     case measure=>simp[RowKit.intOf];omega
  ·obtain rfl:M=k:=by omega
   clear hb d1l;go_wp2_with fail
   exact HD.out _ _ _ _ _ (Nat.le_trans HC.out (by unfold cb;omega)) HPR.out HSR.out HB.out
end Go.Proofs.YtkfahppdklecdaaGreatDoor.J
