import Derived.Test.YtkfahppdklecdaaGreatDoorZ11
import Derived.Test.YtkfahppdklecdaaGreatDoorShelf
import Derived.Maps.OwnSet
import Derived.Maps.OwnOps
set_option maxRecDepth 100000
set_option maxHeartbeats 16000000
namespace Go.Proofs.YtkfahppdklecdaaGreatDoor
open Go.RowKit M
def lit(n:Int):Lit:=.int .i64 n
theorem lit_ne{n k:Int}(h:n≠k):lit n≠lit k:=λ e=>h (by injection e)
theorem lit_key(n:Int):WideAt.IsKeyLit (lit n):=by simp[WideAt.IsKeyLit,lit]
theorem keyLaw:Maps.Keyed Tryz.prog 3:=Maps.int_keyed Tryz.underlying3
theorem zeroI(w:World):(zeroValue 3).run Tryz.prog w=.ok (.int .i64 0) w:=by kernel_rfl
theorem dK{k:Int}(h0:-1048576<=k)(h1:k<=1048576):(lit k).wf=true:=by
 show(decide (IntKind.i64.min<=k) && decide (k<=IntKind.i64.max))=true;rw[show IntKind.i64.min = -9223372036854775808 from rfl,show IntKind.i64.max=9223372036854775807 from rfl];simp;omega
def Mp(W:World)(b n:Nat)(m:Int->Option Int):Prop :=
 ∃ D:DataW Unit,W.ownsMap Tryz.prog 3 (plainElem Tryz.prog 3) b n D/\(∀ k,Maps.has D (lit k)=(m k).isSome)/\∀ k x z,m k=some x->D.atKey (lit k) z=.lit (lit x)
def mput(m:Int->Option Int)(k x:Int):Int->Option Int:=λ j=>if j=k then some x else m j
theorem Mp.made(W:World):Mp (W.alloc (.map #[] 0)) W.heap.size 0 (λ _=>none) :=
 ⟨.map [],World.ownsMap_made _ _ _ _,λ _=>rfl,λ _ _ _ h=>by cases h⟩
theorem Mp.lt{W:World}{b n:Nat}{m:Int->Option Int}(h:Mp W b n m):b<W.heap.size:=by
 obtain⟨D,h,_⟩:=h;exact h.lt
theorem Mp.kept{W W':World}{b n:Nat}{m:Int->Option Int}{row:Option Nat}(h:Mp W b n m)(hg:W.grownBy W' row)(hb:some b≠row):Mp W' b n m:=by
 obtain⟨D,h,r⟩:=h;exact⟨D,h.kept hg hb,r⟩
theorem Mp.next{W W':World}{b n:Nat}{m:Int->Option Int}(h:Mp W b n m)(hb:Below W.heap.size W W'):Mp W' b n m:=by
 obtain⟨D,h,r⟩:=h;have hl:=h.lt;obtain⟨es,clock,he,F,hs,hD⟩:=h;exact⟨D,⟨es,clock,(hb.block b hl).trans he,F,hs,hD⟩,r⟩
theorem Mp.other{W:World}{b n:Nat}{m:Int->Option Int}(h:Mp W b n m){a:Addr}(ha:a.block≠b)(v:Value):Mp (W.setCell a v) b n m:=by
 obtain⟨D,h,r⟩:=h;exact⟨D,h.setCell (λ e=>ha e.symm) v,r⟩
theorem Mp.update{W:World}{b n:Nat}{m:Int->Option Int}(h:Mp W b n m)(hn:n<1048576){k x:Int}(hk:(lit k).wf=true)(hx:(lit x).wf=true) :
  ∃ W',(Instr.mapUpdate 124 (.map (some b)) (.int .i64 k) (.int .i64 x)).run Tryz.prog W=.ok () W'/\Mp W' b (n+1) (mput m k x)/\W.grownBy W' (some b):=by
 obtain⟨D,h,h1,h2⟩:=h;obtain⟨W',r,o,g⟩:=h.update keyLaw Tryz.underlying124 (by unfold maxLen;omega) (Maps.keyOf_int_mk Tryz.underlying3 hk) (plainElem_int Tryz.underlying3 hx);refine⟨W',r,⟨_,o,λ j=>?_,λ j y z hj=>?_⟩,g⟩
 ·unfold mput
  by_cases e:j=k
  ·subst e;rw[if_pos rfl];exact Maps.has_put_same h.isMap (lit_key j) _
  ·rw[if_neg e];exact(Maps.has_put_other (lit_ne e) _).trans (h1 j)
 ·unfold mput at hj
  by_cases e:j=k
  ·subst e;rw[if_pos rfl]at hj;cases hj;exact Maps.atKey_put_same h.isMap (lit_key j) _ _
  ·rw[if_neg e]at hj;exact(Maps.atKey_put_other (lit_ne e) _ _).trans (h2 j y z hj)
theorem eT{w:World}{ops:Array Oper}{rest:List Oper}{o:Oper}{a:Act}{Q:Exit->Act->World->Prop}(hg:o.guard=none)(m x v:Operand)(hop:o.op=Op.mapUpdate 124 m x v)
  (b n:Nat) (f:Int->Option Int) (k y:Int) (hm:a.eval m=.map (some b)) (hx:a.eval x=.int .i64 k) (hv:a.eval v=.int .i64 y) (h:Mp w b n f) (hn:n<1048576) (hk:(lit k).wf=true) (hy:(lit y).wf=true)
  (hK:∀ w',Mp w' b (n+1) (mput f k y)->w.grownBy w' (some b)->wpList Tryz.prog ops Q rest (a.put o.dst undef) w'):wpList Tryz.prog ops Q (o :: rest) a w:=by
 refine wpList_plain hg λ K' hK'=>?_
 obtain⟨w',hrun,r1,r2⟩:=h.update hn hk hy;unfold Oper.wp;simp[execOp,hop,hm,hx,hv,hrun,Result.andThen];exact hK' _ _ (hK w' r1 r2)
theorem wpList_mp_look{w:World}{ops:Array Oper}{rest:List Oper}{o:Oper}{a:Act}{Q:Exit->Act->World->Prop}(hg:o.guard=none)(m x:Operand)(hop:o.op=Op.lookup 124 m x false)
  (b n:Nat) (f:Int->Option Int) (k y:Int) (hm:a.eval m=.map (some b)) (hx:a.eval x=.int .i64 k) (h:Mp w b n f) (hk:(lit k).wf=true) (hy:f k=some y)
  (hK:wpList Tryz.prog ops Q rest (a.put o.dst (.int .i64 y)) w):wpList Tryz.prog ops Q (o :: rest) a w:=by
 obtain⟨D,h,h1,h2⟩:=h;refine wpList_lookup_own_int w hg m x 124 hop 3 3 .i64 keyLaw Tryz.underlying124 Tryz.underlying3 (zeroI w) b n D hm h (.int .i64 k) (lit k) hx (Maps.keyOf_int_mk Tryz.underlying3 hk) (λ c hat _=>?_);have e:=(h2 k y _ hy).symm.trans hat;have e2:y=c:=by injection e with e;injection e
 rw[<- e2];exact hK
theorem dA{w:World}{ops:Array Oper}{rest:List Oper}{o:Oper}{a:Act}{Q:Exit->Act->World->Prop}(hg:o.guard=none)(m x:Operand)(hop:o.op=Op.lookup 124 m x true)
  (b n:Nat) (f:Int->Option Int) (k y:Int) (hm:a.eval m=.map (some b)) (hx:a.eval x=.int .i64 k) (h:Mp w b n f) (hk:(lit k).wf=true) (hy:f k=some y)
  (hK:wpList Tryz.prog ops Q rest (a.put o.dst (.tuple #[.int .i64 y,.bool true])) w):wpList Tryz.prog ops Q (o :: rest) a w:=by
 obtain⟨D,h,h1,h2⟩:=h;refine wpList_lookup_own_ok_int w hg m x 124 hop 3 3 .i64 keyLaw Tryz.underlying124 Tryz.underlying3 (zeroI w) b n D hm h (.int .i64 k) (lit k) hx (Maps.keyOf_int_mk Tryz.underlying3 hk) (λ c hat _=>?_);have e:=(h2 k y _ hy).symm.trans hat;have e2:y=c:=by injection e with e;injection e
 have e3:Maps.has D (lit k)=true:=by rw[h1 k,hy];rfl
 rw[<- e2,e3];exact hK
theorem dC{w:World}{ops:Array Oper}{rest:List Oper}{o:Oper}{a:Act}{Q:Exit->Act->World->Prop}(hg:o.guard=none)(m x:Operand)(hop:o.op=Op.lookup 124 m x true)
  (b n:Nat) (f:Int->Option Int) (k:Int) (hm:a.eval m=.map (some b)) (hx:a.eval x=.int .i64 k) (h:Mp w b n f) (hk:(lit k).wf=true) (hy:f k=none)
  (hK:∀ c:Int,wpList Tryz.prog ops Q rest (a.put o.dst (.tuple #[.int .i64 c,.bool false])) w):wpList Tryz.prog ops Q (o :: rest) a w:=by
 obtain⟨D,h,h1,h2⟩:=h;refine wpList_lookup_own_ok_int w hg m x 124 hop 3 3 .i64 keyLaw Tryz.underlying124 Tryz.underlying3 (zeroI w) b n D hm h (.int .i64 k) (lit k) hx (Maps.keyOf_int_mk Tryz.underlying3 hk) (λ c hat _=>?_);have e3:Maps.has D (lit k)=false:=by rw[h1 k,hy];rfl
 rw[e3];exact hK c
theorem Mp.perm{W:World}{b n:Nat}{m:Int->Option Int}{D:DataW Unit}(h:W.ownsMap Tryz.prog 3 (plainElem Tryz.prog 3) b n D)(h1:∀ k,Maps.has D (lit k)=(m k).isSome){l:List Int}(hnd:l.Nodup)(hm:∀ k,k∈l↔(m k).isSome=true):l.Perm (intKeys D):=by
 obtain⟨es,hD,hpw,_⟩:=h.entries keyLaw;obtain⟨es',hD',hko⟩:=h.keysOf;obtain rfl:es=es':=by rw[hD]at hD';simpa using hD'
 subst hD;exact perm_intKeys hpw (λ p hp=>by obtain⟨v,hv⟩:=hko p hp;obtain⟨x,_,hx,_⟩:=Maps.keyOf_i64 Tryz.underlying3 hv;exact⟨x,hx⟩) hnd (λ x=>by rw[hm x,<- h1 x];rfl)
theorem intKeys_size{W:World}{b n:Nat}{D:DataW Unit}(h:W.ownsMap Tryz.prog 3 (plainElem Tryz.prog 3) b n D):(intKeys D).length=Maps.size D:=by
 obtain⟨es,rfl⟩:=h.isMap;simp[intKeys,Maps.size]
theorem Mp.size{W:World}{b n:Nat}{m:Int->Option Int}(h:Mp W b n m){l:List Int}(hnd:l.Nodup)(hm:∀ k,k∈l↔(m k).isSome=true)(ty:TypeId) :
  (Builtin.len_ #[124] ty #[.map (some b)]).run Tryz.prog W=.ok (.int .i64 (l.length:Int)) W:=by
 obtain⟨D,h,h1,h2⟩:=h;have hp:=Mp.perm h h1 hnd hm;rw[h.len Tryz.underlying124 ty,<- intKeys_size h,hp.length_eq]
theorem maps_keys(mb:Option Nat)(W:World):Calls Tryz.prog 93 #[.map mb] W λ e w'=>e=.returned (.func (.func 126) #[] #[.pointer (some ⟨W.heap.size,0,none⟩)])/\w'=W.alloc (.cells #[.map mb] 124) :=
 callsIn_wide.1 (AnyZI.keys_in Tryz.keysA Fence.wide 5 trivial rfl mb W)
theorem sortsA(m:Nat):AnyZI.SortsIn Tryz.prog Tryz.sortedA_ren Fence.wide m :=
 ⟨λ blk off cap ss W hH hblk hsz=>callsIn_wide.2 (AnyM.slices_Sort_int Tryz.laysSlM5_f125 blk off cap ss W hH hblk hsz),
 λ p cap W=>callsIn_wide.2 (AnyM.slices_Sort_int_none Tryz.laysSlM5_f125 p cap W)⟩
theorem sort_same{ss l:List Int}(hp:ss.Perm l)(hs:l.Pairwise (· < ·)):ss.mergeSort leI=l:=by
 rw[mergeSort_of_perm_i hp];exact List.mergeSort_of_pairwise (hs.imp (λ h=>by simp only[leI,decide_eq_true_eq];omega))
theorem nodup_lt{l:List Int}(hs:l.Pairwise (· < ·)):l.Nodup:=hs.imp (λ h=>by omega)
theorem sorted_keys{w:World}{b n:Nat}{m:Int->Option Int}(h:Mp w b n m){l:List Int}(hs:l.Pairwise (· < ·))(hm:∀ k,k∈l↔(m k).isSome=true)(hl:l.length<=8192) :
  Calls Tryz.prog 92 #[.func (.func 126) #[] #[.pointer (some ⟨w.heap.size,0,none⟩)]] (w.alloc (.cells #[.map (some b)] 124)) λ e w'=>∃ q c,e=.returned (.slice q l.length c)/\NumsAt .i64 w' q l/\Below w.heap.size w w'/\∀ ad,q=some ad->w.heap.size<ad.block:=by
 obtain⟨D,hown,h1,h2⟩:=h;have hp:=Mp.perm hown h1 (nodup_lt hs) hm;have hsz:Maps.size D=l.length:=by rw[<- intKeys_size hown,hp.length_eq]
 have hbl:=hown.lt;have hmax:Maps.size D<=maxLen:=by unfold maxLen;omega
 have hbytes:Maps.size D*8<=140737488355328:=by omega
 have hseq:SeqGives Fence.wide 2 Tryz.prog 126 #[.pointer (some ⟨w.heap.size,0,none⟩)] encZ (λ ss=>ss.Perm (intKeys D)) (Maps.size D) (w.alloc (.cells #[.map (some b)] 124)) :=
  AnyZI.keys_gives (ρ:=Tryz.keysA_ren) { Tryz.keysA with } Fence.wide _ trivial rfl (by omega) w.heap.size b n D _ (by simp) (by simp) (by
   obtain⟨es,clock,hb,Ft,hs,hD⟩:=hown;exact⟨es,clock,(Below.heap_alloc _ _ b hbl).trans hb,Ft,hs,hD⟩)
 have cS:=AnyZI.sorted_in Tryz.sortedA Fence.wide 5 trivial trivial trivial trivial rfl (by omega) (sortsA _) (enters_of Tryz.func125 (by kernel_rfl) rfl) 126 #[.pointer (some ⟨w.heap.size,0,none⟩)] trivial (enters_of Tryz.func126 (by kernel_rfl) rfl) _ _ hmax hbytes _ hseq;refine(callsIn_wide.1 cS).mono ?_;rintro e w' ⟨v,ss,rfl,hS,hrow,hnil,hb⟩;have hss:ss.mergeSort leI=l:=sort_same (hS.trans hp.symm) hs;have hlen:ss.length=l.length:=(hS.trans hp.symm).length_eq
 have hrow':w'.ownsRow (w.alloc (.cells #[.map (some b)] 124)).heap.size 3 1 v l.length (aX l):=by
  have:=hrow;rw[show(λ x y=>decide (x<=y):Int->Int->Bool)=leI from rfl,hss,hlen]at this;exact this
 obtain⟨q,c,rfl⟩:=aW hrow';refine⟨q,c,rfl,cA hrow' (by omega),((Below.refl _ w).alloc (Nat.le_refl _) _).trans (hb.mono (by simp)),λ ad e=>?_⟩;have:=(hrow'.lt ad.block (by rw[aH,e];rfl)).1;simp at this;omega
theorem pjumps_any(x:In)(hx:Bd x)(w:World):Calls Tryz.prog 90 #[.agg #[.int .i64 x.op,.int .i64 x.dst,.int .i64 x.src,.int .i64 x.off,.int .i64 x.imm,.int .u64 x.wide]] w λ e w'=>e=.returned (.bool (jB x))/\Below w.heap.size w w':=by
 have hj:=λ W=>jump_any x.op W hx.op.1 hx.op.2
 unfold JmpP at hj;have he:jB x=(jmpB x.op || (x.op == 5)):=rfl;rw[he];clear he hx;obtain⟨x0,x1,x2,x3,x4,x5⟩:=x;dsimp only at hj ⊢;generalize (jmpB x0 && decide (x0 % 8=5))=b at *;generalize (if jmpB x0=true then x0 - x0 % 16 else 0)=c at *;generalize jmpB x0=g at *;have HJ:=aQ hj;clear hj;cases g with
 | true =>
  rw[Bool.true_or];go_enter Tryz.func90,Tryz.ntmps90
  go_wp2_with (go_at_call 97;(with_reducible refine(HJ.out _).mono ?_);rintro e w1 ⟨rfl,rfl⟩)
  go_ret;exact⟨rfl,(Below.refl _ _).alloc (Nat.le_refl _) _⟩
 | false =>
  rw[Bool.false_or];go_enter Tryz.func90,Tryz.ntmps90
  go_wp2_with (go_at_call 97;(with_reducible refine(HJ.out _).mono ?_);rintro e w1 ⟨rfl,rfl⟩)
  go_ret;exact⟨rfl,(Below.refl _ _).alloc (Nat.le_refl _) _⟩
theorem behind_is{l:List In}(hc:(aS l).2=0){i:Nat}(hi:(gOf l).R i):nxI (l.getD i z) i=if bU l ((i:Int)+1)=true then i+2 else i+1:=by
 have hG:=bJ hc;obtain⟨h1,h2⟩:=hi.ok hG;unfold nxI;by_cases c:(l.getD i z).op=24
 ·rw[if_pos c]
  rcases hG.nx i h1 h2 with e|⟨_,e⟩
  ·have e':nxI (l.getD i z) i=i+1:=e
   unfold nxI at e';rw[if_pos c]at e';omega
  ·have e':bU l (((i+1:Nat)):Int)=true:=e
   rw[show((i:Int)+1)=((i+1:Nat):Int) by omega,if_pos e']
 ·rw[if_neg c,if_neg]
  intro hh
  have hlt:i+1<l.length:=by
   unfold bU at hh;simp at hh;omega
  have h3:bU l ((i+1:Nat):Int)=true:=by rw[show((i+1:Nat):Int)=(i:Int)+1 by omega];exact hh
  rw[fG hlt,gA]at h3;have c':¬ opL l i=24:=c;rw[decide_eq_false c']at h3;simp at h3
theorem behind_any(q:Option Addr)(qc:Nat)(l:List In)(i:Nat)(w:World)(h:InsAt w q l)(hc:(aS l).2=0)(hi:(gOf l).R i):Calls Tryz.prog 94 #[.slice q l.length qc,.int .i64 (i:Int)] w λ e w'=>e=.returned (.int .i64 ((nxI (l.getD i z) i:Nat):Int))/\w=w':=by
 have HH:=hole_any q qc l ((i:Int)+1) w h;have hN:=(cW hc).1;have hiN:i<l.length:=(hi.ok (bJ hc)).1;rw[behind_is hc hi];generalize bU l ((i:Int)+1)=b at *;generalize l.length=N at *;have HH:=aQ HH;clear h hc hi;cases b with
 | true =>
  rw[if_pos rfl];go_enter Tryz.func94,Tryz.ntmps94
  go_wp2_with (go_at_call 87;(with_reducible refine HH.out.mono ?_);rintro e w1 ⟨rfl,rfl⟩)
  go_ret;exact⟨rfl,rfl⟩
 | false =>
  rw[if_neg (by simp)];go_enter Tryz.func94,Tryz.ntmps94
  go_wp2_with (go_at_call 87;(with_reducible refine HH.out.mono ?_);rintro e w1 ⟨rfl,rfl⟩)
  go_ret;exact⟨rfl,rfl⟩
structure Wo(l:List In)(met:List Bool)(T:List Nat):Prop where
 len:met.length=l.length
 in1:∀ k,met.getD k false=true->(gOf l).R k
 in2:∀ k∈T,met.getD k false=true
 zero:met.getD 0 false=true
 on:∀ k,met.getD k false=true->k∈T∨∀ s∈(gOf l).su k,met.getD s false=true
structure Wi(l:List In)(met:List Bool)(T:List Nat)(i j:Nat):Prop where
 len:met.length=l.length
 in1:∀ k,met.getD k false=true->(gOf l).R k
 in2:∀ k∈T,met.getD k false=true
 zero:met.getD 0 false=true
 cur:met.getD i false=true
 on:∀ k,met.getD k false=true->k∈T∨k=i∨∀ s∈(gOf l).su k,met.getD s false=true
 onj:∀ s∈((gOf l).su i).take j,met.getD s false=true
theorem Wo.start{l:List In}(h:0<l.length):Wo l ((List.replicate l.length false).set 0 true) [0]:=by
 have e:∀ k,((List.replicate l.length false).set 0 true).getD k false=true->k=0:=λ k hk=>by
  rw[cU,Bool.or_eq_true,decide_eq_true_eq]at hk;rcases hk with hk|hk
  ·exact hk.1
  ·rw[List.getD_eq_getElem?_getD,List.getElem?_replicate]at hk
   split at hk <;> cases hk
 have z:((List.replicate l.length false).set 0 true).getD 0 false=true:=by
  rw[cU];simp[h]
 exact⟨by simp,λ k hk=>by rw[e k hk];exact .zero,λ k hk=>by rw[List.mem_singleton.1 hk];exact z,z,λ k hk=>.inl (by rw[e k hk];exact List.mem_singleton.2 rfl)⟩
theorem Wo.pop{l:List In}{met:List Bool}{T:List Nat}{i:Nat}(h:Wo l met (T ++ [i])):Wi l met T i 0/\(gOf l).R i:=by
 have hc:=h.in2 i (List.mem_append_right _ (List.mem_singleton.2 rfl));refine⟨⟨h.len,h.in1,λ k hk=>h.in2 k (List.mem_append_left _ hk),h.zero,hc,λ k hk=>?_,λ s hs=>by simp at hs⟩,h.in1 i hc⟩;rcases h.on k hk with c|c
 ·rcases List.mem_append.1 c with c|c
  ·exact .inl c
  ·exact .inr (.inl (List.mem_singleton.1 c))
 ·exact .inr (.inr c)
theorem fE{L:List Nat}{j:Nat}(hj:j<L.length):L.take (j+1)=L.take j ++ [L.getD j 0]:=by
 rw[List.take_add_one,List.getD_eq_getElem?_getD,List.getElem?_eq_getElem hj];rfl
theorem Wi.old{l:List In}{met:List Bool}{T:List Nat}{i j:Nat}(h:Wi l met T i j)(hj:j<((gOf l).su i).length)(hs:met.getD (((gOf l).su i).getD j 0) false=true):Wi l met T i (j+1):=by
 refine⟨h.len,h.in1,h.in2,h.zero,h.cur,h.on,λ s hm=>?_⟩;rw[fE hj]at hm;rcases List.mem_append.1 hm with c|c
 ·exact h.onj s c
 ·rw[List.mem_singleton.1 c];exact hs
theorem Wi.new{l:List In}{met:List Bool}{T:List Nat}{i j:Nat}(hG:(gOf l).Ok)(h:Wi l met T i j)(hj:j<((gOf l).su i).length):Wi l (met.set (((gOf l).su i).getD j 0) true) (T ++ [((gOf l).su i).getD j 0]) i (j+1):=by
 have hR:(gOf l).R (((gOf l).su i).getD j 0):=.step (h.in1 i h.cur) (Fl.getD_mem hj);have hlt:((gOf l).su i).getD j 0<met.length:=by rw[h.len];exact(hR.ok hG).1
 have ht:=fE hj;generalize ((gOf l).su i).getD j 0=s at *;have hle:∀ k,met.getD k false=true->(met.set s true).getD k false=true:=λ k hk=>by rw[cU,hk,Bool.or_true]
 have hss:(met.set s true).getD s false=true:=by rw[cU];simp[hlt]
 refine⟨by rw[List.length_set];exact h.len,λ k hk=>?_,λ k hk=>?_,hle 0 h.zero,hle i h.cur,λ k hk=>?_,λ t hm=>?_⟩
 ·rw[cU,Bool.or_eq_true,decide_eq_true_eq]at hk
  rcases hk with ⟨rfl,_⟩|hk
  ·exact hR
  ·exact h.in1 k hk
 ·rcases List.mem_append.1 hk with c|c
  ·exact hle k (h.in2 k c)
  ·rw[List.mem_singleton.1 c];exact hss
 ·rw[cU,Bool.or_eq_true,decide_eq_true_eq]at hk
  rcases hk with ⟨rfl,_⟩|hk
  ·exact .inl (List.mem_append_right _ (List.mem_singleton.2 rfl))
  ·rcases h.on k hk with c|c|c
   ·exact .inl (List.mem_append_left _ c)
   ·exact .inr (.inl c)
   ·exact .inr (.inr λ t ht=>hle t (c t ht))
 ·rw[ht]at hm
  rcases List.mem_append.1 hm with c|c
  ·exact hle t (h.onj t c)
  ·rw[List.mem_singleton.1 c];exact hss
theorem Wi.done{l:List In}{met:List Bool}{T:List Nat}{i:Nat}(h:Wi l met T i ((gOf l).su i).length):Wo l met T:=by
 refine⟨h.len,h.in1,h.in2,h.zero,λ k hk=>?_⟩;rcases h.on k hk with c|rfl|c
 ·exact .inl c
 ·exact .inr (λ s hs=>h.onj s (by rw[List.take_length];exact hs))
 ·exact .inr c
theorem Wo.done{l:List In}{met:List Bool}(h:Wo l met []):∀ k,met.getD k false=(gOf l).rB k:=by
 intro k
 have hR:∀ j,(gOf l).R j->met.getD j false=true:=by
  intro j hj
  induction hj with
  | zero=>exact h.zero
  | step _ hs ih=>exact(h.on _ ih).resolve_left (λ c=>by cases c) _ hs
 cases hv:(gOf l).rB k with
 | true=>exact hR k (Fl.Fg.rB_iff.1 hv)
 | false =>
  cases hs:met.getD k false with
  | false=>rfl
  | true=>rw[Fl.Fg.rB_iff.2 (h.in1 k hs)]at hv;cases hv
structure Wk(w W:World)(g:Nat)(met:List Bool)(T:List Int)(q:Option Addr)(c:Nat)(ps:Option Addr)(xs:List Int):Prop where
 rs:Rs w W g met T q c
 nu:NumsAt .i64 W ps xs
 ng:∀ ad,ps=some ad->ad.block≠g
 nr:∀ ad,ps=some ad->q.map Addr.block≠some ad.block
theorem Wk.start{w W W':World}{g:Nat}{met:List Bool}{T xs:List Int}{q ps:Option Addr}{c:Nat}(h:Rs w W g met T q c)(hb:Below W.heap.size W W')(hn:NumsAt .i64 W' ps xs)(hp:∀ ad,ps=some ad->W.heap.size<=ad.block):Wk w W' g met T q c ps xs:=by
 refine⟨h.next hb,hn,λ ad e=>?_,λ ad e e2=>?_⟩
 ·have:=hp ad e;have:=h.sn.lt;omega
 ·have:=hp ad e
  have:=(h.td.lt ad.block (by rw[aH];exact e2)).2;omega
theorem Wk.see{w W:World}{g k:Nat}{met:List Bool}{T xs:List Int}{q ps:Option Addr}{c:Nat}(h:Wk w W g met T q c ps xs)(hk:k<met.length):Wk w (W.setCell ⟨g,k,none⟩ (.bool true)) g (met.set k true) T q c ps xs :=
 ⟨h.rs.see hk,NumsAt.setOther h.nu h.ng _,h.ng,h.nr⟩
theorem Wk.next{w W W':World}{g:Nat}{met:List Bool}{T xs:List Int}{q ps:Option Addr}{c:Nat}(h:Wk w W g met T q c ps xs)(hb:Below W.heap.size W W'):Wk w W' g met T q c ps xs :=
 ⟨h.rs.next hb,h.nu.below hb,h.ng,h.nr⟩
theorem Wk.app{w W W':World}{g n m c c':Nat}{met:List Bool}{T xs ys:List Int}{q q' ps:Option Addr}(h:Wk w W g met T q c ps xs)(hn:T.length=n)(ho:W'.ownsRow w.heap.size 3 1 (.slice q' m c') (T ++ ys).length (aX (T ++ ys)))(hm:(T ++ ys).length=m)(hg:W.grownBy W' (Value.slice q n c).ownBlock)(hb:(Value.slice q' m c').ownBlock=(Value.slice q n c).ownBlock∨(Value.slice q' m c').ownBlock=some W.heap.size)
  (hlt:∀ ad,ps=some ad->ad.block<W.heap.size):Wk w W' g met (T ++ ys) q' c' ps xs:=by
 refine⟨h.rs.app hn ho hm hg hb,h.nu.grown hg (λ ad e=>by rw[aH];exact h.nr ad e),h.ng,λ ad e=>?_⟩;rw[aH,aH]at hb;rcases hb with e2|e2
 ·rw[e2];exact h.nr ad e
 ·rw[e2]
  intro e3;injection e3 with e3
  have:=hlt ad e;omega
theorem Rs.startW(w:World)(n:Nat)(hn:0<n):Rs w ((w.alloc (.cells ((madeCells #[.bool false] n).setIfInBounds 0 (.bool true)) 4)).alloc (.cells #[.int .i64 0] 3)) w.heap.size ((List.replicate n false).set 0 true) [0] (some ⟨w.heap.size+1,0,none⟩) 1:=by
 have L:=Lw.start2 w n hn;refine⟨L.low.alloc L.low.size _,L.rb.next ((Below.refl _ _).alloc (Nat.le_refl _) _),Nat.le_refl _,?_,by simp⟩;have h:=World.ownsRow_lit (base:=w.heap.size) (e:=3) (size:=1) (w.alloc (.cells ((madeCells #[.bool false] n).setIfInBounds 0 (.bool true)) 4)) #[.int .i64 0] 1 (by simp) (by decide) rfl;rw[World.size_alloc]at h;exact h
def leftW(met:List Bool)(T:List Int):Nat:=2*fA met+T.length
theorem unseen_start{N:Nat}(h:0<N):fA ((List.replicate N false).set 0 true)+1=N:=by
 have e:=unseen_set (seen:=List.replicate N false) (i:=0) (by simpa using h) (by simp[List.getD,h]);have e2:fA (List.replicate N false)=N:=by simp[fA]
 omega
theorem walk_any(q:Option Addr)(qc:Nat)(l:List In)(w:World)(h:InsAt w q l)(hc:(aS l).2=0) :
  Calls Tryz.prog 89 #[.slice q l.length qc] w λ e w'=>∃ g met,e=.returned (.slice (some ⟨g,0,none⟩) l.length l.length)/\met.length=l.length/\(∀ k,met.getD k false=(gOf l).rB k)/\Rb w' g met/\Below w.heap.size w w':=by
 have HG:=aQ (bJ hc);have hN:=(cW hc).1;have hN0:0<l.length:=by have:=(cW hc).2.1;omega
 have HSU:=aQ (λ (i:Int) (W:World) (hb:Below w.heap.size w W)=>psucc_new q qc l i W (h.below hb));unfold SuccQ at HSU;have HT0:=aQ (Wo.start hN0);have HSI:=aQ (λ (i:Nat) (hi:(gOf l).R i)=>su_int hc hi);have hsl1:=λ (q:Option Addr) (len cap C:Nat) (h:C<=cap) W=>(cH q len cap C h W).1
 have hsl2:=λ (q:Option Addr) (len cap C:Nat) (h:C<=cap) W=>(cH q len cap C h W).2
 have HLN:Hid (∀ met T,Wo l met T->met.length=l.length):=aQ (λ _ _ h=>h.len);obtain⟨N,hNl⟩:∃ N,l.length=N:=⟨_,rfl⟩;have HNL:=aQ hNl;rw[hNl]at HSU hN hN0 HT0 ⊢;have HU0:=aQ (unseen_start hN0);have HS:=aQ (Rs.startW w N hN0);have L0:=Lw.start2 w N hN0;have c0:=L0.rb.cell 0 (by simpa using hN0);have hl:=L0.rb.lt;have hf:=L0.rb.fr 0;clear h hc hNl L0;have hmk:=λ W=>run_make_row' (P:=Tryz.prog) 91 4 (.bool false) 1 Tryz.underlying91 eX rfl .i64 .i64 N (by omega) (by omega) W
 have hm0:(madeCells #[Value.bool false] N)[0]?=some (.bool false):=by simp[madeCells,hN0]
 go_enter Tryz.func89,Tryz.ntmps89
 go_wp2_with fail
 clear c0 hl hf hmk hm0
 go_loopg [4] (leftW ((List.replicate N false).set 0 true) [0]) (λ k t wr=>∃ (met:List Bool) (td:List Nat) (T:List Int) (p:Option Addr) (c:Nat),t=.slice p T.length c/\Hid (T=td.map Int.ofNat)/\Hid (Wo l met td)/\Hid (leftW met T<=k/\k<=2*N+1)/\Rs w wr w.heap.size met T p c)
 case atStart=>exact⟨_,[0],[0],some ⟨w.heap.size+1,0,none⟩,1,rfl,aQ rfl,HT0,aQ ⟨Nat.le_refl _,by have:=HU0.out;unfold leftW;simp;omega⟩,HS.out⟩
 case round =>
  clear HS HT0;obtain⟨met,td,T,p,c,rfl,HTd,HTo,HK,hs⟩:=hrel;have HS:=aQ hs;by_cases hT:T.length=0
  ·obtain rfl:T=[]:=List.eq_nil_of_length_eq_zero hT
   obtain rfl:td=[]:=by have:=HTd.out;simpa using this.symm
   have HD:=aQ HTo.out.done;have hsl:met.length=N:=by rw[HLN.out _ _ HTo.out,HNL.out]
   have HSL:=aQ hsl;clear hs hT hsl;rw[show([]:List Int).length=0 from rfl];go_wp2_with fail
   go_ret;exact⟨w.heap.size,met,rfl,HSL.out,HD.out,HS.out.sn,HS.out.low⟩
  ·obtain⟨T',x,hTx⟩:∃ T' x,T=T' ++ [x]:=by
    rcases List.eq_nil_or_concat T with e|⟨T',x,e⟩
    ·rw[e]at hT;exact absurd rfl hT
    ·exact⟨T',x,by simpa using e⟩
   subst hTx;clear hT
   obtain⟨td',i,htd⟩:∃ (td':List Nat) (i:Nat),td=td' ++ [i]/\T'=td'.map Int.ofNat/\x=(i:Int):=by
    have e:=HTd.out;rcases List.eq_nil_or_concat td with c|⟨td',i,c⟩
    ·rw[c]at e;simp at e
    ·rw[c]at e
     have e':T' ++ [x]=td'.map Int.ofNat ++ [(i:Int)]:=by simpa using e
     obtain⟨e1,e2⟩:=List.append_inj' e' rfl;exact⟨td',i,by simpa using c,e1,by simpa using e2⟩
   obtain⟨rfl,hT',rfl⟩:=htd;obtain⟨g6,cap,hv,hg1,hg2⟩:=dZ hs.td (by simp);injection hv with hv1 hv2 hv3
   subst hv1 hv3;obtain⟨o1,o2,o3⟩:=own_pop hs.td;have HO:=aQ o1;have hTl:(T' ++ [(i:Int)]).length=T'.length+1:=by simp
   have hn6:¬ g6=w.heap.size:=λ e=>hs.ap (by rw[e];rfl)
   have HKl:=HK.out;unfold leftW at HKl;have hTN:T'.length<=12289:=by simp at HKl;omega
   obtain⟨hwi,hRi⟩:=Wo.pop HTo.out;have HWI:=aQ hwi;have HRi:=aQ hRi;have hiN:i<N:=by have:=(hRi.ok HG.out).1;rw[<- HNL.out];exact this
   have hsl:met.length=N:=by rw[HLN.out _ _ HTo.out,HNL.out]
   have hlt:=hs.sn.lt;rw[hTl];have HT':=aQ hT';have HTn:Hid (T'.length=T'.length):=aQ rfl;clear HKl hTl hv2 hT' hwi hRi;obtain⟨n6,hn6'⟩:∃ n,T'.length=n:=⟨_,rfl⟩;rw[hn6']at HO o2 o3 hTN ⊢;have HN6:=aQ hn6';clear hn6' HTn o1;have HP:=aQ (hs.pop HN6.out HO.out);have HSI2:=HSU.out (i:Int);rw[HSI.out i HRi.out]at HSI2;simp only[List.length_map]at HSI2
   have hS2:((gOf l).su i).length<=2:=by
    show((bG l (i:Int)).map Int.toNat).length<=2;rw[List.length_map];exact dT l _
   have HSR:Hid (∀ j,j<((gOf l).su i).length->(gOf l).R (((gOf l).su i).getD j 0)):=aQ (λ j hj=>.step HRi.out (Fl.getD_mem hj));have HOLD:=aQ (λ met T j (h:Wi l met T i j) hj hs=>h.old hj hs);have HNEW:=aQ (λ met T j (h:Wi l met T i j) hj=>h.new HG.out hj);have HDONE:=aQ (λ met T (h:Wi l met T i ((gOf l).su i).length)=>h.done);obtain⟨SU,hSU⟩:∃ s,(gOf l).su i=s:=⟨_,rfl⟩;rw[hSU]at HSI2 hS2 HSR HOLD HNEW HDONE;obtain⟨S,hS⟩:∃ n,SU.length=n:=⟨_,rfl⟩;rw[hS]at HSI2 hS2 HSR HOLD HNEW HDONE;have HSL:=aQ hS;have HSX:=aQ HSI2;have hK2:=HK.out;clear hs hSU hS HSI2;go_wp2_with (go_at_call 91;(with_reducible refine(HSX.out _ HP.out.low).mono ?_);rintro e w3 ⟨p3,c3,rfl,hn3,hb3,hp3⟩;have HW3:=aQ (Wk.start HP.out hb3 hn3 hp3);clear hb3 hn3 hp3)
   go_loopw [4,32] (λ t v wr2=>∃ (j:Nat) (met2:List Bool) (td2:List Nat) (T2:List Int) (p2:Option Addr) (c2:Nat),j<=S/\v=.int .i64 (j:Int)/\t=.slice p2 T2.length c2/\Hid (T2=td2.map Int.ofNat)/\Hid (Wi l met2 td2 i j)/\Hid (leftW met2 T2<=leftW met T')/\Wk w wr2 w.heap.size met2 T2 p2 c2 p3 (SU.map Int.ofNat)) (λ _ v _=>S - (RowKit.intOf v).toNat)
   case atStart=>exact⟨0,met,td',T',_,_,Nat.zero_le _,rfl,by rw[HN6.out],HT',HWI,aQ (Nat.le_refl _),HW3.out⟩
   case round =>
    clear HW3 HWI HP HO o2 o3 hlt hn6 hsl;obtain⟨j,met2,td2,T2,p2,c2,hj,rfl,rfl,HT2,HW2,HK2,hk2⟩:=hrel;have HWK:=aQ hk2;by_cases hjs:j<S
    ·have hjs2:j<SU.length:=by rw[HSL.out];exact hjs
     obtain⟨b4,o4,rfl,hl4,e4⟩:=hk2.nu.cells j (by rw[List.length_map];exact hjs2)
     have hse:(SU.map Int.ofNat).getD j 0=((SU.getD j 0:Nat):Int):=by
      rw[List.getD_eq_getElem?_getD,List.getElem?_map,List.getD_eq_getElem?_getD,List.getElem?_eq_getElem hjs2];rfl
     rw[hse]at e4;have hR:=HSR.out j hjs;have hsN:SU.getD j 0<N:=by have:=(hR.ok HG.out).1;rw[<- HNL.out];exact this
     have HO2:=aQ (HOLD.out met2 td2 j HW2.out hjs);have HN2:=aQ (HNEW.out met2 td2 j HW2.out hjs);have hml:met2.length=N:=by rw[HW2.out.len,HNL.out]
     generalize SU.getD j 0=s at *;have hsc:=hk2.rs.sn.cell s (by omega);have hfr:=hk2.rs.sn.fr s;have hlt:=hk2.rs.sn.lt;cases hv:met2.getD s false with
     | true =>
      rw[hv]at hsc;have HE:=aQ (HO2.out hv);clear hk2 hv hR HN2 HO2;go_wp2_with fail
      go_roundw
      case rel=>exact⟨j+1,met2,td2,T2,p2,c2,by omega,rfl,rfl,HT2,HE,HK2,HWK.out⟩
      case measure=>simp[RowKit.intOf];omega
     | false =>
      rw[hv]at hsc;have HU:=aQ (unseen_set (seen:=met2) (i:=s) (by omega) hv);have HV:=aQ (hk2.see (k:=s) (by omega));have hTl:T2.length<=2*N+1:=by have:=HK2.out;have:=HK.out;unfold leftW at *;simp at *;omega
      have HTL:=aQ hTl;have HN9:Hid (∀ (x:Int) (W:World) (n:Nat),W.heap.size=n->NumsAt .i64 (W.alloc (.cells #[.int .i64 x] 3)) (some ⟨n,0,none⟩) [x]):=aQ (λ x W n h=>by subst h;exact bH (k:=.i64) W 3 [x] #[.int .i64 x] rfl (by simp));have hne:¬ b4=w.heap.size:=λ e=>hk2.ng _ rfl e
      obtain⟨n2,hn2⟩:∃ n,T2.length=n:=⟨_,rfl⟩;have HN2L:=aQ hn2;rw[hn2];rw[hn2]at hTl;clear hk2 hv hR HO2 hn2;go_wp2_with (at_builtin;refine aZ rfl (.tmp 44) (.tmp 46) rfl rfl w.heap.size (some ⟨wr.heap.size,0,none⟩) [(s:Int)] T2 (.slice p2 n2 c2) 1 1 rfl rfl rfl (HN2L.out ▸ (HV.out.next ((Below.refl _ _).alloc (Nat.le_refl _) _)).rs.td) (HN9.out _ _ _ (by simp)) (by have:=HV.out.rs.low.size;simp at this ⊢;omega) (by have:=HTL.out;simp;omega) ?_;intro v8 w8 ho8 hg8 hb8;obtain⟨q8,c8,rfl⟩:=aW ho8;have HR8:=aQ (Wk.app (HV.out.next ((Below.refl _ _).alloc (Nat.le_refl _) _)) HN2L.out ho8 rfl hg8 hb8 (λ ad e=>by cases e;simp[World.setCell];omega));clear ho8 hg8 hb8)
      go_roundw
      case rel=>exact⟨j+1,_,_,_,q8,c8,by omega,rfl,by simp,aQ (by rw[HT2.out,List.map_append];rfl),HN2.out |> aQ,aQ (by have:=HK2.out;have:=HU.out;unfold leftW at *;simp at *;omega),HR8.out⟩
      case measure=>simp[RowKit.intOf];omega
    ·obtain rfl:j=S:=by omega
     have HE:=aQ (HDONE.out met2 td2 HW2.out);clear hk2;go_wp2_with fail
     go_roundg (leftW met2 T2)
     case measure=>have:=HK.out.1;have:=HK2.out;unfold leftW at *;simp at *;omega
     case rel=>exact⟨met2,td2,T2,p2,c2,rfl,HT2,HE,aQ ⟨Nat.le_refl _,by have:=HK.out;have:=HK2.out;unfold leftW at *;simp at *;omega⟩,HWK.out.rs⟩
structure Rr(w W:World)(g:Nat)(met:List Bool)(T:List Int)(q:Option Addr)(c:Nat):Prop where
 low:Below w.heap.size w W
 sn:Rb W g met
 td:W.ownsRow w.heap.size 3 1 (.slice q T.length c) T.length (aX T)
 ap:q.map Addr.block≠some g
theorem Rr.next{w W W':World}{g:Nat}{met:List Bool}{T:List Int}{q:Option Addr}{c:Nat}(h:Rr w W g met T q c)(hb:Below W.heap.size W W'):Rr w W' g met T q c :=
 ⟨dG h.low hb,h.sn.next hb,own_below h.td hb,h.ap⟩
theorem Rr.app{w W W':World}{g n m c c':Nat}{met:List Bool}{T xs:List Int}{q q':Option Addr}(h:Rr w W g met T q c)(hn:T.length=n)(ho:W'.ownsRow w.heap.size 3 1 (.slice q' m c') (T ++ xs).length (aX (T ++ xs)))(hm:(T ++ xs).length=m)(hg:W.grownBy W' (Value.slice q n c).ownBlock)(hb:(Value.slice q' m c').ownBlock=(Value.slice q n c).ownBlock∨(Value.slice q' m c').ownBlock=some W.heap.size):Rr w W' g met (T ++ xs) q' c':=by
 subst hn hm;rw[aH]at hg;rw[aH,aH]at hb;refine⟨h.low.grown hg h.low.size (λ k hk=>?_),h.sn.grown hg h.ap,ho,λ e=>?_⟩
 ·exact(h.td.lt k (by rw[aH];exact hk)).1
 ·rcases hb with e2|e2
  ·exact h.ap (e2.symm.trans e)
  ·rw[e]at e2
   have:=h.sn.lt;injection e2 with e2
   omega
theorem reach_any(q:Option Addr)(qc:Nat)(l:List In)(w:World)(h:InsAt w q l)(hc:(aS l).2=0) :
  Calls Tryz.prog 47 #[.slice q l.length qc] w λ e w'=>∃ p c,e=.returned (.slice p (cK l).length c)/\NumsAt .i64 w' p (cK l)/\Below w.heap.size w w':=by
 have HW:=aQ (walk_any q qc l w h hc);have hN:=(cW hc).1;have HCK:=aQ hc;obtain⟨N,hNl⟩:∃ N,l.length=N:=⟨_,rfl⟩;have HNL:=aQ hNl;rw[hNl]at HW hN ⊢;clear h hc hNl;go_enter Tryz.func47,Tryz.ntmps47
 go_wp2_with (go_at_call 89;(with_reducible refine HW.out.mono ?_);rintro e w1 ⟨g,met,rfl,hml,hmr,hrb,hb⟩;have HS:Hid (Rr w w1 g met [] none 0):=aQ ⟨hb,hrb,World.ownsRow_nil _ _ _ _,by simp⟩;have HSL:=aQ hml;have HD:=aQ hmr;clear hb hrb hml hmr)
 go_loopw [4,10] (λ o i wr=>∃ (k:Nat) (p:Option Addr) (c:Nat),k<=N/\i=.int .i64 (k:Int)/\o=.slice p (rK l k).length c/\Rr w wr g met (rK l k) p c) (λ _ i _=>N - (RowKit.intOf i).toNat)
 case atStart=>exact⟨0,none,0,Nat.zero_le _,rfl,rfl,HS.out⟩
 case round =>
  clear HS;obtain⟨k,p9,c9,hk1,rfl,rfl,hs⟩:=hrel;have HS:=aQ hs;by_cases hk:k<N
  ·have hsc:=hs.sn.cell k (by rw[HSL.out];exact hk)
   have hlt:=hs.sn.lt;rw[HD.out k]at hsc;cases hv:(gOf l).rB k with
   | true =>
    rw[hv]at hsc;have HE:Hid (rK l (k+1)=rK l k ++ [(k:Int)]):=aQ (rK_yes hv);have HLE:=aQ (rK_len l k);have HN9:=aQ (λ W=>bH (k:=.i64) W 3 [(k:Int)] #[.int .i64 (k:Int)] rfl (by simp));clear hs hv;go_wp2_with (at_builtin;refine aZ rfl (.tmp 17) (.tmp 19) rfl rfl w.heap.size (some ⟨wr.heap.size,0,none⟩) [(k:Int)] (rK l k) (.slice p9 (rK l k).length c9) 1 1 rfl rfl rfl (own_below HS.out.td ((Below.refl _ _).alloc (Nat.le_refl _) _)) (HN9.out _) (by have:=HS.out.low.size;simp;omega) (by have:=HLE.out;simp;omega) ?_;intro v8 w8 ho8 hg8 hb8;obtain⟨q8,c8,rfl⟩:=aW ho8;have HR8:=aQ (Rr.app (HS.out.next ((Below.refl _ _).alloc (Nat.le_refl _) _)) rfl ho8 rfl hg8 hb8);clear ho8 hg8 hb8)
    go_roundw
    case rel=>exact⟨k+1,q8,c8,by omega,rfl,by rw[HE.out];simp,by rw[HE.out];exact HR8.out⟩
    case measure=>simp[RowKit.intOf];omega
   | false =>
    rw[hv]at hsc;have HE:Hid (rK l (k+1)=rK l k):=aQ (rK_no hv);clear hs hv;go_wp2_with fail
    go_roundw
    case rel=>exact⟨k+1,p9,c9,by omega,rfl,by rw[HE.out],by rw[HE.out];exact HS.out⟩
    case measure=>simp[RowKit.intOf];omega
  ·obtain rfl:N=k:=by omega
   have HE:Hid (cK l=rK l N):=aQ (by rw[dS HCK.out,<- HNL.out];rfl);have HLE:=aQ (rK_len l N);clear hs;go_wp2_with fail
   go_ret;refine⟨p9,c9,by rw[HE.out];rfl,?_,HS.out.low⟩;rw[HE.out];exact cA HS.out.td (by have:=HLE.out;omega)
end Go.Proofs.YtkfahppdklecdaaGreatDoor
namespace Go.Proofs.YtkfahppdklecdaaGreatDoor
open Go.RowKit M
namespace Fl
variable {G:Fg}
theorem Fg.lead_jump(hG:G.Ok){j:Nat}:G.lead j=true↔j=0∨∃ i∈G.reach,G.ju i=true/\j∈G.su i:=by
 rw[Fg.lead_iff];constructor
 ·rintro(h|⟨i,hi,hs,h⟩)
  ·exact .inl h
  ·refine .inr ⟨i,hi,?_,hs⟩
   rcases h with h|h
   ·exact h
   ·cases hj:G.ju i with
    | true=>rfl
    | false =>
     obtain⟨k1,k2⟩:=((Fg.mem_reach hG).1 hi).ok hG;rcases hG.one i k1 k2 hj with e|e
     ·rw[e]at hs;cases hs
     ·rw[e]at hs;exact absurd (List.mem_singleton.1 hs) h
 ·rintro(h|⟨i,hi,h,hs⟩)
  ·exact .inl h
  ·exact .inr ⟨i,hi,hs,.inl h⟩
end Fl
open Fl (Fg)
def Lm(G:Fg)(k m:Nat)(f:Int->Option Int):Prop :=
 ∀ x:Int,(f x).isSome=true↔x=0∨(∃ i∈G.reach.take k,G.ju i=true/\∃ s∈G.su i,x=((s:Nat):Int))∨∃ s∈(G.su (G.reach.getD k 0)).take m,x=((s:Nat):Int)
theorem mput_some{f:Int->Option Int}{k y x:Int}:(mput f k y x).isSome=true↔x=k∨(f x).isSome=true:=by
 unfold mput;by_cases e:x=k
 ·rw[if_pos e];exact⟨λ _=>.inl e,λ _=>rfl⟩
 ·rw[if_neg e];exact⟨.inr,λ h=>h.resolve_left e⟩
theorem Lm.start(G:Fg):Lm G 0 0 (mput (λ _=>none) 0 0):=by
 intro x;rw[mput_some];simp
theorem Lm.step{G:Fg}{k m:Nat}{f:Int->Option Int}(h:Lm G k m f)(hm:m<(G.su (G.reach.getD k 0)).length):Lm G k (m+1) (mput f (((G.su (G.reach.getD k 0)).getD m 0:Nat):Int) 0):=by
 intro x;rw[mput_some,h x,fE hm];generalize G.reach.getD k 0=i at *;constructor
 ·rintro(h|h|h|⟨s,hs,e⟩)
  ·exact .inr (.inr ⟨_,List.mem_append_right _ (List.mem_singleton.2 rfl),h⟩)
  ·exact .inl h
  ·exact .inr (.inl h)
  ·exact .inr (.inr ⟨s,List.mem_append_left _ hs,e⟩)
 ·rintro(h|h|⟨s,hs,e⟩)
  ·exact .inr (.inl h)
  ·exact .inr (.inr (.inl h))
  ·rcases List.mem_append.1 hs with c|c
   ·exact .inr (.inr (.inr ⟨s,c,e⟩))
   ·rw[List.mem_singleton.1 c]at e;exact .inl e
theorem Lm.next{G:Fg}{k:Nat}{f:Int->Option Int}(h:Lm G k (G.su (G.reach.getD k 0)).length f)(hk:k<G.reach.length)(hj:G.ju (G.reach.getD k 0)=true):Lm G (k+1) 0 f:=by
 intro x;rw[h x,fE hk,List.take_length];generalize G.reach.getD k 0=i at *;constructor
 ·rintro(h|⟨a,h1,h2⟩|⟨s,hs,e⟩)
  ·exact .inl h
  ·exact .inr (.inl ⟨a,List.mem_append_left _ h1,h2⟩)
  ·exact .inr (.inl ⟨i,List.mem_append_right _ (List.mem_singleton.2 rfl),hj,s,hs,e⟩)
 ·rintro(h|⟨a,h1,h2,s,hs,e⟩|⟨s,hs,_⟩)
  ·exact .inl h
  ·rcases List.mem_append.1 h1 with c|c
   ·exact .inr (.inl ⟨a,c,h2,s,hs,e⟩)
   ·rw[List.mem_singleton.1 c]at hs;exact .inr (.inr ⟨s,hs,e⟩)
  ·simp at hs
theorem Lm.skip{G:Fg}{k:Nat}{f:Int->Option Int}(h:Lm G k 0 f)(hk:k<G.reach.length)(hj:G.ju (G.reach.getD k 0)=false):Lm G (k+1) 0 f:=by
 intro x;rw[h x,fE hk];generalize G.reach.getD k 0=i at *;constructor
 ·rintro(h|⟨a,h1,h2⟩|⟨s,hs,_⟩)
  ·exact .inl h
  ·exact .inr (.inl ⟨a,List.mem_append_left _ h1,h2⟩)
  ·simp at hs
 ·rintro(h|⟨a,h1,h2,h3⟩|⟨s,hs,_⟩)
  ·exact .inl h
  ·rcases List.mem_append.1 h1 with c|c
   ·exact .inr (.inl ⟨a,c,h2,h3⟩)
   ·rw[List.mem_singleton.1 c,hj]at h2;cases h2
  ·simp at hs
theorem Lm.done{G:Fg}(hG:G.Ok){f:Int->Option Int}(h:Lm G G.reach.length 0 f)(x:Int):x∈G.ls.map Int.ofNat↔(f x).isSome=true:=by
 rw[h x,List.mem_map,List.take_length];constructor
 ·rintro⟨a,ha,rfl⟩
  rcases(Fg.lead_jump hG).1 ((Fg.mem_ls hG).1 ha).2 with e|⟨i,hi,hj,hs⟩
  ·exact .inl (by rw[e];rfl)
  ·exact .inr (.inl ⟨i,hi,hj,a,hs,rfl⟩)
 ·rintro(rfl|⟨i,hi,hj,s,hs,rfl⟩|⟨s,hs,_⟩)
  ·exact⟨0,(Fg.mem_ls hG).2 ⟨.zero,Fg.lead0⟩,rfl⟩
  ·exact⟨s,(Fg.mem_ls hG).2 ⟨.step ((Fg.mem_reach hG).1 hi) hs,(Fg.lead_jump hG).2 (.inr ⟨i,hi,hj,hs⟩)⟩,rfl⟩
  ·simp at hs
structure Lp(G:Fg)(t:Nat)(f:Int->Option Int):Prop where
 key:∀ x:Int,x∈G.ls.map Int.ofNat↔(f x).isSome=true
 at_:∀ a,a<t->f (G.fr a:Int)=some (a:Int)
theorem Lp.step{G:Fg}{t:Nat}{f:Int->Option Int}(h:Lp G t f)(ht:t<G.n):Lp G (t+1) (mput f (G.fr t:Int) (t:Int)):=by
 refine⟨λ x=>?_,λ a ha=>?_⟩
 ·rw[mput_some,<- h.key x]
  constructor
  ·exact .inr
  ·rintro(rfl|h)
   ·exact List.mem_map.2 ⟨G.fr t,Fl.getD_mem ht,rfl⟩
   ·exact h
 ·unfold mput
  by_cases e:a=t
  ·subst e;rw[if_pos rfl]
  ·rw[if_neg (λ c=>e (Fg.fr_inj G (by omega) ht (by omega)))]
   exact h.at_ a (by omega)
theorem Lp.lead{G:Fg}(hG:G.Ok){f:Int->Option Int}(h:Lp G G.n f){s:Nat}(hs:G.R s)(hl:G.lead s=true):f (s:Int)=some (G.fd s:Int):=by
 obtain⟨h1,h2,_⟩:=Fg.fd_lead hG hs hl;have:=h.at_ _ h1;rw[h2]at this;exact this
theorem Lp.none{G:Fg}(hG:G.Ok){f:Int->Option Int}(h:Lp G G.n f){s:Nat}(hl:G.lead s=false):f (s:Int)=none:=by
 cases hf:f (s:Int)with
 | none=>rfl
 | some y =>
  obtain⟨a,ha,e⟩:=List.mem_map.1 ((h.key (s:Int)).2 (by rw[hf];rfl));have e':a=s:=by have:((a:Nat):Int)=(s:Int):=e;omega
  rw[e']at ha;rw[((Fg.mem_ls hG).1 ha).2]at hl;cases hl
theorem ls_lt(G:Fg):(G.ls.map Int.ofNat).Pairwise (· < ·):=List.pairwise_map.2 (G.ls_sorted.imp (λ h=>Int.ofNat_lt.2 h))
structure Lq(w W:World)(b n:Nat)(f:Int->Option Int):Prop where
 low:Below w.heap.size w W
 bb:w.heap.size<=b
 mp:Mp W b n f
theorem Lq.next{w W W':World}{b n:Nat}{f:Int->Option Int}(h:Lq w W b n f)(hb:Below W.heap.size W W'):Lq w W' b n f :=
 ⟨h.low.trans (hb.mono h.low.size),h.bb,h.mp.next hb⟩
theorem Lq.put{w W W':World}{b n m:Nat}{f g:Int->Option Int}(h:Lq w W b n f)(hm:Mp W' b m g)(hg:W.grownBy W' (some b)):Lq w W' b m g :=
 ⟨h.low.grown hg h.low.size (λ k hk=>by cases hk;exact h.bb),h.bb,hm⟩
structure Lr(w W:World)(b n:Nat)(f:Int->Option Int)(ps:Option Addr)(xs:List Int):Prop where
 q:Lq w W b n f
 nu:NumsAt .i64 W ps xs
 ng:∀ ad,ps=some ad->ad.block≠b
theorem Lr.put{w W W':World}{b n m:Nat}{f g:Int->Option Int}{ps:Option Addr}{xs:List Int}(h:Lr w W b n f ps xs)(hm:Mp W' b m g)(hg:W.grownBy W' (some b)):Lr w W' b m g ps xs :=
 ⟨h.q.put hm hg,h.nu.grown hg (λ ad e e2=>by injection e2 with e2;exact h.ng ad e e2.symm),h.ng⟩
theorem Lr.start{w W W':World}{b n:Nat}{f:Int->Option Int}{ps:Option Addr}{xs:List Int}(h:Lq w W b n f)(hb:Below W.heap.size W W')(hn:NumsAt .i64 W' ps xs)(hp:∀ ad,ps=some ad->W.heap.size<=ad.block):Lr w W' b n f ps xs :=
 ⟨h.next hb,hn,λ ad e e2=>by have:=hp ad e;have:=h.mp.lt;omega⟩
theorem leaders_any(q:Option Addr)(qc:Nat)(l:List In)(p:Option Addr)(pc:Nat)(w:World)(h:InsAt w q l)(hc:(aS l).2=0)(hr:NumsAt .i64 w p (cK l)) :
  Calls Tryz.prog 48 #[.slice q l.length qc,.slice p (cK l).length pc] w λ e w'=>∃ b n f,e=.returned (.map (some b))/\Lp (gOf l) (gOf l).n f/\Lq w w' b n f:=by
 have HG:=aQ (bJ hc);have hN:=(cW hc).1;have HI:=aQ (λ W (hW:Below w.heap.size w W)=>h.below hW);have HR:=aQ (λ W (hW:Below w.heap.size w W)=>hr.below hW);have HSU:=aQ (λ (i:Int) (W:World) (hb:Below w.heap.size w W)=>psucc_new q qc l i W (h.below hb));unfold SuccQ at HSU;have HSI:=aQ (λ (i:Nat) (hi:(gOf l).R i)=>su_int hc hi);have hrn:(cK l).length=(gOf l).reach.length:=by rw[dS hc];simp
 have HRA:Hid (∀ k,k<(gOf l).reach.length->(cK l).getD k 0=(((gOf l).reach.getD k 0:Nat):Int)):=aQ (λ k hk=>by
  rw[dS hc,List.getD_eq_getElem?_getD,List.getElem?_map,List.getD_eq_getElem?_getD,List.getElem?_eq_getElem hk];rfl)
 have HRR:Hid (∀ k,k<(gOf l).reach.length->(gOf l).R ((gOf l).reach.getD k 0)):=aQ (λ k hk=>(Fl.Fg.mem_reach HG.out).1 (Fl.getD_mem hk));have HNX:=aQ (λ k f (h:Lm (gOf l) k (((gOf l).su ((gOf l).reach.getD k 0)).length) f) hk hj=>h.next hk hj);have HSK:=aQ (λ k f (h:Lm (gOf l) k 0 f) hk hj=>h.skip hk hj);have HST:=aQ (λ k m f (h:Lm (gOf l) k m f) hm=>h.step hm);have HDN:=aQ (λ f (h:Lm (gOf l) (gOf l).reach.length 0 f)=>h.done HG.out);have hs:=hr.small;obtain⟨N,hNl⟩:∃ N,l.length=N:=⟨_,rfl⟩;have HNL:=aQ hNl;obtain⟨M,hM⟩:∃ M,(gOf l).reach.length=M:=⟨_,rfl⟩
 have hMN:M<=4096:=by
  have h2:(gOf l).reach.length<=(List.range (gOf l).N).length:=List.length_filter_le _ _;have h3:(gOf l).N<=4096:=hN;rw[List.length_range]at h2;omega
 have hls:(gOf l).ls.length<=4096:=by
  have h2:(gOf l).ls.length<=(gOf l).reach.length:=List.length_filter_le _ _;omega
 rw[hM]at hrn HRA HRR HNX HSK HDN;have HRN:=aQ hrn;rw[hrn]at hs ⊢;rw[hNl]at hN HSU ⊢;have hmm:=@run_makeMap Tryz.prog;obtain⟨w1,r1,o1,t1⟩:=(Mp.made w).update (k:=0) (x:=0) (by omega) (dK (by omega) (by omega)) (dK (by omega) (by omega));have HQ:Hid (Lq w w1 w.heap.size 1 (mput (λ _=>none) 0 0)):=aQ ⟨((Below.refl _ _).alloc (Nat.le_refl _) _).grown t1 (by simp) (λ k hk=>by cases hk;exact Nat.le_refl _),Nat.le_refl _,o1⟩;have HL0:=aQ (Lm.start (gOf l));clear h hc hNl hM hrn hr o1 t1;go_enter Tryz.func48,Tryz.ntmps48
 go_wp2_with fail
 clear r1 hmm
 go_loopw [16] (λ v wr=>∃ (k n:Nat) (f:Int->Option Int),k<=M/\v=.int .i64 (k:Int)/\Hid (n<=1+2*k)/\Hid (Lm (gOf l) k 0 f)/\Lq w wr w.heap.size n f) (λ v _=>M - (RowKit.intOf v).toNat)
 case atStart=>exact⟨0,1,_,Nat.zero_le _,rfl,aQ (by omega),HL0,HQ.out⟩
 case round =>
  clear HQ HL0;obtain⟨k,n,f,hk,rfl,HNN,HLM,hq⟩:=hrel;have HQ:=aQ hq;by_cases hlt:k<M
  ·obtain⟨b1,o1,rfl,hl1,c0⟩:=(HR.out _ hq.low).cells k (by rw[HRN.out];exact hlt)
   rw[HRA.out k hlt]at c0;have hRi:=HRR.out k hlt;have hiN:=(hRi.ok HG.out).1;obtain⟨b2,o2,rfl,hl2,d0,d1,d2,d3,d4,d5⟩:=(HI.out _ hq.low).cells ((gOf l).reach.getD k 0) hiN;have HJ:=aQ (λ W=>pjumps_any (l.getD ((gOf l).reach.getD k 0) z) ((HI.out _ hq.low).bd _ hiN) W);have hju:jB (l.getD ((gOf l).reach.getD k 0) z)=(gOf l).ju ((gOf l).reach.getD k 0):=rfl;rw[hju]at HJ;have HNX2:=aQ (HNX.out k);have HSK2:=aQ (HSK.out k f HLM.out hlt);have HST2:=aQ (HST.out k);have HSR:Hid (∀ j,j<((gOf l).su ((gOf l).reach.getD k 0)).length->(gOf l).R (((gOf l).su ((gOf l).reach.getD k 0)).getD j 0)):=aQ (λ j hj=>.step hRi (Fl.getD_mem hj));have HSI2:=HSU.out (((gOf l).reach.getD k 0:Nat):Int);rw[HSI.out _ hRi]at HSI2;simp only[List.length_map]at HSI2
   have hS2:((gOf l).su ((gOf l).reach.getD k 0)).length<=2:=by
    show((bG l ((((gOf l).reach.getD k 0:Nat)):Int)).map Int.toNat).length<=2;rw[List.length_map];exact dT l _
   have hiN2:(gOf l).reach.getD k 0<N:=by rw[<- HNL.out];exact hiN
   generalize (gOf l).reach.getD k 0=i at *;generalize l.getD i z=X at *;obtain⟨SU,hSU⟩:∃ s,(gOf l).su i=s:=⟨_,rfl⟩;rw[hSU]at HSI2 hS2 HSR HNX2 HST2;obtain⟨S,hS⟩:∃ n,SU.length=n:=⟨_,rfl⟩;rw[hS]at HSI2 hS2 HSR HNX2 HST2;have HSL:=aQ hS;have HSX:=aQ HSI2;clear hq hSU hS HSI2 hRi hiN hju;cases hv:(gOf l).ju i with
   | false =>
    rw[hv]at HJ;have HE:=aQ (HSK2.out hv);clear hv HNX2 HST2 HSK2;go_wp2_with (go_at_call 90;(with_reducible refine(HJ.out _).mono ?_);rintro e w2 ⟨rfl,hb⟩;have HQ2:=aQ (HQ.out.next hb);clear hb)
    go_roundw
    case rel=>exact⟨k+1,n,f,by omega,rfl,aQ (by have:=HNN.out;omega),HE,HQ2.out⟩
    case measure=>simp[RowKit.intOf];omega
   | true =>
    rw[hv]at HJ;have HNX3:=aQ (λ f h=>HNX2.out f h hlt hv);clear hv HNX2 HSK2
    go_wp2_with (first
     | (go_at_call 90;(with_reducible refine(HJ.out _).mono ?_);rintro e w2 ⟨rfl,hb⟩;have HQ2:=aQ (HQ.out.next hb);clear hb)
     | (go_at_call 91;(with_reducible refine(HSX.out _ HQ2.out.low).mono ?_);rintro e w3 ⟨p3,c3,rfl,hn3,hb3,hp3⟩;have HR3:=aQ (Lr.start HQ2.out hb3 hn3 hp3);clear hb3 hn3 hp3))
    go_loopw [30] (λ v wr2=>∃ (m n2:Nat) (f2:Int->Option Int),m<=S/\v=.int .i64 (m:Int)/\Hid (n2<=1+2*k+m)/\Hid (Lm (gOf l) k m f2)/\Lr w wr2 w.heap.size n2 f2 p3 (SU.map Int.ofNat)) (λ v _=>S - (RowKit.intOf v).toNat)
    case atStart=>exact⟨0,n,f,Nat.zero_le _,rfl,aQ (by have:=HNN.out;omega),HLM,HR3.out⟩
    case round =>
     clear HR3 HQ2 HQ d0 d1 d2 d3 d4 d5 c0;obtain⟨m,n2,f2,hm,rfl,HN2,HLM2,hr2⟩:=hrel;have HLR:=aQ hr2;by_cases hms:m<S
     ·have hms2:m<SU.length:=by rw[HSL.out];exact hms
      obtain⟨b4,o4,rfl,hl4,e4⟩:=hr2.nu.cells m (by rw[List.length_map];exact hms2)
      have hse:(SU.map Int.ofNat).getD m 0=((SU.getD m 0:Nat):Int):=by
       rw[List.getD_eq_getElem?_getD,List.getElem?_map,List.getD_eq_getElem?_getD,List.getElem?_eq_getElem hms2];rfl
      rw[hse]at e4;have hsN:SU.getD m 0<N:=by have:=((HSR.out m hms).ok HG.out).1;rw[<- HNL.out];exact this
      have HE:=aQ (HST2.out m f2 HLM2.out hms);generalize SU.getD m 0=s at *;clear hr2;go_wp2_with (at_mapUpdate;refine eT rfl (.tmp 34) (.tmp 35) (.const (.int .i64 0)) rfl w.heap.size n2 f2 (s:Int) 0 rfl rfl rfl HLR.out.q.mp (by have:=HN2.out;omega) (dK (by omega) (by omega)) (dK (by omega) (by omega)) ?_;intro w5 hm5 hg5;have HL5:=aQ (HLR.out.put hm5 hg5);clear hm5 hg5)
      go_roundw
      case rel=>exact⟨m+1,n2+1,_,by omega,rfl,aQ (by have:=HN2.out;omega),HE,HL5.out⟩
      case measure=>simp[RowKit.intOf];omega
     ·obtain rfl:m=S:=by omega
      have HE:=aQ (HNX3.out f2 HLM2.out);clear hr2;go_wp2_with fail
      go_roundw
      case rel=>exact⟨k+1,n2,f2,by omega,rfl,aQ (by have:=HN2.out;omega),HE,HLR.out.q⟩
      case measure=>simp[RowKit.intOf];omega
  ·obtain rfl:M=k:=by omega
   have hkey:=HDN.out f HLM.out;have HK:=aQ hkey;have hll:((gOf l).ls.map Int.ofNat).length=(gOf l).n:=by rw[List.length_map];rfl
   have HSO:=aQ (sorted_keys hq.mp (ls_lt (gOf l)) hkey (by rw[List.length_map];omega));rw[hll]at HSO
   have HGA:Hid (∀ t,t<(gOf l).n->((gOf l).ls.map Int.ofNat).getD t 0=((gOf l).fr t:Int)):=aQ (λ t ht=>by
    rw[List.getD_eq_getElem?_getD,List.getElem?_map];unfold Fg.fr;rw[List.getD_eq_getElem?_getD,List.getElem?_eq_getElem ht];rfl)
   have HFR:Hid (∀ t,t<(gOf l).n->(gOf l).fr t<N):=aQ (λ t ht=>by have:=((Fg.fr_ok HG.out ht).1.ok HG.out).1;rw[<- HNL.out];exact this);have HP0:Hid (Lp (gOf l) 0 f):=aQ ⟨hkey,λ a ha=>absurd ha (Nat.not_lt_zero _)⟩;have HPS:=aQ (λ t f (h:Lp (gOf l) t f) ht=>h.step ht);obtain⟨T,hT⟩:∃ n,(gOf l).n=n:=⟨_,rfl⟩;have hTN:T<=4096:=by rw[<- hT];exact hls
   rw[hT]at HSO HGA HFR HPS;have HTT:=aQ hT;have HLL:=aQ (hll.trans hT);generalize (gOf l).ls.map Int.ofNat=ks at *;clear hq hkey hll hT
   go_wp2_with (first
    | (go_at_call 93;(with_reducible refine(maps_keys _ _).mono ?_);rintro e w2 ⟨rfl,rfl⟩)
    | (go_at_call 92;(with_reducible refine HSO.out.mono ?_);rintro e w3 ⟨p3,c3,rfl,hn3,hb3,hp3⟩;have HR3:=aQ (Lr.start HQ.out hb3 hn3 (λ ad e=>Nat.le_of_lt (hp3 ad e)));clear hb3 hn3 hp3))
   go_loopw [42] (λ v wr2=>∃ (t n2:Nat) (f2:Int->Option Int),t<=T/\v=.int .i64 (t:Int)/\Hid (n2<=1+2*M+t)/\Hid (Lp (gOf l) t f2)/\Lr w wr2 w.heap.size n2 f2 p3 ks) (λ v _=>T - (RowKit.intOf v).toNat)
   case atStart=>exact⟨0,n,f,Nat.zero_le _,rfl,HNN,HP0,HR3.out⟩
   case round =>
    clear HR3 HQ HP0;obtain⟨t,n2,f2,ht,rfl,HN2,HP2,hr2⟩:=hrel;have HLR:=aQ hr2;by_cases htt:t<T
    ·obtain⟨b4,o4,rfl,hl4,e4⟩:=hr2.nu.cells t (by rw[HLL.out];exact htt)
     rw[HGA.out t htt]at e4;have hsN:=HFR.out t htt;have HE:=aQ (HPS.out t f2 HP2.out htt);generalize (gOf l).fr t=s at *;clear hr2;go_wp2_with (at_mapUpdate;refine eT rfl (.tmp 47) (.tmp 48) (.tmp 49) rfl w.heap.size n2 f2 (s:Int) (t:Int) rfl rfl rfl HLR.out.q.mp (by have:=HN2.out;omega) (dK (by omega) (by omega)) (dK (by omega) (by omega)) ?_;intro w5 hm5 hg5;have HL5:=aQ (HLR.out.put hm5 hg5);clear hm5 hg5)
     go_roundw
     case rel=>exact⟨t+1,n2+1,_,by omega,rfl,aQ (by have:=HN2.out;omega),HE,HL5.out⟩
     case measure=>simp[RowKit.intOf];omega
    ·obtain rfl:T=t:=by omega
     clear hr2;go_wp2_with fail
     go_ret;exact⟨_,n2,f2,rfl,by rw[HTT.out];exact HP2.out,HLR.out.q⟩
end Go.Proofs.YtkfahppdklecdaaGreatDoor
