import Derived.Test.YtkfahppdklecdaaGreatDoorZ01
import Derived.Laws.StructEq
import Derived.Deep.OwnRows
import Derived.Laws.CopyOwn
set_option maxRecDepth 100000
set_option maxHeartbeats 16000000
namespace Go.Proofs.YtkfahppdklecdaaGreatDoor
open Go.RowKit M
structure InsAt(w:World)(q:Option Addr)(l:List In):Prop where
 small:l.length<=140737488351232
 cells:∀ i,i<l.length->∃ b off,q=some ⟨b,off,none⟩/\b<w.heap.size /\
  w.cell? ⟨b,off+i*6,none⟩=some (.int .i64 (l.getD i z).op)/\w.cell? ⟨b,off+i*6+1,none⟩=some (.int .i64 (l.getD i z).dst) /\
  w.cell? ⟨b,off+i*6+2,none⟩=some (.int .i64 (l.getD i z).src)/\w.cell? ⟨b,off+i*6+3,none⟩=some (.int .i64 (l.getD i z).off) /\
  w.cell? ⟨b,off+i*6+4,none⟩=some (.int .i64 (l.getD i z).imm)/\w.cell? ⟨b,off+i*6+5,none⟩=some (.int .u64 (l.getD i z).wide)
 bd:∀ i,i<l.length->Bd (l.getD i z)
theorem InsAt.below{w w':World}{q:Option Addr}{l:List In}(h:InsAt w q l)(hb:Below w.heap.size w w'):InsAt w' q l :=
 ⟨h.small,λ i hi=>by
  obtain⟨b,off,hp,hbl,h0,h1,h2,h3,h4,h5⟩:=h.cells i hi;exact⟨b,off,hp,Nat.lt_of_lt_of_le hbl hb.size,(hb.cell (p:=⟨b,off+i*6,none⟩) hbl).trans h0,(hb.cell (p:=⟨b,off+i*6+1,none⟩) hbl).trans h1,(hb.cell (p:=⟨b,off+i*6+2,none⟩) hbl).trans h2,(hb.cell (p:=⟨b,off+i*6+3,none⟩) hbl).trans h3,(hb.cell (p:=⟨b,off+i*6+4,none⟩) hbl).trans h4,(hb.cell (p:=⟨b,off+i*6+5,none⟩) hbl).trans h5⟩,h.bd⟩
def opL(l:List In)(i:Nat):Int:=(l.getD i z).op
def bU(l:List In)(i:Int):Bool:=decide (0<=i/\i<l.length) && hR (opL l) i.toNat
def iV(x:In):Value:=.agg #[.int .i64 x.op,.int .i64 x.dst,.int .i64 x.src,.int .i64 x.off,.int .i64 x.imm,.int .u64 x.wide]
theorem eq36(x y:In)(w:World):(binOp .eql 65 (iV x) (iV y)).run Tryz.prog w=.ok (.bool (eqB x y)) w:=by
 unfold iV eqB;simp[go_sem]
 repeat' split
 all_goals simp_all
theorem hole_any(q:Option Addr)(qc:Nat)(l:List In)(i:Int)(w:World)(h:InsAt w q l) :
  Calls Tryz.prog 87 #[.slice q l.length qc,.int .i64 i] w λ e w'=>e=.returned (.bool (bU l i))/\w=w':=by
 have hs:=h.small;have H:=aQ h;by_cases hi:0<=i
 ·by_cases hl:i<l.length
  ·obtain⟨j,rfl⟩:=Int.eq_ofNat_of_zero_le hi
   have HE:=aQ (show bU l (j:Int)=hR (opL l) j by unfold bU;rw[decide_eq_true ⟨hi,hl⟩];simp);have hjl:j<l.length:=by omega
   obtain⟨N,hN⟩:∃ N,l.length=N:=⟨_,rfl⟩;rw[hN]at hs hjl hl ⊢;have HN:=aQ hN;clear hN h;go_enter Tryz.func87,Tryz.ntmps87
   go_wp2
   go_loop [5,1] (λ r i=>∃ (k:Nat) (b:Bool),k<=j/\i=.int .i64 k/\r=.bool b/\Hid (hR (opL l) j=(b != hR (opL l) k))) (λ _ i=>(intOf i).toNat)
   case atStart=>exact⟨j,false,Nat.le_refl _,rfl,rfl,aQ (by simp)⟩
   case round =>
    obtain⟨k,b,hk,rfl,rfl,hx⟩:=hrel
    match k,hk,hx with
    | 0,_,hx =>
     have HB:=aQ (show hR (opL l) j=b by have:=hx.out;simpa[hR]using this);go_wp2
     go_ret;rw[HE.out,HB.out];exact⟨rfl,rfl⟩
    | k+1,hk,hx =>
     obtain⟨bk,off,rfl,hbl,c0,_⟩:=H.out.cells k (by rw[HN.out];omega);have HO:=aQ (show opL l k=(l.getD k z).op from rfl);obtain⟨o,ho⟩:∃ o,(l.getD k z).op=o:=⟨_,rfl⟩;rw[ho]at c0 HO;clear ho;by_cases h24:o=24
     ·subst h24
      go_wp2
      go_round
      case rel=>exact⟨k,!b,by omega,rfl,rfl,aQ (by rw[hx.out,gA,HO.out];cases b <;> cases hR (opL l) k <;> rfl)⟩
      case measure=>simp[intOf]
     ·have HB:=aQ (show hR (opL l) j=b by have:=hx.out;rw[gA,HO.out]at this;simpa[h24]using this)
      go_wp2
      go_ret;rw[HE.out,HB.out];exact⟨rfl,rfl⟩
  ·have HE:=aQ (show bU l i=false by unfold bU;rw[decide_eq_false (by omega)];rfl)
   go_enter Tryz.func87,Tryz.ntmps87
   go_wp2
   go_ret;rw[HE.out];exact⟨rfl,rfl⟩
 ·have HE:=aQ (show bU l i=false by unfold bU;rw[decide_eq_false (by omega)];rfl)
  go_enter Tryz.func87,Tryz.ntmps87
  go_wp2
  go_ret;rw[HE.out];exact⟨rfl,rfl⟩
def par(n:Nat):Bool:=((n:Int) % 2 == 1)
theorem par_succ(n:Nat):par (n+1) = !par n:=by
 unfold par;rw[Bool.eq_iff_iff];simp;omega
theorem rhole_any(q:Option Addr)(qc:Nat)(l:List In)(i:Int)(w:World)(h:InsAt w q l) :
  Calls Tryz.prog 20 #[.slice q l.length qc,.int .i64 i] w λ e w'=>e=.returned (.bool (bU l i))/\w=w':=by
 have hs:=h.small;have H:=aQ h;by_cases hi:1<=i
 ·by_cases hl:i<l.length
  ·obtain⟨j,rfl⟩:∃ j:Nat,i=(j:Int)+1:=⟨(i - 1).toNat,by omega⟩
   have HE:=aQ (show bU l ((j:Int)+1)=hR (opL l) (j+1) by unfold bU;rw[decide_eq_true ⟨by omega,hl⟩];simp);have hjl:j+1<l.length:=by omega
   obtain⟨N,hN⟩:∃ N,l.length=N:=⟨_,rfl⟩;rw[hN]at hs hjl hl ⊢;have HN:=aQ hN;clear hN h;obtain⟨bk,off,rfl,hbl,c0,_⟩:=H.out.cells j (by rw[HN.out];omega);have HO:=aQ (show opL l j=(l.getD j z).op from rfl);obtain⟨o,ho⟩:∃ o,(l.getD j z).op=o:=⟨_,rfl⟩;rw[ho]at c0 HO;clear ho;by_cases h24:o=24
   ·subst h24
    go_enter Tryz.func20,Tryz.ntmps20
    go_wp2
    go_loop [5,6] (λ n i=>∃ (k m:Nat) (a:Int),k<=j+1/\m<=j+1 - k/\a+1=(k:Int)/\i=.int .i64 a/\n=.int .i64 m/\Hid (hR (opL l) (j+1)=(par m != hR (opL l) k))) (λ _ i=>(intOf i+1).toNat)
    case atStart=>exact⟨j+1,0,j,Nat.le_refl _,Nat.zero_le _,by omega,rfl,rfl,aQ (by simp[par])⟩
    case round =>
     obtain⟨k,m,a,hk,hm,ha,rfl,rfl,hx⟩:=hrel
     match k,hk,hm,ha,hx with
     | 0,_,hm,ha,hx =>
      obtain rfl:a = -1:=by omega
      have HB:=aQ (show hR (opL l) (j+1)=par m by have:=hx.out;simpa[hR]using this);go_wp2
      go_ret;rw[HE.out,HB.out];exact⟨rfl,rfl⟩
     | k+1,hk,hm,ha,hx =>
      obtain rfl:a=(k:Int):=by omega
      clear c0;obtain⟨bk',off',hq,_,c0,_⟩:=H.out.cells k (by rw[HN.out];omega);obtain⟨rfl,rfl⟩:bk=bk'/\off=off':=by injection hq with hq;injection hq with h1 h2;exact⟨h1,h2⟩
      clear hq;have HO2:=aQ (show opL l k=(l.getD k z).op from rfl);obtain⟨o,ho⟩:∃ o,(l.getD k z).op=o:=⟨_,rfl⟩;rw[ho]at c0 HO2;clear ho;by_cases h24:o=24
      ·subst h24
       go_wp2
       go_round
       case rel=>exact⟨k,m+1,(k:Int) - 1,by omega,by omega,by omega,by go_num,by go_num,aQ (by rw[hx.out,gA _ k,HO2.out,par_succ];cases par m <;> cases hR (opL l) k <;> rfl)⟩
       case measure=>simp[intOf]
      ·have HB:=aQ (show hR (opL l) (j+1)=par m by have:=hx.out;rw[gA _ k,HO2.out]at this;simpa[h24]using this)
       go_wp2
       go_ret;rw[HE.out,HB.out];exact⟨rfl,rfl⟩
   ·have hne:(o != 24)=true:=by simpa using h24
    have HB:=aQ (show hR (opL l) (j+1)=false by rw[gA,HO.out];simp[h24]);go_enter Tryz.func20,Tryz.ntmps20
    go_wp2
    go_ret;rw[HE.out,HB.out];exact⟨rfl,rfl⟩
  ·have HE:=aQ (show bU l i=false by unfold bU;rw[decide_eq_false (by omega)];rfl)
   go_enter Tryz.func20,Tryz.ntmps20
   go_wp2
   go_ret;rw[HE.out];exact⟨rfl,rfl⟩
 ·have HE:=aQ (show bU l i=false by
   unfold bU;by_cases h0:i=0
   ·subst h0;simp[hR]
   ·rw[decide_eq_false (by omega)];rfl)
  go_enter Tryz.func20,Tryz.ntmps20
  go_wp2
  go_ret;rw[HE.out];exact⟨rfl,rfl⟩
theorem eG{W w1:World}(hb:Below W.heap.size W w1):(∀ b o,b<W.heap.size->w1.cell? ⟨b,o,none⟩=W.cell? ⟨b,o,none⟩)/\(∀ b o,b<W.heap.size->w1.frozen? ⟨b,o,none⟩=W.frozen? ⟨b,o,none⟩) :=
 ⟨λ b o h=>hb.cell (p:=⟨b,o,none⟩) h,λ b o h=>hb.frozen (p:=⟨b,o,none⟩) h⟩
theorem dG{w w1 w2:World}(h:Below w.heap.size w w1)(h2:Below w1.heap.size w1 w2):Below w.heap.size w w2 :=
 h.trans (h2.mono h.size)
theorem dL(w:World)(o:Obj):(w.alloc o).heap[w.heap.size]?=some o:=by
 show(w.heap.push o)[w.heap.size]?=_;simp
theorem one_in{w w1:World}{o1:Obj}(h:Below (w.alloc o1).heap.size (w.alloc o1) w1):w.heap.size<w1.heap.size:=by
 have:=h.size;simp at this;omega
theorem bR{w w1:World}{o1:Obj}(h:Below (w.alloc o1).heap.size (w.alloc o1) w1):Below w.heap.size w w1 :=
 ((Below.refl _ _).alloc (Nat.le_refl _) _).trans (h.mono (by simp))
theorem eS{w w1:World}{o1 o2:Obj}(h:Below ((w.alloc o1).alloc o2).heap.size ((w.alloc o1).alloc o2) w1):Below w.heap.size w w1 :=
 (((Below.refl _ _).alloc (Nat.le_refl _) _).alloc (by simp) _).trans (h.mono (by simp;omega))
theorem below_drewN{B:Nat}{a w:World}(h:Below B a w)(n:Nat):Below B a (w.drewN n):=⟨h.os,h.tape,h.output,h.size,h.block⟩
theorem aJ(w:World){cs:Array Value}{t:TypeId}{fr:Nat×Nat}{i:Nat}{v:Value}(h:cs[i]?=some v):(w.alloc (.cells cs t fr)).cell? ⟨w.heap.size,i,none⟩=some v:=by
 simp only[World.cell?,dL];exact h
theorem cZ(w:World)(o:Obj){cs:Array Value}{t:TypeId}{fr:Nat×Nat}{i:Nat}{v:Value}(_:True)(h:cs[i]?=some v):((w.alloc o).alloc (.cells cs t fr)).cell? ⟨w.heap.size+1,i,none⟩=some v:=by
 have:=aJ (w.alloc o) (t:=t) (fr:=fr) h
 rwa [World.size_alloc]at this
theorem own_below{w w':World}{B:Nat}{e:TypeId}{size n:Nat}{v:Value}{xs:List Value}(h:w.ownsRow B e size v n xs)(hb:Below w.heap.size w w'):w'.ownsRow B e size v n xs:=by
 obtain⟨hl,h|⟨g,cap,cur,hv,hg,hh,h1,h2,h3,h4⟩⟩:=h
 ·exact⟨hl,.inl h⟩
 ·exact⟨hl,.inr ⟨g,cap,cur,hv,hg,(hb.block g (Array.getElem?_eq_some_iff.1 hh).1).trans hh,h1,h2,h3,h4⟩⟩
structure NumsAt(k:IntKind)(w:World)(q:Option Addr)(xs:List Int):Prop where
 small:xs.length<=140737488351232
 cells:∀ i,i<xs.length->∃ b off,q=some ⟨b,off,none⟩/\b<w.heap.size/\w.cell? ⟨b,off+i,none⟩=some (.int k (xs.getD i 0))
theorem NumsAt.below{k:IntKind}{w w':World}{q:Option Addr}{l:List Int}(h:NumsAt k w q l)(hb:Below w.heap.size w w'):NumsAt k w' q l :=
 ⟨h.small,λ i hi=>by
  obtain⟨b,off,hp,hbl,h0⟩:=h.cells i hi;exact⟨b,off,hp,Nat.lt_of_lt_of_le hbl hb.size,(hb.cell (p:=⟨b,off+i,none⟩) hbl).trans h0⟩⟩
def gG(xs:List Int):Bool:=xs.all λ x=>x == 0
theorem zero_no{xs:List Int}{i:Nat}(hi:i<xs.length)(h:¬ xs.getD i 0=0):gG xs=false:=by
 cases hz:gG xs
 ·rfl
 ·unfold gG at hz
  rw[List.all_eq_true]at hz;have:=hz (xs.getD i 0) (by simp[hi]);simp at this h;exact absurd this h
theorem zero_yes{xs:List Int}(h:∀ i,i<xs.length->xs.getD i 0=0):gG xs=true:=by
 unfold gG;rw[List.all_eq_true];intro x hx;obtain⟨i,hi,rfl⟩:=List.getElem_of_mem hx;have:=h i hi;simpa[hi]using this
theorem nought_any(q:Option Addr)(qc:Nat)(l:List Int)(w:World)(h:NumsAt .i64 w q l) :
  Calls Tryz.prog 166 #[.slice q l.length qc] w λ e w'=>e=.returned (.bool (gG l))/\w=w':=by
 have hs:=h.small;have H:=aQ h;have HY:=aQ (λ h=>zero_yes (xs:=l) h);have HZ:=aQ (λ i hi h=>zero_no (xs:=l) (i:=i) hi h);generalize gG l=v at *;obtain⟨N,hN⟩:∃ N,l.length=N:=⟨_,rfl⟩;rw[hN]at hs HY HZ ⊢;have HN:=aQ hN;clear hN h;go_enter Tryz.func166,Tryz.ntmps166
 go_wp2
 go_loop [7] (λ i=>∃ k:Nat,k<=N/\i=.int .i64 k/\Hid (∀ j,j<k->l.getD j 0=0)) (λ i=>N - (intOf i).toNat)
 case atStart=>exact⟨0,Nat.zero_le _,rfl,aQ (λ j hj=>absurd hj (Nat.not_lt_zero _))⟩
 case round =>
  obtain⟨k,hk,rfl,hx⟩:=hrel;by_cases hlt:k<N
  ·obtain⟨bk,off,rfl,hbl,c0⟩:=H.out.cells k (by rw[HN.out];exact hlt)
   have HO:=aQ (show l.getD k 0=l.getD k 0 from rfl);obtain⟨o,ho⟩:∃ o,l.getD k 0=o:=⟨_,rfl⟩;rw[ho]at c0;have HO2:=aQ ho;clear ho;by_cases h0:o=0
   ·subst h0
    go_wp2
    go_round
    case rel=>exact⟨k+1,by omega,by go_num,aQ (λ j hj=>by
     by_cases e:j=k
     ·rw[e];exact HO2.out
     ·exact hx.out j (by omega))⟩
    case measure=>simp[intOf];omega
   ·have HV:=aQ (HZ.out k hlt (by rw[HO2.out];exact h0))
    have hne:(o != 0)=true:=by simpa using h0
    clear h0;go_wp2
    go_ret;rw[HV.out];exact⟨rfl,rfl⟩
  ·have hkN:k=N:=by omega
   subst hkN;have HV:=aQ (HY.out hx.out);go_wp2
   go_ret;rw[HV.out];exact⟨rfl,rfl⟩
theorem noughtu_any(q:Option Addr)(qc:Nat)(l:List Int)(w:World)(h:NumsAt .u64 w q l) :
  Calls Tryz.prog 150 #[.slice q l.length qc] w λ e w'=>e=.returned (.bool (gG l))/\w=w':=by
 have hs:=h.small;have H:=aQ h;have HY:=aQ (λ h=>zero_yes (xs:=l) h);have HZ:=aQ (λ i hi h=>zero_no (xs:=l) (i:=i) hi h);generalize gG l=v at *;obtain⟨N,hN⟩:∃ N,l.length=N:=⟨_,rfl⟩;rw[hN]at hs HY HZ ⊢;have HN:=aQ hN;clear hN h;go_enter Tryz.func150,Tryz.ntmps150
 go_wp2
 go_loop [7] (λ i=>∃ k:Nat,k<=N/\i=.int .i64 k/\Hid (∀ j,j<k->l.getD j 0=0)) (λ i=>N - (intOf i).toNat)
 case atStart=>exact⟨0,Nat.zero_le _,rfl,aQ (λ j hj=>absurd hj (Nat.not_lt_zero _))⟩
 case round =>
  obtain⟨k,hk,rfl,hx⟩:=hrel;by_cases hlt:k<N
  ·obtain⟨bk,off,rfl,hbl,c0⟩:=H.out.cells k (by rw[HN.out];exact hlt)
   obtain⟨o,ho⟩:∃ o,l.getD k 0=o:=⟨_,rfl⟩;rw[ho]at c0;have HO2:=aQ ho;clear ho;by_cases h0:o=0
   ·subst h0
    go_wp2
    go_round
    case rel=>exact⟨k+1,by omega,by go_num,aQ (λ j hj=>by
     by_cases e:j=k
     ·rw[e];exact HO2.out
     ·exact hx.out j (by omega))⟩
    case measure=>simp[intOf];omega
   ·have HV:=aQ (HZ.out k hlt (by rw[HO2.out];exact h0))
    have hne:(o != 0)=true:=by simpa using h0
    clear h0;go_wp2
    go_ret;rw[HV.out];exact⟨rfl,rfl⟩
  ·have hkN:k=N:=by omega
   subst hkN;have HV:=aQ (HY.out hx.out);go_wp2
   go_ret;rw[HV.out];exact⟨rfl,rfl⟩
theorem bH{k:IntKind}(w:World)(t:TypeId)(xs:List Int)(cs:Array Value)(hc:cs=(xs.map (Value.int k)).toArray)(hs:xs.length<=4096):NumsAt k (w.alloc (.cells cs t)) (some ⟨w.heap.size,0,none⟩) xs :=
 ⟨by omega,λ j hj=>⟨_,_,rfl,by simp,aJ w (by subst hc;simp[hj])⟩⟩
theorem nought1(a:Int)(w:World):Calls Tryz.prog 166 #[.slice (some ⟨w.heap.size,0,none⟩) 1 1] (w.alloc (.cells #[.int .i64 a] 3)) λ e w'=>e=.returned (.bool (a == 0))/\(w.alloc (.cells #[.int .i64 a] 3))=w' :=
 (nought_any _ 1 [a] _ (bH w 3 [a] _ rfl (by simp))).mono λ e w' ⟨he,hw⟩=>⟨by rw[he];simp[gG],hw⟩
theorem noughtu1(a:Int)(w:World):Calls Tryz.prog 150 #[.slice (some ⟨w.heap.size,0,none⟩) 1 1] (w.alloc (.cells #[.int .u64 a] 54)) λ e w'=>e=.returned (.bool (a == 0))/\(w.alloc (.cells #[.int .u64 a] 54))=w' :=
 (noughtu_any _ 1 [a] _ (bH w 54 [a] _ rfl (by simp))).mono λ e w' ⟨he,hw⟩=>⟨by rw[he];simp[gG],hw⟩
theorem nought3(a b c:Int)(w:World):Calls Tryz.prog 166 #[.slice (some ⟨w.heap.size,0,none⟩) 3 3] (w.alloc (.cells #[.int .i64 a,.int .i64 b,.int .i64 c] 3)) λ e w'=>e=.returned (.bool (a == 0 && (b == 0 && c == 0)))/\(w.alloc (.cells #[.int .i64 a,.int .i64 b,.int .i64 c] 3))=w' :=
 (nought_any _ 3 [a,b,c] _ (bH w 3 [a,b,c] _ rfl (by simp))).mono λ e w' ⟨he,hw⟩=>⟨by rw[he];simp[gG],hw⟩
theorem nought4(a b c d:Int)(w:World):Calls Tryz.prog 166 #[.slice (some ⟨w.heap.size,0,none⟩) 4 4] (w.alloc (.cells #[.int .i64 a,.int .i64 b,.int .i64 c,.int .i64 d] 3)) λ e w'=>e=.returned (.bool (a == 0 && (b == 0 && (c == 0 && d == 0))))/\(w.alloc (.cells #[.int .i64 a,.int .i64 b,.int .i64 c,.int .i64 d] 3))=w' :=
 (nought_any _ 4 [a,b,c,d] _ (bH w 3 [a,b,c,d] _ rfl (by simp))).mono λ e w' ⟨he,hw⟩=>⟨by rw[he];simp[gG],hw⟩
theorem n1(a:Int)(w:World)(o:Obj):Calls Tryz.prog 166 #[.slice (some ⟨w.heap.size+1,0,none⟩) 1 1] ((w.alloc o).alloc (.cells #[.int .i64 a] 3)) λ e w'=>e=.returned (.bool (a == 0))/\((w.alloc o).alloc (.cells #[.int .i64 a] 3))=w':=by
 have h:=nought1 a (w.alloc o)
 rwa [World.size_alloc]at h
theorem n3(a b c:Int)(w:World)(o:Obj):Calls Tryz.prog 166 #[.slice (some ⟨w.heap.size+1,0,none⟩) 3 3] ((w.alloc o).alloc (.cells #[.int .i64 a,.int .i64 b,.int .i64 c] 3)) λ e w'=>e=.returned (.bool (a == 0 && (b == 0 && c == 0)))/\((w.alloc o).alloc (.cells #[.int .i64 a,.int .i64 b,.int .i64 c] 3))=w':=by
 have h:=nought3 a b c (w.alloc o)
 rwa [World.size_alloc]at h
theorem n4(a b c d:Int)(w:World)(o:Obj):Calls Tryz.prog 166 #[.slice (some ⟨w.heap.size+1,0,none⟩) 4 4] ((w.alloc o).alloc (.cells #[.int .i64 a,.int .i64 b,.int .i64 c,.int .i64 d] 3)) λ e w'=>e=.returned (.bool (a == 0 && (b == 0 && (c == 0 && d == 0))))/\((w.alloc o).alloc (.cells #[.int .i64 a,.int .i64 b,.int .i64 c,.int .i64 d] 3))=w':=by
 have h:=nought4 a b c d (w.alloc o)
 rwa [World.size_alloc]at h
theorem b1{w:World}{o:Obj}:Below w.heap.size w (w.alloc o):=(Below.refl _ _).alloc (Nat.le_refl _) _
theorem b2{w:World}{o1 o2:Obj}:Below w.heap.size w ((w.alloc o1).alloc o2):=b1.alloc (by simp) _
def fitsB(x:In):Bool:=inB x.dst 0 10 && (inB x.src 0 10 && (inB x.off (-32768) 32767 && inB x.imm (-2147483648) 2147483647))
theorem fits_any(x:In)(w:World):Calls Tryz.prog 148 #[.agg #[.int .i64 x.op,.int .i64 x.dst,.int .i64 x.src,.int .i64 x.off,.int .i64 x.imm,.int .u64 x.wide]] w λ e w'=>e=.returned (.bool (fitsB x))/\Below w.heap.size w w':=by
 unfold fitsB;cases v1:inB x.dst 0 10
 case' true=>cases v2:inB x.src 0 10
 case' true.true=>cases v3:inB x.off (-32768) 32767
 all_goals
  simp only[Bool.false_and,Bool.true_and];go_enter Tryz.func148,Tryz.ntmps148
  go_wp2_with (go_at_call 165;refine(fI _ _ _ _).mono ?_;rintro e w1 ⟨rfl,rfl⟩)
  go_ret;exact⟨rfl,b1⟩
def operB(x:In):Bool:=if rg x.op=true then x.imm == 0 else x.src == 0
theorem oper_any(x:In)(w:World):Calls Tryz.prog 168 #[.agg #[.int .i64 x.op,.int .i64 x.dst,.int .i64 x.src,.int .i64 x.off,.int .i64 x.imm,.int .u64 x.wide]] w λ e w'=>e=.returned (.bool (operB x))/\Below w.heap.size w w':=by
 unfold operB;have H1:=aQ (λ W=>byReg_any x.op W);generalize rg x.op=r at *;cases r
 all_goals
  simp only[Bool.false_eq_true,if_false,if_true];go_enter Tryz.func168,Tryz.ntmps168
  go_wp2_with (first
   | (go_at_call 182;refine(H1.out _).mono ?_;rintro e w1 ⟨rfl,rfl⟩)
   | (go_at_call 166;refine(n1 _ _ _).mono ?_;rintro e w1 ⟨rfl,rfl⟩))
  go_ret;exact⟨rfl,b2⟩
def shiftB(n:Int)(wide:Bool):Bool:=if wide=true then inB n 0 63 else inB n 0 31
theorem shift_any(n:Int)(wide:Bool)(w:World):Calls Tryz.prog 184 #[.int .i64 n,.bool wide] w λ e w'=>e=.returned (.bool (shiftB n wide))/\w=w':=by
 unfold shiftB;cases wide
 all_goals
  go_enter Tryz.func184,Tryz.ntmps184
  go_wp2_with (go_at_call 165;refine(fI _ _ _ _).mono ?_;rintro e w1 ⟨rfl,rfl⟩)
  go_ret;exact⟨rfl,rfl⟩
def mayAluB(x:In)(o:Int)(wide:Bool):Bool:=!(x.dst == 10) && ((x.off == 0) && (operB x && (if o=128 then x.imm == 0 else if o=96∨o=112∨o=192 then shiftB x.imm wide else true)))
theorem b3{w:World}{o1 o2 o3:Obj}:Below w.heap.size w (((w.alloc o1).alloc o2).alloc o3):=b2.alloc (by simp;omega) _
theorem mayAlu_any(x:In)(o:Int)(wide:Bool)(w:World):Calls Tryz.prog 167 #[.agg #[.int .i64 x.op,.int .i64 x.dst,.int .i64 x.src,.int .i64 x.off,.int .i64 x.imm,.int .u64 x.wide],.int .i64 o,.bool wide] w λ e w'=>e=.returned (.bool (mayAluB x o wide))/\Below w.heap.size w w':=by
 unfold mayAluB;cases k1:x.dst == 10
 case true =>
  simp only[Bool.not_true,Bool.false_and];go_enter Tryz.func167,Tryz.ntmps167
  go_wp2
  go_ret;exact⟨rfl,b1⟩
 cases k2:x.off == 0
 case false =>
  simp only[Bool.not_false,Bool.false_and,Bool.true_and];go_enter Tryz.func167,Tryz.ntmps167
  go_wp2_with (go_at_call 166;refine(n1 _ _ _).mono ?_;rintro e w1 ⟨rfl,rfl⟩)
  go_ret;exact⟨rfl,b2⟩
 have HO:=aQ (λ W=>oper_any x W);generalize operB x=v at *;cases v
 case false =>
  simp only[Bool.not_false,Bool.false_and,Bool.true_and];go_enter Tryz.func167,Tryz.ntmps167
  go_wp2_with (first
   | (go_at_call 166;refine(n1 _ _ _).mono ?_;rintro e w1 ⟨rfl,rfl⟩)
   | (go_at_call 168;refine(HO.out _).mono ?_;rintro e w2 ⟨rfl,hb2⟩;have B2:=aQ (eS hb2);clear hb2))
  go_ret;exact⟨rfl,B2.out⟩
 by_cases h1:o=128
 ·subst h1
  simp only[Bool.not_false,Bool.true_and,if_true];go_enter Tryz.func167,Tryz.ntmps167
  have tok:True:=trivial
  go_wp2_with (first
   | (go_at_call 166;have _t:=tok;refine(n1 _ _ _).mono ?_;rintro e w1 ⟨rfl,rfl⟩;clear tok)
   | (go_at_call 168;refine(HO.out _).mono ?_;rintro e w2 ⟨rfl,hb2⟩;have B2:=aQ (eS hb2);obtain⟨hc,hf⟩:=eG hb2;clear hb2)
   | (go_at_call 166;refine(nought1 _ _).mono ?_;rintro e w1 ⟨rfl,rfl⟩))
  go_ret;exact⟨rfl,B2.out.alloc B2.out.size _⟩
 rw[if_neg h1];by_cases h2:o=96∨o=112∨o=192
 ·rw[if_pos h2]
  simp only[Bool.not_false,Bool.true_and];clear h1;rcases h2 with rfl|rfl|rfl
  all_goals
   go_enter Tryz.func167,Tryz.ntmps167
   go_wp2_with (first
    | (go_at_call 166;refine(n1 _ _ _).mono ?_;rintro e w1 ⟨rfl,rfl⟩)
    | (go_at_call 168;refine(HO.out _).mono ?_;rintro e w2 ⟨rfl,hb2⟩;have B2:=aQ (eS hb2);obtain⟨hc,hf⟩:=eG hb2;clear hb2)
    | (go_at_call 184;refine(shift_any _ _ _).mono ?_;rintro e w3 ⟨rfl,rfl⟩))
   go_ret;exact⟨rfl,B2.out⟩
 ·rw[if_neg h2]
  simp only[Bool.not_false,Bool.true_and];have g1:(o == 128)=false:=by simpa using h1
  have g2:(o == 96)=false:=by simp;omega
  have g3:(o == 112)=false:=by simp;omega
  have g4:(o == 192)=false:=by simp;omega
  clear h1 h2;go_enter Tryz.func167,Tryz.ntmps167
  go_wp2_with (first
   | (go_at_call 166;refine(n1 _ _ _).mono ?_;rintro e w1 ⟨rfl,rfl⟩)
   | (go_at_call 168;refine(HO.out _).mono ?_;rintro e w2 ⟨rfl,hb2⟩;have B2:=aQ (eS hb2);clear hb2))
  go_ret;exact⟨rfl,B2.out⟩
def accB(x:In):Bool:=if x.op % 8=1 then !(x.dst == 10) && (x.imm == 0)else if x.op % 8=3 then x.imm == 0 else x.src == 0
theorem access_any(x:In)(w:World):Calls Tryz.prog 169 #[.agg #[.int .i64 x.op,.int .i64 x.dst,.int .i64 x.src,.int .i64 x.off,.int .i64 x.imm,.int .u64 x.wide]] w λ e w'=>e=.returned (.bool (accB x))/\Below w.heap.size w w':=by
 unfold accB;have HC:=aQ (λ W=>class_any x.op W);generalize x.op % 8=c at *;by_cases h1:c=1
 ·subst h1
  simp only[if_true];cases k1:x.dst == 10
  all_goals
   simp only[Bool.not_false,Bool.not_true,Bool.false_and,Bool.true_and];go_enter Tryz.func169,Tryz.ntmps169
   go_wp2_with (first
    | (go_at_call 128;refine(HC.out _).mono ?_;rintro e w1 ⟨rfl,rfl⟩)
    | (go_at_call 166;refine(n1 _ _ _).mono ?_;rintro e w1 ⟨rfl,rfl⟩))
   go_ret;first|exact⟨rfl,b2⟩|exact⟨rfl,b1⟩
 ·rw[if_neg h1]
  have g1:(c == 1)=false:=by simpa using h1
  by_cases h2:c=3
  ·subst h2
   simp only[if_true];clear g1 h1;go_enter Tryz.func169,Tryz.ntmps169
   go_wp2_with (first
    | (go_at_call 128;refine(HC.out _).mono ?_;rintro e w1 ⟨rfl,rfl⟩)
    | (go_at_call 166;refine(n1 _ _ _).mono ?_;rintro e w1 ⟨rfl,rfl⟩))
   go_ret;exact⟨rfl,b2⟩
  ·rw[if_neg h2]
   have g2:(c == 3)=false:=by simpa using h2
   clear h1 h2;go_enter Tryz.func169,Tryz.ntmps169
   go_wp2_with (first
    | (go_at_call 128;refine(HC.out _).mono ?_;rintro e w1 ⟨rfl,rfl⟩)
    | (go_at_call 166;refine(n1 _ _ _).mono ?_;rintro e w1 ⟨rfl,rfl⟩))
   go_ret;exact⟨rfl,b2⟩
def sg32(x:Int):Int:=(x+2147483648) % 4294967296 - 2147483648
def wideB(x:In):Bool:=!(x.dst == 10) && ((x.off == 0) && (if x.src=0 then x.imm == sg32 x.wide else if x.src=1 then inB x.imm 0 7 && (x.wide == x.imm)else false))
theorem sg_conv(x:Int):IntKind.i32.wrap x=sg32 x:=by
 unfold sg32;simp[IntKind.wrap,IntKind.bits,IntKind.signed];omega
theorem wide_any(x:In)(hx:Bd x)(w:World):Calls Tryz.prog 149 #[.agg #[.int .i64 x.op,.int .i64 x.dst,.int .i64 x.src,.int .i64 x.off,.int .i64 x.imm,.int .u64 x.wide]] w λ e w'=>e=.returned (.bool (wideB x))/\Below w.heap.size w w':=by
 unfold wideB;obtain⟨hw0,hw1⟩:=hx.wide;obtain⟨hi0,hi1⟩:=hx.imm;clear hx;cases k1:x.dst == 10
 case true =>
  simp only[Bool.not_true,Bool.false_and];go_enter Tryz.func149,Tryz.ntmps149
  go_wp2
  go_ret;exact⟨rfl,b1⟩
 cases k2:x.off == 0
 case false =>
  simp only[Bool.not_false,Bool.false_and,Bool.true_and];go_enter Tryz.func149,Tryz.ntmps149
  go_wp2_with (go_at_call 166;refine(n1 _ _ _).mono ?_;rintro e w1 ⟨rfl,rfl⟩)
  go_ret;exact⟨rfl,b2⟩
 simp only[Bool.not_false,Bool.true_and];obtain⟨S,hS⟩:∃ S,x.src=S:=⟨_,rfl⟩;rw[hS];clear hS;by_cases h0:S=0
 ·rw[if_pos h0]
  subst h0;have hc:=sg_conv x.wide;go_enter Tryz.func149,Tryz.ntmps149
  go_wp2_with (go_at_call 166;refine(n1 _ _ _).mono ?_;rintro e w1 ⟨rfl,rfl⟩)
  go_ret;exact⟨eW (by rw[show wrap64 (sg32 x.wide)=sg32 x.wide by unfold wrap64 sg32;omega]),b2⟩
 rw[if_neg h0];have g0:(S == 0)=false:=by simpa using h0
 by_cases h1:S=1
 ·rw[if_pos h1]
  subst h1;clear h0 g0;cases v:inB x.imm 0 7
  case false =>
   simp only[Bool.false_and];go_enter Tryz.func149,Tryz.ntmps149
   go_wp2_with (first
    | (go_at_call 166;refine(n1 _ _ _).mono ?_;rintro e w1 ⟨rfl,rfl⟩)
    | (go_at_call 165;refine(fI _ _ _ _).mono ?_;rintro e w1 ⟨rfl,rfl⟩))
   go_ret;exact⟨rfl,b2⟩
  case true =>
   simp only[Bool.true_and];have hb:=dW.1 v;obtain⟨m0,m7⟩:=hb;go_enter Tryz.func149,Tryz.ntmps149
   go_wp2_with (first
    | (go_at_call 166;refine(n1 _ _ _).mono ?_;rintro e w1 ⟨rfl,rfl⟩)
    | (go_at_call 165;refine(fI _ _ _ _).mono ?_;rintro e w1 ⟨rfl,rfl⟩))
   go_ret;exact⟨eW (by simp),b2⟩
 ·rw[if_neg h1]
  have g1:(S == 1)=false:=by simpa using h1
  clear h0 h1;go_enter Tryz.func149,Tryz.ntmps149
  go_wp2_with (go_at_call 166;refine(n1 _ _ _).mono ?_;rintro e w1 ⟨rfl,rfl⟩)
  go_ret;exact⟨rfl,b2⟩
theorem alu_yes(op:Int)(w:World)(h0:-9223372036854775808<=op)(h1:op<=9223372036854775807)(h:aluB op=true):Calls Tryz.prog 138 #[.int .i64 op] w λ e w'=>e=.returned (.tuple #[.int .i64 (op - op % 16),.bool (decide (op % 8=7)),.bool true])/\w=w':=by
 have:=fD op w h0 h1;unfold AluP at this;rw[h]at this;exact this
theorem alu_no(op:Int)(w:World)(h0:-9223372036854775808<=op)(h1:op<=9223372036854775807)(h:aluB op=false):Calls Tryz.prog 138 #[.int .i64 op] w λ e w'=>e=.returned (.tuple #[.int .i64 0,.bool false,.bool false])/\w=w':=by
 have:=fD op w h0 h1;unfold AluP at this;rw[h]at this;exact this
theorem jump_yes(op:Int)(w:World)(h0:-9223372036854775808<=op)(h1:op<=9223372036854775807)(h:jmpB op=true):Calls Tryz.prog 97 #[.int .i64 op] w λ e w'=>e=.returned (.tuple #[.int .i64 (op - op % 16),.bool (decide (op % 8=5)),.bool true])/\w=w':=by
 have:=jump_any op w h0 h1;unfold JmpP at this;rw[h]at this;exact this
theorem jump_no(op:Int)(w:World)(h0:-9223372036854775808<=op)(h1:op<=9223372036854775807)(h:jmpB op=false):Calls Tryz.prog 97 #[.int .i64 op] w λ e w'=>e=.returned (.tuple #[.int .i64 0,.bool false,.bool false])/\w=w':=by
 have:=jump_any op w h0 h1;unfold JmpP at this;rw[h]at this;exact this
def oneB(x:In):Bool :=
 if x.op=5 then (x.dst == 0) && ((x.src == 0) && (x.imm == 0))
 else if x.op=133 then ((x.dst == 0) && ((x.src == 0) && (x.off == 0))) && inB x.imm 1 5
 else if x.op=149 then (x.dst == 0) && ((x.src == 0) && ((x.off == 0) && (x.imm == 0)))
 else if aluB x.op=true then mayAluB x (x.op - x.op % 16) (decide (x.op % 8=7))
 else if jmpB x.op=true then operB x
 else !(dJ x.op == 0) && accB x
theorem one_any(x:In)(hx:Bd x)(w:World):Calls Tryz.prog 151 #[.agg #[.int .i64 x.op,.int .i64 x.dst,.int .i64 x.src,.int .i64 x.off,.int .i64 x.imm,.int .u64 x.wide]] w λ e w'=>e=.returned (.bool (oneB x))/\Below w.heap.size w w':=by
 unfold oneB;obtain⟨h0,h1⟩:=hx.op;clear hx;by_cases e5:x.op=5
 ·rw[if_pos e5]
  have g5:(x.op == 5)=true:=by simpa using e5
  clear h0 h1 e5;go_enter Tryz.func151,Tryz.ntmps151
  go_wp2_with (go_at_call 166;refine(n3 _ _ _ _ _).mono ?_;rintro e w1 ⟨rfl,rfl⟩)
  go_ret;exact⟨rfl,b2⟩
 rw[if_neg e5];have g5:(x.op == 5)=false:=by simpa using e5
 by_cases e133:x.op=133
 ·rw[if_pos e133]
  have g133:(x.op == 133)=true:=by simpa using e133
  clear h0 h1 e5 e133;cases v:((x.dst == 0) && ((x.src == 0) && (x.off == 0)))
  all_goals
   have HN:=aQ (λ W o=>n3 x.dst x.src x.off W o);rw[v]at HN;clear v;simp only[Bool.false_and,Bool.true_and];go_enter Tryz.func151,Tryz.ntmps151
   go_wp2_with (first
    | (go_at_call 166;refine(HN.out _ _).mono ?_;rintro e w1 ⟨rfl,rfl⟩)
    | (go_at_call 165;refine(fI _ _ _ _).mono ?_;rintro e w1 ⟨rfl,rfl⟩))
   go_ret;exact⟨rfl,b2⟩
 rw[if_neg e133];have g133:(x.op == 133)=false:=by simpa using e133
 by_cases e149:x.op=149
 ·rw[if_pos e149]
  have g149:(x.op == 149)=true:=by simpa using e149
  clear h0 h1 e5 e133 e149;go_enter Tryz.func151,Tryz.ntmps151
  go_wp2_with (go_at_call 166;refine(n4 _ _ _ _ _ _).mono ?_;rintro e w1 ⟨rfl,rfl⟩)
  go_ret;exact⟨rfl,b2⟩
 rw[if_neg e149];have g149:(x.op == 149)=false:=by simpa using e149
 clear e5 e133 e149;cases ha:aluB x.op
 case true =>
  rw[if_pos rfl];have HA:=aQ (λ W=>alu_yes x.op W h0 h1 ha);have HM:=aQ (λ W=>mayAlu_any x (x.op - x.op % 16) (decide (x.op % 8=7)) W);generalize decide (x.op % 8=7)=wd at *;generalize x.op - x.op % 16=H at *;generalize mayAluB x H wd=v at *;clear ha h0 h1;go_enter Tryz.func151,Tryz.ntmps151
  go_wp2_with (first
   | (go_at_call 138;refine(HA.out _).mono ?_;rintro e w1 ⟨rfl,rfl⟩)
   | (go_at_call 167;refine(HM.out _).mono ?_;rintro e w1 ⟨rfl,hb⟩;have B:=aQ (bR hb);clear hb))
  go_ret;exact⟨rfl,B.out⟩
 rw[if_neg (by simp)];have HA:=aQ (λ W=>alu_no x.op W h0 h1 ha);clear ha;cases hj:jmpB x.op
 case true =>
  rw[if_pos rfl];have HJ:=aQ (λ W=>jump_yes x.op W h0 h1 hj);have HM:=aQ (λ W=>oper_any x W);generalize decide (x.op % 8=5)=wd at *;generalize x.op - x.op % 16=H at *;generalize operB x=v at *;clear hj h0 h1;go_enter Tryz.func151,Tryz.ntmps151
  go_wp2_with (first
   | (go_at_call 138;refine(HA.out _).mono ?_;rintro e w1 ⟨rfl,rfl⟩)
   | (go_at_call 97;refine(HJ.out _).mono ?_;rintro e w1 ⟨rfl,rfl⟩)
   | (go_at_call 168;refine(HM.out _).mono ?_;rintro e w1 ⟨rfl,hb⟩;have B:=aQ (bR hb);clear hb))
  go_ret;exact⟨rfl,B.out⟩
 rw[if_neg (by simp)];have HJ:=aQ (λ W=>jump_no x.op W h0 h1 hj);have HS:=aQ (λ W=>size_any x.op W);have HM:=aQ (λ W=>access_any x W);generalize dJ x.op=s at *;generalize accB x=v at *;clear hj h0 h1;cases hs:s == 0
 case true =>
  have hs':(s != 0)=false:=by simp at hs ⊢;exact hs
  simp only[Bool.not_true,Bool.false_and];go_enter Tryz.func151,Tryz.ntmps151
  go_wp2_with (first
   | (go_at_call 138;refine(HA.out _).mono ?_;rintro e w1 ⟨rfl,rfl⟩)
   | (go_at_call 97;refine(HJ.out _).mono ?_;rintro e w1 ⟨rfl,rfl⟩)
   | (go_at_call 162;refine(HS.out _).mono ?_;rintro e w1 ⟨rfl,rfl⟩))
  go_ret;exact⟨rfl,b1⟩
 case false =>
  have hs':(s != 0)=true:=by simp at hs ⊢;exact hs
  simp only[Bool.not_false,Bool.true_and];go_enter Tryz.func151,Tryz.ntmps151
  go_wp2_with (first
   | (go_at_call 138;refine(HA.out _).mono ?_;rintro e w1 ⟨rfl,rfl⟩)
   | (go_at_call 97;refine(HJ.out _).mono ?_;rintro e w1 ⟨rfl,rfl⟩)
   | (go_at_call 162;refine(HS.out _).mono ?_;rintro e w1 ⟨rfl,rfl⟩)
   | (go_at_call 169;refine(HM.out _).mono ?_;rintro e w1 ⟨rfl,hb⟩;have B:=aQ (bR hb);clear hb))
  go_ret;exact⟨rfl,B.out⟩
def insB(x:In):Bool:=fitsB x && (if x.op=24 then wideB x else (x.wide == 0) && oneB x)
theorem ins_any(x:In)(hx:Bd x)(w:World):Calls Tryz.prog 121 #[.agg #[.int .i64 x.op,.int .i64 x.dst,.int .i64 x.src,.int .i64 x.off,.int .i64 x.imm,.int .u64 x.wide]] w λ e w'=>e=.returned (.bool (insB x))/\Below w.heap.size w w':=by
 unfold insB;have HF:=aQ (λ W=>fits_any x W);have HW:=aQ (λ W=>wide_any x hx W);have HO:=aQ (λ W=>one_any x hx W);generalize fitsB x=vf at *;generalize wideB x=vw at *;generalize oneB x=vo at *;clear hx;cases vf
 case false =>
  simp only[Bool.false_and];go_enter Tryz.func121,Tryz.ntmps121
  go_wp2_with (go_at_call 148;refine(HF.out _).mono ?_;rintro e w1 ⟨rfl,hb⟩;have B:=aQ (bR hb);clear hb)
  go_ret;exact⟨rfl,B.out⟩
 simp only[Bool.true_and];by_cases e24:x.op=24
 ·rw[if_pos e24]
  have g:(x.op == 24)=true:=by simpa using e24
  clear e24;go_enter Tryz.func121,Tryz.ntmps121
  go_wp2_with (first
   | (go_at_call 148;refine(HF.out _).mono ?_;rintro e w1 ⟨rfl,hb⟩;have B:=aQ (bR hb);obtain⟨hc,hf⟩:=eG hb;clear hb)
   | (go_at_call 149;refine(HW.out _).mono ?_;rintro e w2 ⟨rfl,hb⟩;have B2:=aQ (dG B.out hb);clear hb))
  go_ret;exact⟨rfl,B2.out⟩
 ·rw[if_neg e24]
  have g:(x.op == 24)=false:=by simpa using e24
  clear e24;cases v:x.wide == 0
  case false =>
   simp only[Bool.false_and];go_enter Tryz.func121,Tryz.ntmps121
   go_wp2_with (first
    | (go_at_call 148;refine(HF.out _).mono ?_;rintro e w1 ⟨rfl,hb⟩;have B:=aQ (bR hb);obtain⟨hc,hf⟩:=eG hb;clear hb)
    | (go_at_call 150;refine(noughtu1 _ _).mono ?_;rintro e w2 ⟨rfl,rfl⟩))
   go_ret;exact⟨rfl,B.out.alloc B.out.size _⟩
  case true =>
   simp only[Bool.true_and];go_enter Tryz.func121,Tryz.ntmps121
   go_wp2_with (first
    | (go_at_call 148;refine(HF.out _).mono ?_;rintro e w1 ⟨rfl,hb⟩;have B:=aQ (bR hb);have hz:=one_in hb;obtain⟨hc,hf⟩:=eG hb;clear hb)
    | (go_at_call 150;refine(noughtu1 _ _).mono ?_;rintro e w2 ⟨rfl,rfl⟩)
    | (go_at_call 151;refine(HO.out _).mono ?_;rintro e w3 ⟨rfl,hb⟩;have B2:=aQ (dG (B.out.alloc B.out.size _) hb);clear hb))
   go_ret;exact⟨rfl,B2.out⟩
end Go.Proofs.YtkfahppdklecdaaGreatDoor
