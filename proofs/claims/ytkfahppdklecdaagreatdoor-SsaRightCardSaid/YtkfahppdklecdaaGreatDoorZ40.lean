import Derived.Below
import Derived.Test.YtkfahppdklecdaaGreatDoorAA
import Derived.Test.YtkfahppdklecdaaGreatDoorProg
import Derived.WalkKit
import Derived.WalkSpells
import Derived.WalkLawsBesides
import Derived.BigQuiet
import Derived.Deep.QuietTactic
import Derived.LaidEql
import Derived.Stop.Asserts
import Derived.RowKitTokens
import Derived.RegionTactic
import Derived.ChangeAlike
import Derived.Deep.OwnRows
import Derived.Laws.CopyOwn
import Derived.IntWalk
import Derived.Deep.RegionLaw
import Derived.Deep.RegionWith
import Derived.Laws.BytesArg
set_option maxRecDepth 100000
set_option maxHeartbeats 16000000
namespace Go.Proofs.YtkfahppdklecdaaGreatDoor.K.M
open Go.RowKit
structure Ar where
 size:Int
 write:Bool
def inB(n l:Int):Bool:=decide (l<=n/\n<=4096)
theorem dW{n l:Int}(h:l<=n/\n<=4096):inB n l=true:=by simp[inB,h]
theorem eO{n l:Int}(h:¬ (l<=n/\n<=4096)):inB n l=false:=by simp only[inB];exact decide_eq_false h
theorem of_inB{n l:Int}(h:inB n l=true):l<=n/\n<=4096:=by simpa[inB]using h
def eM(ms:List Ar):Bool:=ms.all λ a=>inB a.size 1
def okL(c:Int)(ms:List Ar):Bool:=inB c 0 && decide (ms.length<=8) && eM ms
def gQ:Ar:=⟨0,false⟩
theorem okMaps_snoc{ms:List Ar}{k:Nat}(hk:k<ms.length):eM (ms.take (k+1))=(eM (ms.take k) && inB (ms.getD k gQ).size 1):=by
 rw[List.take_succ_eq_append_getElem hk];simp only[eM,List.all_append,List.all_cons,List.all_nil,Bool.and_true];simp[hk]
theorem fY{ms:List Ar}{k:Nat}(h:eM (ms.take k)=false):eM ms=false:=by
 cases h':eM ms
 ·rfl
 ·simp only[eM,List.all_eq_true,List.all_eq_false]at h h'
  obtain⟨x,hx,hn⟩:=h;exact absurd (h' x (List.mem_of_mem_take hx)) hn
theorem okL_parts{c:Int}{ms:List Ar}(h:okL c ms=true):(0<=c/\c<=4096)/\ms.length<=8/\∀ i,i<ms.length->1<=(ms.getD i gQ).size/\(ms.getD i gQ).size<=4096:=by
 simp only[okL,eM,Bool.and_eq_true,List.all_eq_true,decide_eq_true_eq]at h;refine⟨of_inB h.1.1,h.1.2,λ i hi=>of_inB (h.2 _ ?_)⟩;simp[hi]
def dM(len:Nat)(r:Int):Bool:=decide (1<=r/\r<3+(len:Int))
def fS(c:Int)(wr:Bool)(ms:List Ar)(r:Int):Ar:=if r=1 then ⟨c,wr⟩else if r=2 then ⟨512,true⟩else ms.getD (r - 3).toNat gQ
structure MapsAt(w:World)(p:Option Addr)(len:Nat)(ms:List Ar):Prop where
 hlen:len=ms.length
 small:len<=140737488351232
 cells:∀ i,i<ms.length->∃ b off,p=some ⟨b,off,none⟩/\b<w.heap.size/\w.cell? ⟨b,off+i*2,none⟩=some (.int .i64 (ms.getD i gQ).size)/\w.cell? ⟨b,off+i*2+1,none⟩=some (.bool (ms.getD i gQ).write)
theorem MapsAt.below{w w':World}{p:Option Addr}{len:Nat}{ms:List Ar}(h:MapsAt w p len ms)(hb:Below w.heap.size w w'):MapsAt w' p len ms :=
 ⟨h.hlen,h.small,λ i hi=>by
  obtain⟨b,off,hp,hbl,h1,h2⟩:=h.cells i hi;exact⟨b,off,hp,Nat.lt_of_lt_of_le hbl hb.size,(hb.cell (p:=⟨b,off+i*2,none⟩) hbl).trans h1,(hb.cell (p:=⟨b,off+i*2+1,none⟩) hbl).trans h2⟩⟩
theorem MapsAt.alloc{w:World}{p:Option Addr}{len:Nat}{ms:List Ar}(h:MapsAt w p len ms)(o:Obj):MapsAt (w.alloc o) p len ms :=
 h.below ((Below.refl _ _).alloc (Nat.le_refl _) _)
end Go.Proofs.YtkfahppdklecdaaGreatDoor.K.M
namespace Go.Proofs.YtkfahppdklecdaaGreatDoor.K
open Go.RowKit M
theorem eW{a b:Bool}(h:a=b):Ending.returned (.bool a)=.returned (.bool b):=by rw[h]
theorem dH{k:IntKind}{a b:Int}(h:a=b):Ending.returned (.int k a)=.returned (.int k b):=by rw[h]
def chk(b:Bool):Int:=if b then 0 else 22
theorem dP(c:Int)(wr:Bool)(p:Option Addr)(len cap:Nat)(ms:List Ar)(w:World)(hm:MapsAt w p len ms) :
  Calls Tryz.prog 44 #[.agg #[.int .i64 c,.bool wr,.slice p len cap]] w λ e w'=>e=.returned (.int .i64 (chk (okL c ms)))/\Below w.heap.size w w':=by
 have hsm:=hm.small;have HM:=aQ hm;have HL:=aQ hm.hlen;have HB:Hid (∀ o,Below w.heap.size w (w.alloc o)):=λ o=>(Below.refl _ _).alloc (Nat.le_refl _) _
 clear hm;by_cases h0:0<=c
 ·by_cases h1:c<=4096
  ·have HC:=aQ (dW ⟨h0,h1⟩)
   by_cases hl:8<len
   ·go_enter Tryz.func44,Tryz.ntmps44
    go_wp2
    go_ret;exact⟨dH (by have:=HL.out;simp only[okL,HC.out,chk];rw[decide_eq_false (by omega)];rfl),HB.out _⟩
   ·have HE:okL c ms=eM ms:=by have:=HL.out;simp only[okL,HC.out];rw[decide_eq_true (by omega)];rfl
    rw[HE];clear HE HC;go_enter Tryz.func44,Tryz.ntmps44
    go_wp2
    go_loop [3] (λ i=>∃ k:Nat,k<=len/\i=.int .i64 k/\Hid (eM (ms.take k)=true)) (λ i=>len - (intOf i).toNat)
    case atStart=>exact⟨0,Nat.zero_le _,rfl,by simp[eM,Hid]⟩
    case round =>
     obtain⟨k,hk,rfl,HO⟩:=hrel;by_cases hlt:k<len
     ·have hs:=aQ (okMaps_snoc (ms:=ms) (k:=k) (by rw[<- HL.out];exact hlt))
      obtain⟨b,off,rfl,hbl,g1,g2⟩:=HM.out.cells k (by rw[<- HL.out];exact hlt);generalize ms.getD k gQ=a at g1 g2 hs;by_cases i1:1<=a.size
      ·by_cases i2:a.size<=4096
       ·have HIN:=aQ (dW ⟨i1,i2⟩)
        go_wp2
        go_round
        case rel=>exact⟨k+1,by omega,by go_num,by show eM _=true;rw[hs.out,HO.out,HIN.out];rfl⟩
        case measure=>simp[intOf];omega
       ·have HIN:=aQ (eO (n:=a.size) (l:=1) (by omega))
        go_wp2
        go_ret;exact⟨dH (by rw[fY (k:=k+1) (by rw[hs.out,HO.out,HIN.out];rfl)];rfl),HB.out _⟩
      ·have HIN:=aQ (eO (n:=a.size) (l:=1) (by omega))
       go_wp2
       go_ret;exact⟨dH (by rw[fY (k:=k+1) (by rw[hs.out,HO.out,HIN.out];rfl)];rfl),HB.out _⟩
     ·go_wp2
      go_ret;exact⟨dH (by have:=HO.out;rw[List.take_of_length_le (by rw[<- HL.out];omega)]at this;rw[this];rfl),HB.out _⟩
  ·have HC:=aQ (eO (n:=c) (l:=0) (by omega))
   go_enter Tryz.func44,Tryz.ntmps44
   go_wp2
   go_ret;exact⟨dH (by simp[okL,HC.out,chk]),HB.out _⟩
 ·have HC:=aQ (eO (n:=c) (l:=0) (by omega))
  go_enter Tryz.func44,Tryz.ntmps44
  go_wp2
  go_ret;exact⟨dH (by simp[okL,HC.out,chk]),HB.out _⟩
theorem eD{b:Bool}(c:Int)(wr:Bool)(p:Option Addr)(len cap:Nat)(ms:List Ar)(w:World)(hm:MapsAt w p len ms)(h:okL c ms=b) :
  Calls Tryz.prog 44 #[.agg #[.int .i64 c,.bool wr,.slice p len cap]] w λ e w'=>e=.returned (.int .i64 (chk b))/\Below w.heap.size w w':=by
 rw[<- h];exact dP c wr p len cap ms w hm
theorem fP:chk true=0:=rfl
theorem chk_false:chk false=22:=rfl
def fB(c:Int)(wr:Bool)(ms:List Ar)(len:Nat)(r:Int):Ar:=if okL c ms && dM len r then fS c wr ms r else gQ
def fT(c:Int)(ms:List Ar)(len:Nat)(r:Int):Bool:=okL c ms && dM len r
theorem eG{W w1:World}(hb:Below W.heap.size W w1):(∀ b o,b<W.heap.size->w1.cell? ⟨b,o,none⟩=W.cell? ⟨b,o,none⟩)/\(∀ b o,b<W.heap.size->w1.frozen? ⟨b,o,none⟩=W.frozen? ⟨b,o,none⟩) :=
 ⟨λ b o h=>hb.cell (p:=⟨b,o,none⟩) h,λ b o h=>hb.frozen (p:=⟨b,o,none⟩) h⟩
theorem one_in{w w1:World}{o1:Obj}(h:Below (w.alloc o1).heap.size (w.alloc o1) w1):w.heap.size<w1.heap.size:=by
 have:=h.size;simp at this;omega
theorem two_in{w w1:World}{o1 o2:Obj}(h:Below ((w.alloc o1).alloc o2).heap.size ((w.alloc o1).alloc o2) w1):w.heap.size<w1.heap.size/\w.heap.size+1<w1.heap.size:=by
 have:=h.size;simp at this;omega
theorem bR{w w1:World}{o1:Obj}(h:Below (w.alloc o1).heap.size (w.alloc o1) w1):Below w.heap.size w w1 :=
 ((Below.refl _ _).alloc (Nat.le_refl _) _).trans (h.mono (by simp))
theorem eS{w w1:World}{o1 o2:Obj}(h:Below ((w.alloc o1).alloc o2).heap.size ((w.alloc o1).alloc o2) w1):Below w.heap.size w w1 :=
 (((Below.refl _ _).alloc (Nat.le_refl _) _).alloc (by simp) _).trans (h.mono (by simp;omega))
theorem dG{w w1 w2:World}(h:Below w.heap.size w w1)(h2:Below w1.heap.size w1 w2):Below w.heap.size w w2 :=
 h.trans (h2.mono h.size)
def Sent(_w:World)(_s:Nat->Addr):Prop:=True
theorem Sent.below{w w':World}{s:Nat->Addr}(_h:Sent w s)(_hb:Below w.heap.size w w'):Sent w' s:=trivial
theorem areaOf_bd{c:Int}{wr:Bool}{ms:List Ar}{len:Nat}{r:Int}(hl:len=ms.length)(h:okL c ms=true)(hr:dM len r=true):0<=(fS c wr ms r).size/\(fS c wr ms r).size<=4096:=by
 obtain⟨hc,_,hm⟩:=okL_parts h;obtain⟨g1,g2⟩:1<=r/\r<3+(len:Int):=by simpa[dM]using hr
 unfold fS;by_cases h1:r=1
 ·rw[if_pos h1];exact hc
 ·by_cases h2:r=2
  ·rw[if_neg h1,if_pos h2];exact⟨by decide,by decide⟩
  ·rw[if_neg h1,if_neg h2]
   have:=hm (r - 3).toNat (by omega);omega
theorem rowIs_below{B:Nat}{w w':World}{b:Nat}{t:TypeId}{n:Nat}{f:Nat->Value}(h:w.rowIs b t n f)(hb:Below B w w')(hlt:b<B):w'.rowIs b t n f:=h.of_block (hb.block b hlt)
def szOf(c:Int)(ms:List Ar)(i:Nat):Int:=(fS c true ms (i+1)).size
theorem szOf_eq(c:Int)(wr:Bool)(ms:List Ar)(i:Nat):(fS c wr ms (i+1)).size=szOf c ms i:=by
 unfold szOf fS;(repeat' split) <;> rfl
theorem hasReg_in{len i:Nat}(h:i<len+2):dM len ((i:Int)+1)=true:=by simp[dM];omega
theorem rowIs_made1(w:World)(o:Obj)(z:Value)(n:Nat)(t:TypeId):((w.alloc o).alloc (.cells (madeCells #[z] n) t)).rowIs (w.heap.size+1) t n (λ _=>z):=by
 have h:=World.rowIs_made (w.alloc o) z n t;rw[World.size_alloc]at h;exact h
structure MemAt(w:World)(mp:Option Addr)(Q:Nat->Option Addr)(C:Nat->Nat)(M:List (List Int)):Prop where
 small:M.length<=140737488351232
 rsmall:∀ i,(M.getD i []).length<=140737488351232
 cells:∀ i,i<M.length->∃ b off,mp=some ⟨b,off,none⟩/\b<w.heap.size/\w.cell? ⟨b,off+i,none⟩=some (.slice (Q i) (M.getD i []).length (C i))/\(M.getD i []).length<=C i/\C i<=9223372036854775807
 rows:∀ i j,i<M.length->j<(M.getD i []).length->∃ b off,Q i=some ⟨b,off,none⟩/\b<w.heap.size/\w.cell? ⟨b,off+j,none⟩=some (.int .u8 ((M.getD i []).getD j 0))
 byte:∀ i j,i<M.length->j<(M.getD i []).length->0<=(M.getD i []).getD j 0/\(M.getD i []).getD j 0<256
theorem MemAt.below{w w':World}{mp:Option Addr}{Q:Nat->Option Addr}{C:Nat->Nat}{M:List (List Int)}(h:MemAt w mp Q C M)(hb:Below w.heap.size w w'):MemAt w' mp Q C M :=
 ⟨h.small,h.rsmall,λ i hi=>by
  obtain⟨b,off,e,hl,hc,h2⟩:=h.cells i hi;exact⟨b,off,e,Nat.lt_of_lt_of_le hl hb.size,(hb.cell (p:=⟨b,off+i,none⟩) hl).trans hc,h2⟩,
 λ i j hi hj=>by
  obtain⟨b,off,e,hl,hc⟩:=h.rows i j hi hj;exact⟨b,off,e,Nat.lt_of_lt_of_le hl hb.size,(hb.cell (p:=⟨b,off+j,none⟩) hl).trans hc⟩,h.byte⟩
def mayB(c:Int)(ms:List Ar)(len:Nat)(M:List (List Int)):Bool :=
 okL c ms && decide (M.length=len+2/\∀ i,i<len+2->((M.getD i []).length:Int)=szOf c ms i)
theorem mayB_true{c:Int}{ms:List Ar}{len:Nat}{M:List (List Int)}(h:mayB c ms len M=true):okL c ms=true/\M.length=len+2/\∀ i,i<len+2->((M.getD i []).length:Int)=szOf c ms i:=by
 simp only[mayB,Bool.and_eq_true,decide_eq_true_eq]at h;exact⟨h.1,h.2.1,h.2.2⟩
theorem mayB_no{c:Int}{ms:List Ar}{len:Nat}{M:List (List Int)}(i:Nat)(hi:i<len+2)(h:((M.getD i []).length:Int)≠szOf c ms i):mayB c ms len M=false:=by
 simp only[mayB,Bool.and_eq_false_iff,decide_eq_false_iff_not];exact .inr λ h'=>h (h'.2 i hi)
theorem szOf_bd{c:Int}{ms:List Ar}{len i:Nat}(hl:len=ms.length)(ho:okL c ms=true)(hi:i<len+2):0<=szOf c ms i/\szOf c ms i<=4096 :=
 areaOf_bd hl ho (hasReg_in hi)
theorem info36:(Tryz.prog.info? 121).map (λ i=>(i.zero,i.size,i.bytes))=some (some (.slice none 0 0),1,24):=by kernel_rfl
theorem info5:(Tryz.prog.info? 5).map (λ i=>(i.zero,i.size,i.bytes))=some (some (.int .u8 0),1,1):=by kernel_rfl
theorem owns_cells{w:World}{base:Nat}{e:TypeId}{v:Value}{n:Nat}{xs:List Value}(h:w.ownsRow base e 1 v n xs)(hn:0<n) :
  ∃ g cap cur,v=.slice (some ⟨g,0,none⟩) n cap/\base<=g/\g<w.heap.size/\n<=cap/\cap<=maxLen/\w.heap[g]?=some (.cells cur e (0,0))/\∀ i x,i<n->xs[i]?=some x->w.cell? ⟨g,i,none⟩=some x:=by
 obtain⟨hl,h|⟨g,cap,cur,hv,hg,hh,h1,h2,h3,h4⟩⟩:=h
 ·omega
 ·refine⟨g,cap,cur,hv,hg,?_,h1,h2,hh,λ i x hi hx=>?_⟩
  ·exact(Array.getElem?_eq_some_iff.1 hh).1
  ·rw[Nat.mul_one]at h4
   rw[<- h4,List.getElem?_take_of_lt hi]at hx;simp only[World.cell?,hh];simpa using hx
structure Rows0(w:World)(Q:Nat->Nat)(Z:Nat->Nat)(k:Nat):Prop where
 row:∀ i,i<k->w.rowIs (Q i) 5 (Z i) (λ _=>.int .u8 0)
def rowV(Q:Nat->Nat)(Z:Nat->Nat)(i:Nat):Value:=.slice (some ⟨Q i,0,none⟩) (Z i) (Z i)
def upd(Q:Nat->Nat)(k b:Nat):Nat->Nat:=λ i=>if i=k then b else Q i
theorem rows_upd(Q Z:Nat->Nat)(k b:Nat):(List.range k).map (rowV (upd Q k b) Z)=(List.range k).map (rowV Q Z):=by
 apply List.map_congr_left;intro i hi;have:i≠k:=by have:=List.mem_range.1 hi;omega
 simp[rowV,upd,this]
theorem rows_snoc(Q Z:Nat->Nat)(k b:Nat):(List.range (k+1)).map (rowV (upd Q k b) Z)=(List.range k).map (rowV Q Z) ++ [.slice (some ⟨b,0,none⟩) (Z k) (Z k)]:=by
 rw[List.range_succ,List.map_append,rows_upd];simp[rowV,upd]
theorem row_ne_own{w:World}{base:Nat}{v:Value}{n:Nat}{xs:List Value}{b m:Nat}{f:Nat->Value}(h:w.ownsRow base 121 1 v n xs)(hr:w.rowIs b 5 m f):some b≠v.ownBlock:=by
 obtain⟨_,⟨rfl,_⟩|⟨g,cap,cur,rfl,_,hh,_⟩⟩:=h
 ·simp[Value.ownBlock]
 ·simp only[Value.ownBlock]
  intro e;injection e with e
  subst e;obtain⟨c,hc,_⟩:=hr;rw[hh]at hc;injection hc with hc
  injection hc with _ hc _
  exact absurd hc (by decide)
theorem Rows0.grown{w w':World}{Q Z:Nat->Nat}{k:Nat}{base:Nat}{v:Value}{n:Nat}{xs:List Value}(h:Rows0 w Q Z k)(ho:w.ownsRow base 121 1 v n xs)(hg:w.grownBy w' v.ownBlock):Rows0 w' Q Z k :=
 ⟨λ i hi=>(h.row i hi).of_block (hg.block _ (h.row i hi).lt (row_ne_own ho (h.row i hi)))⟩
theorem Rows0.alloc{w:World}{Q Z:Nat->Nat}{k:Nat}(h:Rows0 w Q Z k)(o:Obj):Rows0 (w.alloc o) Q Z k:=⟨λ i hi=>(h.row i hi).alloc o⟩
theorem Rows0.snoc{w:World}{Q Z:Nat->Nat}{k b:Nat}(h:Rows0 w Q Z k)(hr:w.rowIs b 5 (Z k) (λ _=>.int .u8 0)):Rows0 w (upd Q k b) Z (k+1) :=
 ⟨λ i hi=>by
  by_cases e:i=k
  ·subst e;simpa[upd]using hr
  ·simpa[upd,e]using h.row i (by omega)⟩
def fN(Z:Nat->Nat)(n:Nat):List (List Int):=(List.range n).map λ i=>List.replicate (Z i) 0
theorem fresh_mem{w:World}{base:Nat}{v:Value}{n:Nat}{Q Z:Nat->Nat}(hn:0<n)(hn8:n<=140737488351232)(hz:∀ i,i<n->Z i<=140737488351232)(h:w.ownsRow base 121 1 v n ((List.range n).map (rowV Q Z)))(hr:Rows0 w Q Z n) :
  ∃ g cap,v=.slice (some ⟨g,0,none⟩) n cap/\MemAt w (some ⟨g,0,none⟩) (λ i=>some ⟨Q i,0,none⟩) Z (fN Z n):=by
 obtain⟨g,cap,cur,hv,_,hg,_,_,hh,hc⟩:=owns_cells h hn;have e1:∀ i,i<n->(fN Z n).getD i []=List.replicate (Z i) 0:=λ i hi=>by simp[fN,hi]
 have e2:(fN Z n).length=n:=by simp[fN]
 refine⟨g,cap,hv,⟨by rw[e2];exact hn8,λ i=>?_,λ i hi=>?_,λ i j hi hj=>?_,λ i j hi hj=>?_⟩⟩
 ·by_cases hi:i<n
  ·rw[e1 i hi];simpa using hz i hi
  ·simp[fN,hi]
 ·rw[e2]at hi
  refine⟨g,0,rfl,hg,?_,?_,Nat.le_trans (hz i hi) (by omega)⟩
  ·rw[e1 i hi,Nat.zero_add]
   have:=hc i (rowV Q Z i) hi (by simp[hi]);simpa[rowV]using this
  ·rw[e1 i hi];simp
 ·rw[e2]at hi
  rw[e1 i hi]at hj ⊢;have hj':j<Z i:=by simpa using hj
  refine⟨Q i,0,rfl,(hr.row i hi).lt,?_⟩;have:=(hr.row i hi).cell hj';simpa[hj']using this
 ·rw[e2]at hi
  rw[e1 i hi]at hj ⊢;have hj':j<Z i:=by simpa using hj
  simp[hj']
theorem cell_one_new'(w:World)(o:Obj)(x:Value)(t:TypeId):∀ j u,[x][j]?=some u->((w.alloc o).alloc (.cells #[x] t)).cell? ((⟨w.heap.size+1,0,none⟩:Addr).add j)=some u:=by
 have h:=cell_one_new (w.alloc o) x t;rw[World.size_alloc]at h;exact h
theorem own_ge{w:World}{base:Nat}{e:TypeId}{size:Nat}{v:Value}{n:Nat}{xs:List Value}(h:w.ownsRow base e size v n xs):∀ k,v.ownBlock=some k->base<=k:=by
 obtain⟨_,⟨rfl,_⟩|⟨g,cap,cur,rfl,hb,_⟩⟩:=h
 ·simp[Value.ownBlock]
 ·intro k hk
  simp[Value.ownBlock]at hk;omega
def zOf(c:Int)(ms:List Ar)(i:Nat):Nat:=(szOf c ms i).toNat
def FreshPost(c:Int)(ms:List Ar)(n:Nat)(w:World)(e:Ending)(w':World):Prop :=
 ∃ g cap Q,e=.returned (.tuple #[.slice (some ⟨g,0,none⟩) n cap,.int .i64 0])/\MemAt w' (some ⟨g,0,none⟩) Q (zOf c ms) (fN (zOf c ms) n)/\Below w.heap.size w w'
structure RowAt(w:World)(q:Option Addr)(xs:List Int):Prop where
 small:xs.length<=140737488351232
 cells:∀ j,j<xs.length->∃ b off,q=some ⟨b,off,none⟩/\b<w.heap.size/\w.cell? ⟨b,off+j,none⟩=some (.int .u8 (xs.getD j 0))
 byte:∀ j,j<xs.length->0<=xs.getD j 0/\xs.getD j 0<256
theorem RowAt.below{w w':World}{q:Option Addr}{xs:List Int}(h:RowAt w q xs)(hb:Below w.heap.size w w'):RowAt w' q xs :=
 ⟨h.small,λ j hj=>by
  obtain⟨b,off,e,hl,hc⟩:=h.cells j hj;exact⟨b,off,e,Nat.lt_of_lt_of_le hl hb.size,(hb.cell (p:=⟨b,off+j,none⟩) hl).trans hc⟩,h.byte⟩
theorem RowAt.alloc{w:World}{q:Option Addr}{xs:List Int}(h:RowAt w q xs)(o:Obj):RowAt (w.alloc o) q xs:=h.below ((Below.refl _ _).alloc (Nat.le_refl _) _)
theorem MemAt.row{w:World}{mp:Option Addr}{Q:Nat->Option Addr}{C:Nat->Nat}{M:List (List Int)}(h:MemAt w mp Q C M){i:Nat}(hi:i<M.length):RowAt w (Q i) (M.getD i []) :=
 ⟨h.rsmall i,λ j hj=>h.rows i j hi hj,λ j hj=>h.byte i j hi hj⟩
def bytesV(xs:List Int):List Value:=xs.map (Value.int .u8)
theorem bytesV_length(xs:List Int):(bytesV xs).length=xs.length:=by simp[bytesV]
theorem bytesV_one(xs:List Int):∀ v∈bytesV xs,v.oneCell'=true:=by
 intro v hv;obtain⟨n,_,rfl⟩:=List.mem_map.1 hv;rfl
theorem RowAt.src{w:World}{q:Option Addr}{xs:List Int}(h:RowAt w q xs)(hp:0<xs.length):∃ ad,q=some ad/\∀ j v,(bytesV xs)[j]?=some v->w.cell? (ad.add j)=some v:=by
 obtain⟨b,off,rfl,_,_⟩:=h.cells 0 hp;refine⟨_,rfl,λ j v hv=>?_⟩
 have hj:j<xs.length:=by
  have:=(List.getElem?_eq_some_iff.1 hv).1
  rwa [bytesV_length]at this
 obtain⟨b',off',e,_,hc⟩:=h.cells j hj;injection e with e
 injection e with e1 e2
 subst e1 e2
 have:v=.int .u8 (xs.getD j 0):=by
  simp[bytesV,hj]at hv;simp[hj,hv]
 rw[this];by_cases h0:j=0
 ·subst h0;simpa[Addr.add]using hc
 ·simpa[Addr.add,h0]using hc
theorem dL(w:World)(o:Obj):(w.alloc o).heap[w.heap.size]?=some o:=by
 show(w.heap.push o)[w.heap.size]?=_;simp
theorem aJ(w:World){cs:Array Value}{t:TypeId}{fr:Nat×Nat}{i:Nat}{v:Value}(h:cs[i]?=some v):(w.alloc (.cells cs t fr)).cell? ⟨w.heap.size,i,none⟩=some v:=by
 simp only[World.cell?,dL];exact h
structure LawW(s:Nat->Addr)(w W:World)(c:Int)(cw:Bool)(q:Option Addr)(len cap:Nat)(ms:List Ar):Prop where
 below:Below w.heap.size w W
 sent:Sent W s
 maps:MapsAt W q len ms
 b0:W.cell? ⟨w.heap.size,0,none⟩=some (.int .i64 c)
 b1:W.cell? ⟨w.heap.size,1,none⟩=some (.bool cw)
 b2:W.cell? ⟨w.heap.size,2,none⟩=some (.slice q len cap)
 size:w.heap.size<W.heap.size
theorem LawW.next{s:Nat->Addr}{w W W':World}{c:Int}{cw:Bool}{q:Option Addr}{len cap:Nat}{ms:List Ar}(h:LawW s w W c cw q len cap ms)(hb:Below W.heap.size W W'):LawW s w W' c cw q len cap ms :=
 ⟨dG h.below hb,h.sent.below hb,h.maps.below hb,(hb.cell (p:=⟨w.heap.size,0,none⟩) h.size).trans h.b0,(hb.cell (p:=⟨w.heap.size,1,none⟩) h.size).trans h.b1,(hb.cell (p:=⟨w.heap.size,2,none⟩) h.size).trans h.b2,Nat.lt_of_lt_of_le h.size hb.size⟩
theorem LawW.drew{s:Nat->Addr}{w W:World}{c:Int}{cw:Bool}{q:Option Addr}{len cap:Nat}{ms:List Ar}(h:LawW s w W c cw q len cap ms):LawW s w W.drew c cw q len cap ms:=h.next (Below.refl _ _).drew
theorem LawW.alloc{s:Nat->Addr}{w W:World}{c:Int}{cw:Bool}{q:Option Addr}{len cap:Nat}{ms:List Ar}(h:LawW s w W c cw q len cap ms)(o:Obj):LawW s w (W.alloc o) c cw q len cap ms:=h.next ((Below.refl _ _).alloc (Nat.le_refl _) o)
theorem LawW.first{s:Nat->Addr}{w:World}{c:Int}{cw:Bool}{q:Option Addr}{len cap:Nat}{ms:List Ar}(hs:Sent w s)(hm:MapsAt w q len ms):LawW s w (w.alloc (.cells #[.int .i64 c,.bool cw,.slice q len cap] 49)) c cw q len cap ms :=
 ⟨(Below.refl _ _).alloc (Nat.le_refl _) _,hs.below ((Below.refl _ _).alloc (Nat.le_refl _) _),hm.alloc _,aJ w rfl,aJ w rfl,aJ w rfl,by simp⟩
theorem may_fresh{c:Int}{ms:List Ar}{len:Nat}(hl:len=ms.length)(ho:okL c ms=true):mayB c ms len (fN (zOf c ms) (len+2))=true:=by
 simp only[mayB,ho,Bool.true_and];refine decide_eq_true ⟨by simp[fN],λ i hi=>?_⟩;have:=szOf_bd hl ho hi;have e:(fN (zOf c ms) (len+2)).getD i []=List.replicate (zOf c ms i) 0:=by simp[fN,hi]
 rw[e,List.length_replicate];unfold zOf;omega
theorem rarea_any(c:Int)(cw:Bool)(q:Option Addr)(len cap:Nat)(ms:List Ar)(r:Int)(w:World)(hm:MapsAt w q len ms) :
  Calls Tryz.prog 45 #[.agg #[.int .i64 c,.bool cw,.slice q len cap],.int .i64 r] w λ e w' =>
   e=.returned (.tuple #[.agg #[.int .i64 (fB c cw ms len r).size,.bool (fB c cw ms len r).write],.bool (fT c ms len r)])/\Below w.heap.size w w':=by
 have HM:=aQ hm;have hsm:=hm.small;have hlen:=hm.hlen;clear hm;cases ho:okL c ms
 ·have e1:fB c cw ms len r=gQ:=by simp[fB,ho]
  have e2:fT c ms len r=false:=by simp[fT,ho]
  rw[e1,e2];have HO:=aQ ho;clear e1 e2 ho hlen;go_enter Tryz.func45,Tryz.ntmps45
  go_wp2_with (go_at_call 44;refine(eD _ _ _ _ _ ms _ ((HM.out.alloc _).alloc _) HO.out).mono ?_;rw[chk_false];rintro e w1 ⟨rfl,hb⟩;obtain⟨hc,hf⟩:=eG hb;obtain⟨hy,hz⟩:=two_in hb)
  refine bodyPost_ret (v:=.tuple #[.agg #[.int .i64 0,.bool false],.bool false]) (by simp[results,Tryz.results45,go_sem,hc]) rfl ⟨rfl,?_⟩;exact(eS hb).setCell (by simp) _ |>.setCell (by simp) _
 ·have HO:=aQ ho
  by_cases h1:r=1
  ·subst h1
   have e1:fB c cw ms len 1=⟨c,cw⟩:=by
    have:dM len 1=true:=by simp[dM];omega
    simp[fB,ho,this,fS]
   have e2:fT c ms len 1=true:=by
    have:dM len 1=true:=by simp[dM];omega
    simp[fT,ho,this]
   rw[e1,e2];clear e1 e2 ho hlen;go_enter Tryz.func45,Tryz.ntmps45
   go_wp2_with (go_at_call 44;refine(eD _ _ _ _ _ ms _ ((HM.out.alloc _).alloc _) HO.out).mono ?_;rw[fP];rintro e w1 ⟨rfl,hb⟩;obtain⟨hc,hf⟩:=eG hb;obtain⟨hy,hz⟩:=two_in hb)
   refine bodyPost_ret (v:=.tuple #[.agg #[.int .i64 c,.bool cw],.bool true]) (by simp[results,Tryz.results45,go_sem,hc]) rfl ⟨rfl,?_⟩;exact(eS hb).setCell (by simp) _ |>.setCell (by simp) _
  ·by_cases h2:r=2
   ·subst h2
    have e1:fB c cw ms len 2=⟨512,true⟩:=by
     have:dM len 2=true:=by simp[dM];omega
     simp[fB,ho,this,fS]
    have e2:fT c ms len 2=true:=by
     have:dM len 2=true:=by simp[dM];omega
     simp[fT,ho,this]
    rw[e1,e2];clear e1 e2 ho hlen h1;go_enter Tryz.func45,Tryz.ntmps45
    go_wp2_with (go_at_call 44;refine(eD _ _ _ _ _ ms _ ((HM.out.alloc _).alloc _) HO.out).mono ?_;rw[fP];rintro e w1 ⟨rfl,hb⟩;obtain⟨hc,hf⟩:=eG hb;obtain⟨hy,hz⟩:=two_in hb)
    refine bodyPost_ret (v:=.tuple #[.agg #[.int .i64 512,.bool true],.bool true]) (by simp[results,Tryz.results45,go_sem,hc]) rfl ⟨rfl,?_⟩;exact(eS hb).setCell (by simp) _ |>.setCell (by simp) _
   ·by_cases h3:3<=r
    ·by_cases h4:r<3+(len:Int)
     ·have hR:dM len r=true:=by simp[dM];omega
      have e1:fB c cw ms len r=ms.getD (r - 3).toNat gQ:=by simp[fB,ho,hR,fS,h1,h2]
      have e2:fT c ms len r=true:=by simp[fT,ho,hR]
      rw[e1,e2];obtain⟨k,hk⟩:∃ k:Nat,r=(k:Int)+3:=⟨(r - 3).toNat,by omega⟩;subst hk;have e3:((k:Int)+3 - 3).toNat=k:=by omega
      rw[e3];have hkl:k<len:=by omega
      obtain⟨b,off,rfl,hbl,c1,c2⟩:=HM.out.cells k (by omega);generalize ms.getD k gQ=v at c1 c2;have HC1:=aQ c1;have HC2:=aQ c2;clear e1 e2 e3 ho hlen hR c1 c2;go_enter Tryz.func45,Tryz.ntmps45
      go_wp2_with (go_at_call 44;refine(eD _ _ _ _ _ ms _ ((HM.out.alloc _).alloc _) HO.out).mono ?_;rw[fP];rintro e w1 ⟨rfl,hb⟩;obtain⟨hc,hf⟩:=eG hb;obtain⟨hy,hz⟩:=two_in hb;have d1:=((eS hb).cell (p:=⟨b,off+k*2,none⟩) hbl).trans HC1.out;have d2:=((eS hb).cell (p:=⟨b,off+k*2+1,none⟩) hbl).trans HC2.out;have hcz:=hc w.heap.size;clear hbl)
      refine bodyPost_ret (v:=.tuple #[.agg #[.int .i64 v.size,.bool v.write],.bool true]) (by simp[results,Tryz.results45,go_sem,hc]) rfl ⟨rfl,?_⟩;exact(eS hb).setCell (by simp) _ |>.setCell (by simp) _
     ·have hR:dM len r=false:=by simp[dM];omega
      have e1:fB c cw ms len r=gQ:=by simp[fB,hR]
      have e2:fT c ms len r=false:=by simp[fT,hR]
      rw[e1,e2];clear e1 e2 ho hlen hR;go_enter Tryz.func45,Tryz.ntmps45
      go_wp2_with (go_at_call 44;refine(eD _ _ _ _ _ ms _ ((HM.out.alloc _).alloc _) HO.out).mono ?_;rw[fP];rintro e w1 ⟨rfl,hb⟩;obtain⟨hc,hf⟩:=eG hb;obtain⟨hy,hz⟩:=two_in hb)
      refine bodyPost_ret (v:=.tuple #[.agg #[.int .i64 0,.bool false],.bool false]) (by simp[results,Tryz.results45,go_sem,hc]) rfl ⟨rfl,?_⟩;exact(eS hb).setCell (by simp) _ |>.setCell (by simp) _
    ·have hR:dM len r=false:=by simp[dM];omega
     have e1:fB c cw ms len r=gQ:=by simp[fB,hR]
     have e2:fT c ms len r=false:=by simp[fT,hR]
     rw[e1,e2];clear e1 e2 ho hlen hR;go_enter Tryz.func45,Tryz.ntmps45
     go_wp2_with (go_at_call 44;refine(eD _ _ _ _ _ ms _ ((HM.out.alloc _).alloc _) HO.out).mono ?_;rw[fP];rintro e w1 ⟨rfl,hb⟩;obtain⟨hc,hf⟩:=eG hb;obtain⟨hy,hz⟩:=two_in hb)
     refine bodyPost_ret (v:=.tuple #[.agg #[.int .i64 0,.bool false],.bool false]) (by simp[results,Tryz.results45,go_sem,hc]) rfl ⟨rfl,?_⟩;exact(eS hb).setCell (by simp) _ |>.setCell (by simp) _
theorem rarea_sz{c:Int}{cw:Bool}{ms:List Ar}{i:Nat}(q:Option Addr)(len cap:Nat)(w:World)(hm:MapsAt w q len ms)(ho:okL c ms=true)(hi:i<len+2) :
  Calls Tryz.prog 45 #[.agg #[.int .i64 c,.bool cw,.slice q len cap],.int .i64 ((i:Int)+1)] w λ e w' =>
   (∃ b,e=.returned (.tuple #[.agg #[.int .i64 (szOf c ms i),.bool b],.bool true]))/\Below w.heap.size w w':=by
 have h1:fB c cw ms len ((i:Int)+1)=fS c cw ms ((i:Int)+1):=by simp[fB,ho,hasReg_in hi]
 have h2:fT c ms len ((i:Int)+1)=true:=by simp[fT,ho,hasReg_in hi]
 have h:=rarea_any c cw q len cap ms ((i:Int)+1) w hm;rw[h1,h2,szOf_eq]at h;exact h.mono λ e w' ⟨h1,h2⟩=>⟨⟨_,h1⟩,h2⟩
theorem rmay_any(s:Nat->Addr)(c:Int)(cw:Bool)(q:Option Addr)(len cap:Nat)(ms:List Ar)(mp:Option Addr)(mc:Nat)(Q:Nat->Option Addr)(C:Nat->Nat)(M:List (List Int))(w:World)(hs:Sent w s)(hm:MapsAt w q len ms)(hM:MemAt w mp Q C M) :
  Calls Tryz.prog 34 #[.agg #[.int .i64 c,.bool cw,.slice q len cap],.slice mp M.length mc] w λ e w' =>
   e=.returned (.bool (mayB c ms len M))/\Below w.heap.size w w':=by
 have H0:=aQ (LawW.first (c:=c) (cw:=cw) (cap:=cap) hs hm);have HMM:=aQ hM;have hlen:=hm.hlen;have hls:=hm.small;have hsm:=hM.small;have HCK:=aQ (λ W hm=>dP c cw q len cap ms W hm);obtain⟨K,hK⟩:∃ K,M.length=K:=⟨_,rfl⟩;rw[hK]at hsm ⊢;cases ho:okL c ms
 ·have HR:mayB c ms len M=false:=by simp[mayB,ho]
  rw[HR];rw[ho,chk_false]at HCK;clear HR ho hK hlen hs hm hM;go_enter Tryz.func34,Tryz.ntmps34
  go_wp2_with (go_at_call 44;refine(HCK.out _ H0.out.maps).mono ?_;rintro e w1 ⟨rfl,hb⟩;have H1:=aQ (H0.out.next hb);clear hb)
  go_ret;exact⟨rfl,H1.out.below⟩
 ·rw[ho,fP]at HCK
  have hl8:len<=8:=by have:=(okL_parts ho).2.1;omega
  have HO:=aQ ho;by_cases hKL:K=len+2
  ·have HSB:=aQ (λ i hi=>szOf_bd (i:=i) hlen HO.out hi)
   have hkl:K<=len+2:=by omega
   have hkl2:len+2<=K:=by omega
   have hk1:((K:Int) != 2+(len:Int))=false:=by simp;omega
   have HKL:=aQ hKL;have HKK:=aQ hK;clear hKL hK ho hlen hs hm hM;go_enter Tryz.func34,Tryz.ntmps34
   go_wp2_with (go_at_call 44;refine(HCK.out _ H0.out.maps).mono ?_;rintro e w1 ⟨rfl,hb⟩;have H1:=aQ (H0.out.next hb);have k0:=H1.out.b0;have k1:=H1.out.b1;have k2:=H1.out.b2;clear hb)
   clear k0 k1 k2
   go_loopw [5] (λ i wr=>∃ k:Nat,k<=K/\i=.int .i64 k/\Hid (∀ i,i<k->((M.getD i []).length:Int)=szOf c ms i)/\Hid (LawW s w wr c cw q len cap ms)) (λ i _=>K - (intOf i).toNat)
   case atStart=>exact⟨0,Nat.zero_le _,rfl,(λ i hi=>absurd hi (Nat.not_lt_zero _)),H1.out⟩
   case round =>
    obtain⟨k,hk,rfl,HE,HW⟩:=hrel;by_cases hlt:k<K
    ·have hkl3:k<len+2:=by omega
     obtain⟨b,off,rfl,hbl,g1,_,_⟩:=HMM.out.cells k (by rw[HKK.out];omega);have hkb:=HMM.out.rsmall k;obtain⟨L,hL⟩:∃ L,(M.getD k []).length=L:=⟨_,rfl⟩;rw[hL]at g1 hkb;have HAR:=aQ (λ W hm=>rarea_sz (c:=c) (cw:=cw) (ms:=ms) q len cap W hm HO.out hkl3);obtain⟨z,hz'⟩:∃ z,szOf c ms k=z:=⟨_,rfl⟩;rw[hz']at HAR;have HL:=aQ hL;have HZ:=aQ hz';have HG1:=aQ g1;have k0:=HW.out.b0;have k1:=HW.out.b1;have k2:=HW.out.b2;clear hL hz' g1;go_wp2_with fail
     refine(HAR.out _ HW.out.maps).mono ?_;rintro e w3 ⟨⟨bb,rfl⟩,hb⟩;have H3:=aQ (λ o=>(HW.out.next hb).alloc o);have d1:∀ o,(w3.alloc o).cell? ⟨b,off+k,none⟩=some (.slice (Q k) L (C k)):=λ o=>((H3.out o).below.cell (p:=⟨b,off+k,none⟩) hbl).trans HG1.out
     clear hb k0 k1 k2;go_wp2_with fail
     by_cases heq:(L:Int)=z
     ·have t1:((L:Int) != z)=false:=by simp[heq]
      have HEQ:=aQ heq;clear heq;go_region
      all_goals
       go_wp2
       go_roundw
       case rel =>
        refine⟨k+1,by omega,by go_num,(λ i hi=>?_),(H3.out _).drew⟩;by_cases h:i<k
        ·exact HE.out i h
        ·have:i=k:=by omega
         subst this;rw[HL.out,HZ.out];exact HEQ.out
       case measure=>simp[intOf];omega
     ·have t1:((L:Int) != z)=true:=by simp[heq]
      have HEQ:=aQ heq;clear heq;go_region
      all_goals
       go_wp2
       go_ret;exact⟨eW (mayB_no k hkl3 (by rw[HL.out,HZ.out];exact HEQ.out)).symm,(H3.out _).drew.below⟩
    ·go_wp2
     go_ret;refine⟨eW ?_,HW.out.below⟩;have:len+2<=k:=by omega
     simp only[mayB,HO.out,Bool.true_and];exact(decide_eq_true ⟨by rw[HKK.out];exact HKL.out,λ i hi=>HE.out i (by omega)⟩).symm
  ·have HR:mayB c ms len M=false:=by
    simp only[mayB,Bool.and_eq_false_iff,decide_eq_false_iff_not];exact .inr λ h'=>hKL (hK ▸ h'.1)
   rw[HR];have t1:((K:Int) != 2+(len:Int))=true:=by simp;omega
   clear hKL hK ho hlen HR hs hm hM;go_enter Tryz.func34,Tryz.ntmps34
   go_wp2_with (go_at_call 44;refine(HCK.out _ H0.out.maps).mono ?_;rintro e w1 ⟨rfl,hb⟩;have H1:=aQ (H0.out.next hb);have k0:=H1.out.b0;have k1:=H1.out.b1;have k2:=H1.out.b2;clear hb)
   go_ret;exact⟨rfl,H1.out.below⟩
theorem rfresh_bad(c:Int)(cw:Bool)(q:Option Addr)(len cap:Nat)(ms:List Ar)(w:World)(hm:MapsAt w q len ms)(ho:okL c ms=false) :
  Calls Tryz.prog 14 #[.agg #[.int .i64 c,.bool cw,.slice q len cap]] w λ e w'=>e=.returned (.tuple #[.slice none 0 0,.int .i64 22])/\Below w.heap.size w w':=by
 have HM:=aQ hm;have HO:=aQ ho;clear hm ho;go_enter Tryz.func14,Tryz.ntmps14
 go_wp2_with (go_at_call 44;refine(eD _ _ _ _ _ ms _ (HM.out.alloc _) HO.out).mono ?_;rintro e w1 ⟨rfl,hb⟩;rw[chk_false];obtain⟨hc,hf⟩:=eG hb;have hz:=one_in hb)
 go_ret2;exact⟨rfl,bR hb⟩
theorem cell_one_new3(w:World)(o1 o2:Obj)(x:Value)(t:TypeId):∀ j u,[x][j]?=some u->(((w.alloc o1).alloc o2).alloc (.cells #[x] t)).cell? ((⟨w.heap.size+1+1,0,none⟩:Addr).add j)=some u:=by
 have h:=cell_one_new' (w.alloc o1) o2 x t;rw[World.size_alloc]at h;exact h
theorem ownsRow_to{base:Nat}{e:TypeId}{size n:Nat}{v:Value}{xs:List Value}{w w':World}(h:w.ownsRow base e size v n xs)(hb:Below w.heap.size w w'):w'.ownsRow base e size v n xs:=by
 obtain⟨hl,h|⟨g,cap,cur,hv,hg,hh,r⟩⟩:=h
 ·exact⟨hl,.inl h⟩
 ·exact⟨hl,.inr ⟨g,cap,cur,hv,hg,(hb.block g (Array.getElem?_eq_some_iff.1 hh).1).trans hh,r⟩⟩
theorem Rows0.to{w w':World}{Q Z:Nat->Nat}{k:Nat}(h:Rows0 w Q Z k)(hb:Below w.heap.size w w'):Rows0 w' Q Z k:=⟨λ i hi=>rowIs_below (h.row i hi) hb (h.row i hi).lt⟩
theorem rfresh_ok(s:Nat->Addr)(c:Int)(cw:Bool)(q:Option Addr)(len cap:Nat)(ms:List Ar)(w:World)(hs:Sent w s)(hm:MapsAt w q len ms)(ho:okL c ms=true) :
  Calls Tryz.prog 14 #[.agg #[.int .i64 c,.bool cw,.slice q len cap]] w (FreshPost c ms (len+2) w):=by
 have H0:=aQ (LawW.first (c:=c) (cw:=cw) (cap:=cap) hs hm);have HO:=aQ ho;have HCK:=aQ (λ W hm=>eD c cw q len cap ms W hm ho);have hl8:len<=8:=by have:=(okL_parts ho).2.1;have:=hm.hlen;omega
 have HSB:=aQ (λ i hi=>szOf_bd (i:=i) hm.hlen ho hi);obtain⟨i36,h36,g36,s36,b36⟩:=info_parts info36;have H36:=aQ h36;have G36:=aQ g36;have S36:=aQ s36;have B36:=aQ b36;have HMK:=aQ (λ (N:Nat) (hN:N<=4096) W=>run_make_row' (P:=Tryz.prog) 121 5 (.int .u8 0) 1 Tryz.underlying121 info5 rfl .i64 .i64 N (by omega) (by omega) W);clear hm ho hs h36 g36 s36 b36;go_enter Tryz.func14,Tryz.ntmps14
 go_wp2_with (go_at_call 44;refine(HCK.out _ H0.out.maps).mono ?_;rw[fP];rintro e w1 ⟨rfl,hb⟩;have H1:=aQ (H0.out.next hb);have k0:=H1.out.b0;have k1:=H1.out.b1;have k2:=H1.out.b2;clear hb)
 clear k0 k1 k2
 go_loopw [4,5] (λ v i wr=>∃ (k:Nat) (Q:Nat->Nat),k<=len+2/\i=.int .i64 k/\Hid (LawW s w wr c cw q len cap ms)/\Below w1.heap.size w1 wr/\wr.ownsRow w1.heap.size 121 1 v k ((List.range k).map (rowV Q (zOf c ms)))/\Rows0 wr Q (zOf c ms) k) (λ _ i _=>(len+2) - (intOf i).toNat)
 case atStart=>exact⟨0,λ _=>0,Nat.zero_le _,rfl,H1.out,Below.refl _ _,⟨rfl,.inl ⟨rfl,rfl⟩⟩,⟨λ i hi=>absurd hi (Nat.not_lt_zero _)⟩⟩
 case round =>
  obtain⟨k,Q,hk,rfl,HW,hbr,hown,hrows⟩:=hrel;by_cases hlt:k<len+2
  ·have hZ:=HSB.out k hlt
   have HAR:=aQ (λ W hm=>rarea_sz (c:=c) (cw:=cw) (ms:=ms) q len cap W hm HO.out hlt);obtain⟨z,hz1⟩:∃ z:Nat,szOf c ms k=z:=⟨(szOf c ms k).toNat,by omega⟩;have hz2:zOf c ms k=z:=by unfold zOf;rw[hz1];simp
   rw[hz1]at HAR;have hz4:z<=4096:=by omega
   have hmk:=HMK.out z hz4;have HZ2:=aQ hz2;have HOWN:=aQ hown;have HRS:=aQ hrows;have k0:=HW.out.b0;have k1:=HW.out.b1;have k2:=HW.out.b2;clear hz1 hz2 hZ hown hrows;go_wp2_with fail
   refine(HAR.out _ HW.out.maps).mono ?_;rintro e w3 ⟨⟨bb,rfl⟩,hb⟩;have H3:=aQ (λ o=>(HW.out.next hb).alloc o);have hbr3:=dG hbr hb;have HOWN3:=aQ (ownsRow_to HOWN.out hb);have HRS3:=aQ (HRS.out.to hb);clear hb k0 k1 k2;go_wp2_with (at_builtin;refine wpList_append_own _ rfl (.tmp 26) (.tmp 30) 51 rfl w1.heap.size 121 i36 _ 1 24 Tryz.underlying51 H36.out G36.out S36.out B36.out rfl (by decide) _ _ _ rfl (((HOWN3.out.alloc _).alloc _).alloc _) ⟨w3.heap.size+1+1,0,none⟩ 1 1 [.slice (some ⟨w3.heap.size+1,0,none⟩) z z] rfl rfl ?c1 ?c2 ?c3 ?c4 ?c5 ?_)
   case c1=>exact cell_one_new3 _ _ _ _ _
   case c2=>simp[Value.oneCell']
   case c3=>simp only[maxLen];omega
   case c4=>omega
   case c5=>have:=hbr3.size;simp;omega
   intro v' w4 hown' hg _;have hb4:=(((hbr3.alloc hbr3.size (.cells #[.int .i64 z,.bool bb] 46)).alloc (by have:=hbr3.size;simp;omega) (.cells (madeCells #[.int .u8 0] z) 5)).alloc (by have:=hbr3.size;simp;omega) (.cells #[.slice (some ⟨w3.heap.size+1,0,none⟩) z z] 121)).grown hg (by have:=hbr3.size;simp;omega) (own_ge HOWN.out);have hr4:=((((HRS3.out.alloc (.cells #[.int .i64 z,.bool bb] 46)).alloc (.cells (madeCells #[.int .u8 0] z) 5)).alloc (.cells #[.slice (some ⟨w3.heap.size+1,0,none⟩) z z] 121)).snoc (b:=w3.heap.size+1) (by rw[HZ2.out];exact(rowIs_made1 w3 _ (.int .u8 0) z 5).alloc _)).grown (((HOWN3.out.alloc _).alloc _).alloc _) hg;have HO4:=aQ hown';have HR4:=aQ hr4;clear hown' hr4 hg;go_wp2
   go_roundw
   case rel =>
    refine⟨k+1,upd Q k (w3.heap.size+1),by omega,by go_num,H1.out.next hb4,hb4,?_,HR4.out⟩;rw[rows_snoc,HZ2.out];exact HO4.out
   case measure=>simp[intOf];omega
  ·have HOWN:=aQ hown
   have HRS:=aQ hrows;have k0:=HW.out.b0;have k1:=HW.out.b1;have k2:=HW.out.b2;clear hown hrows;go_wp2
   go_ret2;have hkl:k=len+2:=by omega
   subst hkl;obtain⟨g,cap',hv,hmem⟩:=fresh_mem (by omega) (by omega) (λ i hi=>by have:=HSB.out i hi;unfold zOf;omega) HOWN.out HRS.out;exact⟨g,cap',_,by rw[hv];rfl,hmem,HW.out.below⟩
end Go.Proofs.YtkfahppdklecdaaGreatDoor.K
