import Derived.Test.YtkfahppdklecdaaGreatDoorZ03
set_option maxRecDepth 100000
set_option maxHeartbeats 16000000
namespace Go.Proofs.YtkfahppdklecdaaGreatDoor
open Go.RowKit M
def rwideB(x:In):Bool:=(inB x.dst 0 9 && ((x.off == 0) && inB x.imm (-2147483648) 2147483647)) && (if x.src=1 then inB x.imm 0 7 && (x.wide == x.imm)else (x.src == 0) && (x.imm % 4294967296 == x.wide % 4294967296))
theorem belowN{w:World}{o:Obj}(n:Nat):Below w.heap.size w ((w.alloc o).drewN n):=below_drewN b1 n
theorem rwide_any(x:In)(hx:Bd x)(w:World):Calls Tryz.prog 64 #[.agg #[.int .i64 x.op,.int .i64 x.dst,.int .i64 x.src,.int .i64 x.off,.int .i64 x.imm,.int .u64 x.wide]] w λ e w'=>e=.returned (.bool (rwideB x))/\Below w.heap.size w w':=by
 unfold rwideB;obtain⟨hw0,hw1⟩:=hx.wide;obtain⟨hi0,hi1⟩:=hx.imm;clear hx;cases v1:inB x.dst 0 9
 case false =>
  simp only[Bool.false_and];go_enter Tryz.func64,Tryz.ntmps64
  go_wp2_with (go_at_call 63;refine(bS _ _ _ _).mono ?_;rintro e w1 ⟨rfl,rfl⟩)
  go_ret;exact⟨rfl,b1⟩
 cases v2:x.off == 0
 case false =>
  have v2':(x.off != 0)=true:=by simp at v2 ⊢;exact v2
  simp only[Bool.false_and,Bool.and_false];go_enter Tryz.func64,Tryz.ntmps64
  go_wp2_with (go_at_call 63;refine(bS _ _ _ _).mono ?_;rintro e w1 ⟨rfl,rfl⟩)
  go_ret;exact⟨rfl,b1⟩
 have v2':(x.off != 0)=false:=by simp at v2 ⊢;exact v2
 cases v3:inB x.imm (-2147483648) 2147483647
 case false =>
  simp only[Bool.false_and,Bool.and_false];go_enter Tryz.func64,Tryz.ntmps64
  go_wp2_with (go_at_call 63;refine(bS _ _ _ _).mono ?_;rintro e w1 ⟨rfl,rfl⟩)
  go_ret;exact⟨rfl,b1⟩
 simp only[Bool.true_and];obtain⟨S,hS⟩:∃ S,x.src=S:=⟨_,rfl⟩;rw[hS];clear hS;by_cases h1:S=1
 ·rw[if_pos h1]
  subst h1;cases v:inB x.imm 0 7
  case false =>
   simp only[Bool.false_and];go_enter Tryz.func64,Tryz.ntmps64
   go_wp2_with (go_at_call 63;refine(bS _ _ _ _).mono ?_;rintro e w1 ⟨rfl,rfl⟩)
   go_ret;exact⟨rfl,b1⟩
  case true =>
   simp only[Bool.true_and];obtain⟨m0,m7⟩:=dW.1 v;go_enter Tryz.func64,Tryz.ntmps64
   go_wp2_with (go_at_call 63;refine(bS _ _ _ _).mono ?_;rintro e w1 ⟨rfl,rfl⟩)
   go_ret;exact⟨eW (by simp),b1⟩
 rw[if_neg h1];have g1:(S == 1)=false:=by simpa using h1
 have HI:=aQ (λ W=>rimm_no x.imm W hi0 hi1);clear h1;by_cases h0:S=0
 ·subst h0
  clear g1;simp only[BEq.rfl,Bool.true_and];go_enter Tryz.func64,Tryz.ntmps64
  go_wp2_with (go_at_call 63;refine(bS _ _ _ _).mono ?_;rintro e w1 ⟨rfl,rfl⟩)
  go_quiet ((go_at_call 107;exact Calls.quiet_of_same ((HI.out _).mono λ _ _ ⟨h1,h2⟩=>⟨h1,h2.symm⟩)))
  go_wp2
  go_ret;exact⟨rfl,belowN _⟩
 ·have g0:(S == 0)=false:=by simpa using h0
  clear h0;rw[g0];simp only[Bool.false_and];go_enter Tryz.func64,Tryz.ntmps64
  go_wp2_with (go_at_call 63;refine(bS _ _ _ _).mono ?_;rintro e w1 ⟨rfl,rfl⟩)
  go_quiet ((go_at_call 107;exact Calls.quiet_of_same ((HI.out _).mono λ _ _ ⟨h1,h2⟩=>⟨h1,h2.symm⟩)))
  go_wp2
  go_ret;exact⟨rfl,belowN _⟩
theorem ralu_yes(op:Int)(w:World)(h0:-9223372036854775808<=op)(h1:op<=9223372036854775807)(h:aluB op=true):Calls Tryz.prog 59 #[.int .i64 op] w λ e w'=>e=.returned (.tuple #[.int .i64 (op - op % 16),.bool (decide (op % 8=7)),.bool true])/\w=w':=by
 have:=ralu_any op w h0 h1;unfold AluP at this;rw[h]at this;exact this
theorem ralu_no(op:Int)(w:World)(h0:-9223372036854775808<=op)(h1:op<=9223372036854775807)(h:aluB op=false):Calls Tryz.prog 59 #[.int .i64 op] w λ e w'=>e=.returned (.tuple #[.int .i64 0,.bool false,.bool false])/\w=w':=by
 have:=ralu_any op w h0 h1;unfold AluP at this;rw[h]at this;exact this
theorem rjump_yes(op:Int)(w:World)(h0:-9223372036854775808<=op)(h1:op<=9223372036854775807)(h:jmpB op=true):Calls Tryz.prog 60 #[.int .i64 op] w λ e w'=>e=.returned (.tuple #[.int .i64 (op - op % 16),.bool (decide (op % 8=5)),.bool true])/\w=w':=by
 have:=rjump_any op w h0 h1;unfold JmpP at this;rw[h]at this;exact this
theorem rjump_no(op:Int)(w:World)(h0:-9223372036854775808<=op)(h1:op<=9223372036854775807)(h:jmpB op=false):Calls Tryz.prog 60 #[.int .i64 op] w λ e w'=>e=.returned (.tuple #[.int .i64 0,.bool false,.bool false])/\w=w':=by
 have:=rjump_any op w h0 h1;unfold JmpP at this;rw[h]at this;exact this
def rinsB(x:In):Bool :=
 if aluB x.op=true then raluB x (x.op - x.op % 16) (decide (x.op % 8=7))
 else if jmpB x.op=true then fieldsB x 10 (rg x.op) true (!rg x.op)
 else if x.op=5 then fieldsB x 0 false true false
 else if x.op=133 then fieldsB x 0 false false true && inB x.imm 1 5
 else if x.op=149 then fieldsB x 0 false false false
 else if x.op=24 then rwideB x
 else if dJ x.op=0 then false
 else if x.op % 8=1 then fieldsB x 9 true true false
 else if x.op % 8=2 then fieldsB x 10 false true true
 else fieldsB x 10 true true false
theorem rins_any(x:In)(hx:Bd x)(w:World):Calls Tryz.prog 21 #[.agg #[.int .i64 x.op,.int .i64 x.dst,.int .i64 x.src,.int .i64 x.off,.int .i64 x.imm,.int .u64 x.wide]] w λ e w'=>e=.returned (.bool (rinsB x))/\Below w.heap.size w w':=by
 unfold rinsB;obtain⟨h0,h1⟩:=hx.op;have HW:=aQ (λ W=>rwide_any x hx W);clear hx;have HF:=aQ (λ d s o i W=>fO x d s o i W);cases ha:aluB x.op
 case true =>
  rw[if_pos rfl];have hj:jmpB x.op=false:=by rw[jmpB_false];have:=aluB_true.1 ha;omega
  have HA:=aQ (λ W=>ralu_yes x.op W h0 h1 ha);have HJ:=aQ (λ W=>rjump_no x.op W h0 h1 hj);have HM:=aQ (λ W=>ralu_go x (x.op - x.op % 16) (decide (x.op % 8=7)) W);generalize decide (x.op % 8=7)=wd at *;generalize x.op - x.op % 16=H at *;generalize raluB x H wd=v at *;clear ha hj h0 h1;go_enter Tryz.func21,Tryz.ntmps21
  go_wp2_with (first
   | (go_at_call 59;refine(HA.out _).mono ?_;rintro e w1 ⟨rfl,rfl⟩)
   | (go_at_call 60;refine(HJ.out _).mono ?_;rintro e w1 ⟨rfl,rfl⟩)
   | (go_at_call 61;refine(HM.out _).mono ?_;rintro e w1 ⟨rfl,hb⟩;have B:=aQ (bR hb);clear hb))
  go_ret;exact⟨rfl,B.out⟩
 rw[if_neg (by simp)];have HA:=aQ (λ W=>ralu_no x.op W h0 h1 ha);clear ha;cases hj:jmpB x.op
 case true =>
  rw[if_pos rfl];have HJ:=aQ (λ W=>rjump_yes x.op W h0 h1 hj);generalize decide (x.op % 8=5)=wd at *;clear hj h0 h1;cases hr:rg x.op
  all_goals
   have hand:=andb hr;simp only[if_true,Bool.false_eq_true,if_false]at hand;generalize x.op - x.op % 16=H at *;clear hr;go_enter Tryz.func21,Tryz.ntmps21
   go_wp2_with (first
    | (go_at_call 59;refine(HA.out _).mono ?_;rintro e w1 ⟨rfl,rfl⟩)
    | (go_at_call 60;refine(HJ.out _).mono ?_;rintro e w1 ⟨rfl,rfl⟩)
    | (go_at_call 62;refine(HF.out _ _ _ _ _).mono ?_;rintro e w1 ⟨rfl,hb⟩;have B:=aQ (bR hb);clear hb))
   go_ret;exact⟨rfl,B.out⟩
 rw[if_neg (by simp)];have HJ:=aQ (λ W=>rjump_no x.op W h0 h1 hj);clear hj h0 h1;by_cases e5:x.op=5
 ·rw[if_pos e5]
  have g5:(x.op == 5)=true:=by simpa using e5
  clear e5;go_enter Tryz.func21,Tryz.ntmps21
  go_wp2_with (first
   | (go_at_call 59;refine(HA.out _).mono ?_;rintro e w1 ⟨rfl,rfl⟩)
   | (go_at_call 60;refine(HJ.out _).mono ?_;rintro e w1 ⟨rfl,rfl⟩)
   | (go_at_call 62;refine(HF.out _ _ _ _ _).mono ?_;rintro e w1 ⟨rfl,hb⟩;have B:=aQ (bR hb);clear hb))
  go_ret;exact⟨rfl,B.out⟩
 rw[if_neg e5];have g5:(x.op == 5)=false:=by simpa using e5
 clear e5;by_cases e133:x.op=133
 ·rw[if_pos e133]
  have g133:(x.op == 133)=true:=by simpa using e133
  clear e133;have HG:=aQ (λ W=>fO x 0 false false true W);generalize fieldsB x 0 false false true=v at *;cases v
  all_goals
   simp only[Bool.false_and,Bool.true_and];go_enter Tryz.func21,Tryz.ntmps21
   go_wp2_with (first
    | (go_at_call 59;refine(HA.out _).mono ?_;rintro e w1 ⟨rfl,rfl⟩)
    | (go_at_call 60;refine(HJ.out _).mono ?_;rintro e w1 ⟨rfl,rfl⟩)
    | (go_at_call 63;refine(bS _ _ _ _).mono ?_;rintro e w1 ⟨rfl,rfl⟩)
    | (go_at_call 62;refine(HG.out _).mono ?_;rintro e w1 ⟨rfl,hb⟩;have B:=aQ (bR hb);obtain⟨hc,hf⟩:=eG hb;clear hb))
   go_ret;exact⟨rfl,B.out⟩
 rw[if_neg e133];have g133:(x.op == 133)=false:=by simpa using e133
 clear e133;by_cases e149:x.op=149
 ·rw[if_pos e149]
  have g149:(x.op == 149)=true:=by simpa using e149
  clear e149;go_enter Tryz.func21,Tryz.ntmps21
  go_wp2_with (first
   | (go_at_call 59;refine(HA.out _).mono ?_;rintro e w1 ⟨rfl,rfl⟩)
   | (go_at_call 60;refine(HJ.out _).mono ?_;rintro e w1 ⟨rfl,rfl⟩)
   | (go_at_call 62;refine(HF.out _ _ _ _ _).mono ?_;rintro e w1 ⟨rfl,hb⟩;have B:=aQ (bR hb);clear hb))
  go_ret;exact⟨rfl,B.out⟩
 rw[if_neg e149];have g149:(x.op == 149)=false:=by simpa using e149
 clear e149;by_cases e24:x.op=24
 ·rw[if_pos e24]
  have g24:(x.op == 24)=true:=by simpa using e24
  clear e24;go_enter Tryz.func21,Tryz.ntmps21
  go_wp2_with (first
   | (go_at_call 59;refine(HA.out _).mono ?_;rintro e w1 ⟨rfl,rfl⟩)
   | (go_at_call 60;refine(HJ.out _).mono ?_;rintro e w1 ⟨rfl,rfl⟩)
   | (go_at_call 64;refine(HW.out _).mono ?_;rintro e w1 ⟨rfl,hb⟩;have B:=aQ (bR hb);clear hb))
  go_ret;exact⟨rfl,B.out⟩
 rw[if_neg e24];have g24:(x.op == 24)=false:=by simpa using e24
 clear e24;have HS:=aQ (λ W=>rsize_any x.op W);generalize dJ x.op=s at *;by_cases hs:s=0
 ·rw[if_pos hs]
  subst hs;go_enter Tryz.func21,Tryz.ntmps21
  go_wp2_with (first
   | (go_at_call 59;refine(HA.out _).mono ?_;rintro e w1 ⟨rfl,rfl⟩)
   | (go_at_call 60;refine(HJ.out _).mono ?_;rintro e w1 ⟨rfl,rfl⟩)
   | (go_at_call 65;refine(HS.out _).mono ?_;rintro e w1 ⟨rfl,rfl⟩))
  go_ret;exact⟨rfl,b1⟩
 rw[if_neg hs];have gs:(s == 0)=false:=by simpa using hs
 have e7:=eI x.op;generalize x.op % 8=c at *;clear hs;by_cases c1:c=1
 ·rw[if_pos c1]
  subst c1;go_enter Tryz.func21,Tryz.ntmps21
  go_wp2_with (first
   | (go_at_call 59;refine(HA.out _).mono ?_;rintro e w1 ⟨rfl,rfl⟩)
   | (go_at_call 60;refine(HJ.out _).mono ?_;rintro e w1 ⟨rfl,rfl⟩)
   | (go_at_call 65;refine(HS.out _).mono ?_;rintro e w1 ⟨rfl,rfl⟩)
   | (go_at_call 62;refine(HF.out _ _ _ _ _).mono ?_;rintro e w1 ⟨rfl,hb⟩;have B:=aQ (bR hb);clear hb))
  go_ret;exact⟨rfl,B.out⟩
 rw[if_neg c1];have k1:(c == 1)=false:=by simpa using c1
 clear c1;by_cases c2:c=2
 ·rw[if_pos c2]
  subst c2;clear k1;go_enter Tryz.func21,Tryz.ntmps21
  go_wp2_with (first
   | (go_at_call 59;refine(HA.out _).mono ?_;rintro e w1 ⟨rfl,rfl⟩)
   | (go_at_call 60;refine(HJ.out _).mono ?_;rintro e w1 ⟨rfl,rfl⟩)
   | (go_at_call 65;refine(HS.out _).mono ?_;rintro e w1 ⟨rfl,rfl⟩)
   | (go_at_call 62;refine(HF.out _ _ _ _ _).mono ?_;rintro e w1 ⟨rfl,hb⟩;have B:=aQ (bR hb);clear hb))
  go_ret;exact⟨rfl,B.out⟩
 rw[if_neg c2];have k2:(c == 2)=false:=by simpa using c2
 clear c2;go_enter Tryz.func21,Tryz.ntmps21
 go_wp2_with (first
  | (go_at_call 59;refine(HA.out _).mono ?_;rintro e w1 ⟨rfl,rfl⟩)
  | (go_at_call 60;refine(HJ.out _).mono ?_;rintro e w1 ⟨rfl,rfl⟩)
  | (go_at_call 65;refine(HS.out _).mono ?_;rintro e w1 ⟨rfl,rfl⟩)
  | (go_at_call 62;refine(HF.out _ _ _ _ _).mono ?_;rintro e w1 ⟨rfl,hb⟩;have B:=aQ (bR hb);clear hb))
 go_ret;exact⟨rfl,B.out⟩
theorem bit_eq{a b:Bool}(h:a=true↔b=true):a=b:=Bool.eq_iff_iff.2 h
theorem size_cls{op:Int}(h:¬ dJ op=0):96<=op/\op<=123/\(op % 8=1∨op % 8=2∨op % 8=3):=by
 unfold dJ at h;split at h
 ·omega
 ·split at h
  ·omega
  ·split at h
   ·omega
   ·split at h
    ·omega
    ·exact absurd rfl h
theorem ins_same(x:In)(hx:Bd x):insB x=rinsB x:=by
 have hw:=hx.wide;apply bit_eq;unfold insB rinsB;cases ha:aluB x.op
 case true =>
  have h:=aluB_true.1 ha;rw[if_neg (show ¬ x.op=24 by omega),if_pos rfl];unfold oneB;rw[if_neg (show ¬ x.op=5 by omega),if_neg (show ¬ x.op=133 by omega),if_neg (show ¬ x.op=149 by omega),if_pos ha];unfold fitsB mayAluB raluB fieldsB eU zerosB operB shiftB inB;cases hr:rg x.op
  ·by_cases h1:x.op - x.op % 16=128
   ·simp[h1];omega
   ·by_cases h2:x.op - x.op % 16=96∨x.op - x.op % 16=112∨x.op - x.op % 16=192
    ·rw[if_neg h1,if_pos h2]
     by_cases h7:x.op % 8=7
     ·simp[h1,h7];omega
     ·simp[h1,h7];omega
    ·rw[if_neg h1,if_neg h2]
     simp[h1];omega
  ·have h8:8<=x.op % 16:=by unfold rg at hr;simpa using hr
   have h1:¬ x.op - x.op % 16=128:=by omega
   by_cases h2:x.op - x.op % 16=96∨x.op - x.op % 16=112∨x.op - x.op % 16=192
   ·rw[if_neg h1,if_pos h2]
    by_cases h7:x.op % 8=7
    ·simp[h7];omega
    ·simp[h7];omega
   ·rw[if_neg h1,if_neg h2]
    simp;omega
 rw[if_neg (show ¬ (false:Bool)=true by simp)];cases hj:jmpB x.op
 case true =>
  have h:=fF.1 hj;rw[if_neg (show ¬ x.op=24 by omega),if_pos rfl];unfold oneB;rw[if_neg (show ¬ x.op=5 by omega),if_neg (show ¬ x.op=133 by omega),if_neg (show ¬ x.op=149 by omega),if_neg (by rw[ha];simp),if_pos hj];unfold fitsB fieldsB eU zerosB operB inB;cases hr:rg x.op
  ·simp;omega
  ·simp;omega
 rw[if_neg (show ¬ (false:Bool)=true by simp)];by_cases e5:x.op=5
 ·rw[if_neg (show ¬ x.op=24 by omega),if_pos e5]
  unfold oneB;rw[if_pos e5];unfold fitsB fieldsB eU zerosB inB;simp;omega
 rw[if_neg e5];by_cases e133:x.op=133
 ·rw[if_neg (show ¬ x.op=24 by omega),if_pos e133]
  unfold oneB;rw[if_neg e5,if_pos e133];unfold fitsB fieldsB eU zerosB inB;simp;omega
 rw[if_neg e133];by_cases e149:x.op=149
 ·rw[if_neg (show ¬ x.op=24 by omega),if_pos e149]
  unfold oneB;rw[if_neg e5,if_neg e133,if_pos e149];unfold fitsB fieldsB eU zerosB inB;simp;omega
 rw[if_neg e149];by_cases e24:x.op=24
 ·rw[if_pos e24,if_pos e24]
  unfold fitsB wideB rwideB inB sg32;by_cases s0:x.src=0
  ·simp[s0];omega
  ·by_cases s1:x.src=1
   ·simp[s1];omega
   ·simp[s0,s1]
 rw[if_neg e24,if_neg e24];unfold oneB;rw[if_neg e5,if_neg e133,if_neg e149,if_neg (by rw[ha];simp),if_neg (by rw[hj];simp)];by_cases hs:dJ x.op=0
 ·rw[if_pos hs];simp[hs]
 rw[if_neg hs];have hc:=size_cls hs;unfold fitsB accB fieldsB eU zerosB inB;by_cases c1:x.op % 8=1
 ·simp[hs,c1];omega
 ·by_cases c3:x.op % 8=3
  ·simp[hs,c3];omega
  ·have c2:x.op % 8=2:=by omega
   simp[hs,c2];omega
def bQ(l:List In)(i:Int):Bool:=decide (0<=i/\i<l.length) && !bU l i
theorem bT{l:List In}{i:Int}:bQ l i=true↔(0<=i/\i<l.length)/\bU l i=false:=by
 unfold bQ;simp
def wrI(n:Int):Int:=IntKind.i64.wrap n
def fM(x:In)(i:Int):List Int :=
 if x.op=149 then []else if x.op=5 then [wrI (i+1+x.off)]else if x.op=24 then [i+2]else if jmpB x.op=true then [i+1,wrI (i+1+x.off)]else [i+1]
def bG(l:List In)(i:Int):List Int:=if bQ l i=true then fM (l.getD i.toNat z) i else []
theorem nexts_le(x:In)(i:Int):(fM x i).length<=2:=by
 unfold fM
 repeat' split
 all_goals simp
theorem dT(l:List In)(i:Int):(bG l i).length<=2:=by
 unfold bG;split
 ·exact nexts_le _ _
 ·simp
def gE(l:List In)(i:Int):Bool:=decide (i<l.length) && eqB (l.getD i.toNat z) z
def eL(l:List In)(i:Nat):Bool:=!((l.getD i z).op == 24) || gE l ((i:Int)+1)
def mayB(l:List In)(i:Nat):Bool:=(insB (l.getD i z) && eL l i) && (bG l i).all (bQ l)
def badI(l:List In)(i:Nat):Bool:=!bU l i && !mayB l i
def aS(l:List In):Int×Int :=
 if 4096<l.length then (0,31)else if l.length=0 then (0,40)else
  match (List.range l.length).find? (badI l)with
  | some i=>((i:Int),40)
  | none=>(0,0)
theorem check_bad{l:List In}{k:Nat}(h1:l.length<=4096)(hk:k<l.length)(hb:badI l k=true)(hj:∀ j,j<k->badI l j=false):aS l=((k:Int),40):=by
 have hf:(List.range l.length).find? (badI l)=some k:=by
  rw[List.find?_range_eq_some];exact⟨hb,List.mem_range.2 hk,λ j h=>by rw[hj j h];rfl⟩
 unfold aS;rw[if_neg (by omega),if_neg (by omega),hf]
theorem check_good{l:List In}(h1:l.length<=4096)(h0:¬ l.length=0)(hj:∀ j,j<l.length->badI l j=false):aS l=(0,0):=by
 have hf:(List.range l.length).find? (badI l)=none:=by
  rw[List.find?_eq_none];intro j h;rw[hj j (List.mem_range.1 h)];simp
 unfold aS;rw[if_neg (by omega),if_neg h0,hf]
theorem cW{l:List In}(h:(aS l).2=0):l.length<=4096/\¬ l.length=0/\∀ j,j<l.length->badI l j=false:=by
 unfold aS at h;split at h
 ·simp at h
 ·split at h
  ·simp at h
  ·split at h
   ·simp at h
   ·rename_i h1 h0 _ hf
    rw[List.find?_eq_none]at hf;refine⟨by omega,h0,λ j hj=>?_⟩;have:=hf j (List.mem_range.2 hj);simpa using this
theorem fG{l:List In}{i:Nat}(hi:i<l.length):bU l (i:Int)=hR (opL l) i:=by
 unfold bU;rw[decide_eq_true ⟨by omega,by omega⟩,Bool.true_and,Int.toNat_natCast]
theorem may_place{l:List In}(h:∀ j,j<l.length->badI l j=false){i:Int}(hp:bQ l i=true):∀ n∈bG l i,bQ l n=true:=by
 obtain⟨⟨h0,h1⟩,hh⟩:=bT.1 hp;obtain⟨j,rfl⟩:=Int.eq_ofNat_of_zero_le h0;have hb:=h j (by omega);unfold badI at hb;rw[hh]at hb;have hm:mayB l j=true:=by simpa using hb
 unfold mayB at hm;rw[Bool.and_eq_true]at hm;intro n hn;exact List.all_eq_true.1 hm.2 n hn
theorem place_any(q:Option Addr)(qc:Nat)(l:List In)(i:Int)(w:World)(h:InsAt w q l) :
  Calls Tryz.prog 123 #[.slice q l.length qc,.int .i64 i] w λ e w'=>e=.returned (.bool (bQ l i))/\w=w':=by
 have HH:=aQ (λ W hW=>hole_any q qc l i W hW);have hs:=h.small;have H:=aQ h;unfold bQ;generalize bU l i=v at *;generalize l.length=N at *;clear h;by_cases h0:0<=i
 ·by_cases h1:i<N
  ·rw[decide_eq_true ⟨h0,h1⟩,Bool.true_and]
   go_enter Tryz.func123,Tryz.ntmps123
   go_wp2_with (go_at_call 87;refine(HH.out _ H.out).mono ?_;rintro e w1 ⟨rfl,rfl⟩)
   go_ret;exact⟨rfl,rfl⟩
  ·rw[decide_eq_false (show ¬ (0<=i/\i<(N:Int)) by omega),Bool.false_and]
   go_enter Tryz.func123,Tryz.ntmps123
   go_wp2
   go_ret;exact⟨rfl,rfl⟩
 ·rw[decide_eq_false (show ¬ (0<=i/\i<(N:Int)) by omega),Bool.false_and]
  go_enter Tryz.func123,Tryz.ntmps123
  go_wp2
  go_ret;exact⟨rfl,rfl⟩
def SuccP(l:List In)(i:Int)(w:World)(e:Ending)(w':World):Prop :=
 ∃ p cap,e=.returned (.slice p (bG l i).length cap)/\NumsAt .i64 w' p (bG l i)/\Below w.heap.size w w'
theorem gO(w:World)(p:Option Addr):NumsAt .i64 w p []:=⟨Nat.zero_le _,λ _ h=>absurd h (Nat.not_lt_zero _)⟩
theorem succ_nil{l:List In}{i:Int}{w w':World}{e:Ending}(hl:bG l i=[])(he:e=.returned (.slice none 0 0))(hb:Below w.heap.size w w'):SuccP l i w e w':=by
 unfold SuccP;rw[hl];exact⟨none,0,he,gO _ _,hb⟩
theorem succ_new{l:List In}{i:Int}{w W:World}{e:Ending}{t:TypeId}{xs:List Int}{n:Nat}{cs:Array Value}(hl:bG l i=xs)(hn:xs.length=n)(hc:cs=(xs.map (Value.int .i64)).toArray)(hB:Below w.heap.size w W)(he:e=.returned (.slice (some ⟨W.heap.size,0,none⟩) n n)) :
  SuccP l i w e (W.alloc (.cells cs t)):=by
 unfold SuccP;have h2:=dT l i;rw[hl]at h2 ⊢;exact⟨some ⟨W.heap.size,0,none⟩,n,by rw[he,hn],bH W t xs cs hc (by omega),hB.alloc hB.size _⟩
theorem succ_any(q:Option Addr)(qc:Nat)(l:List In)(i:Int)(w:World)(h:InsAt w q l) :
  Calls Tryz.prog 91 #[.slice q l.length qc,.int .i64 i] w (SuccP l i w):=by
 have HP:=aQ (λ W hW=>place_any q qc l i W hW);cases hp:bQ l i
 ·have HS:=aQ (λ w' e he hb=>succ_nil (l:=l) (i:=i) (w:=w) (w':=w') (e:=e) (by unfold bG;rw[if_neg (by rw[hp];simp)]) he hb)
  rw[hp]at HP;have hs:=h.small;have H:=aQ h;generalize l.length=N at *;clear h hp;go_enter Tryz.func91,Tryz.ntmps91
  go_wp2_with (go_at_call 123;refine(HP.out _ H.out).mono ?_;rintro e w1 ⟨rfl,rfl⟩)
  go_ret;exact HS.out _ _ rfl (Below.refl _ _)
 ·obtain⟨⟨i0,i1⟩,_⟩:=bT.1 hp
  obtain⟨j,rfl⟩:=Int.eq_ofNat_of_zero_le i0;have hj:j<l.length:=by omega
  have hs:=h.small
  have hsucc:bG l (j:Int)=fM (l.getD j z) j:=by
   unfold bG;rw[if_pos hp];rfl
  rw[hp]at HP;have hb:=h.bd j hj;obtain⟨b,o,rfl,hbl,d0,d1,d2,d3,d4,d5⟩:=h.cells j hj;have H:=aQ h;have HN:=aQ (λ W e xs n cs hl hn hc hB he=>succ_new (l:=l) (i:=(j:Int)) (w:=w) (W:=W) (e:=e) (t:=3) (xs:=xs) (n:=n) (cs:=cs) hl hn hc hB he);have HZ:=aQ (λ w' e hl he hb=>succ_nil (l:=l) (i:=(j:Int)) (w:=w) (w':=w') (e:=e) hl he hb);have HJ:=aQ hsucc;generalize l.getD j z=X at *;obtain⟨o0,o1⟩:=hb.op;obtain⟨f0,f1⟩:=hb.off;have HJY:=aQ (λ W h=>jump_yes X.op W o0 o1 h);have HJN:=aQ (λ W h=>jump_no X.op W o0 o1 h);unfold fM at HJ;have hwr:wrI ((j:Int)+1+X.off)=wrap64 ((j:Int)+1+X.off):=by unfold wrI wrap64;rw[IntKind.wrap_i64]
  rw[hwr]at HJ;generalize l.length=N at *;clear h hp hsucc hb i0 hwr o0 o1;by_cases e149:X.op=149
  ·have HZ2:=aQ (HZ.out · · (by rw[HJ.out,if_pos e149]))
   have g:(X.op == 149)=true:=by simpa using e149
   clear e149;go_enter Tryz.func91,Tryz.ntmps91
   go_wp2_with (go_at_call 123;refine(HP.out _ H.out).mono ?_;rintro e w1 ⟨rfl,rfl⟩)
   go_ret;exact HZ2.out _ _ rfl (Below.refl _ _)
  have g149:(X.op == 149)=false:=by simpa using e149
  by_cases e5:X.op=5
  ·have HZ2:=aQ (HN.out · · _ 1 · (by rw[HJ.out,if_neg e149,if_pos e5]) rfl)
   have g:(X.op == 5)=true:=by simpa using e5
   clear e149 e5;go_enter Tryz.func91,Tryz.ntmps91
   go_wp2_with (go_at_call 123;refine(HP.out _ H.out).mono ?_;rintro e w1 ⟨rfl,rfl⟩)
   go_ret;exact HZ2.out _ _ _ rfl (Below.refl _ _) rfl
  have g5:(X.op == 5)=false:=by simpa using e5
  by_cases e24:X.op=24
  ·have HZ2:=aQ (HN.out · · _ 1 · (by rw[HJ.out,if_neg e149,if_neg e5,if_pos e24]) rfl)
   have g:(X.op == 24)=true:=by simpa using e24
   clear e149 e5 e24;go_enter Tryz.func91,Tryz.ntmps91
   go_wp2_with (go_at_call 123;refine(HP.out _ H.out).mono ?_;rintro e w1 ⟨rfl,rfl⟩)
   go_ret;exact HZ2.out _ _ _ (by first|rfl|(simp;omega)) (Below.refl _ _) rfl
  have g24:(X.op == 24)=false:=by simpa using e24
  cases hj:jmpB X.op
  ·have HZ2:=aQ (HN.out · · _ 1 · (by rw[HJ.out,if_neg e149,if_neg e5,if_neg e24,if_neg (by rw[hj];simp)]) rfl)
   have HJ2:=aQ (λ W=>HJN.out W hj);clear e149 e5 e24 hj;go_enter Tryz.func91,Tryz.ntmps91
   go_wp2_with (first
    | (go_at_call 123;refine(HP.out _ H.out).mono ?_;rintro e w1 ⟨rfl,rfl⟩)
    | (go_at_call 97;refine(HJ2.out _).mono ?_;rintro e w1 ⟨rfl,rfl⟩))
   go_ret;exact HZ2.out _ _ _ rfl (Below.refl _ _) rfl
  ·have HZ2:=aQ (HN.out · · _ 2 · (by rw[HJ.out,if_neg e149,if_neg e5,if_neg e24,if_pos hj]) rfl)
   have HJ2:=aQ (λ W=>HJY.out W hj);generalize X.op - X.op % 16=hh at *;generalize decide (X.op % 8=5)=dd at *;clear e149 e5 e24 hj;go_enter Tryz.func91,Tryz.ntmps91
   go_wp2_with (first
    | (go_at_call 123;refine(HP.out _ H.out).mono ?_;rintro e w1 ⟨rfl,rfl⟩)
    | (go_at_call 97;refine(HJ2.out _).mono ?_;rintro e w1 ⟨rfl,rfl⟩))
   go_ret;exact HZ2.out _ _ _ rfl (Below.refl _ _) rfl
theorem rsucc_any(q:Option Addr)(qc:Nat)(l:List In)(i:Int)(w:World)(h:InsAt w q l) :
  Calls Tryz.prog 22 #[.slice q l.length qc,.int .i64 i] w (SuccP l i w):=by
 have HP:=aQ (λ W hW=>rhole_any q qc l i W hW);by_cases hin:0<=i/\i<l.length
 case neg =>
  have HS:=aQ (λ w' e he hb=>succ_nil (l:=l) (i:=i) (w:=w) (w':=w') (e:=e) (by unfold bG;rw[if_neg (by rw[bT];exact λ h=>hin h.1)]) he hb);have hs:=h.small;have H:=aQ h;generalize l.length=N at *;clear h;by_cases i0:i<0
  ·clear hin
   go_enter Tryz.func22,Tryz.ntmps22
   go_wp2
   go_ret;exact HS.out _ _ rfl (Below.refl _ _)
  ·have i1:(N:Int)<=i:=by omega
   have i2:0<=i:=by omega
   clear hin;go_enter Tryz.func22,Tryz.ntmps22
   go_wp2
   go_ret;exact HS.out _ _ rfl (Below.refl _ _)
 case pos =>
 obtain⟨i0,i1⟩:=hin;cases hp:bU l i
 case true =>
  have HS:=aQ (λ w' e he hb=>succ_nil (l:=l) (i:=i) (w:=w) (w':=w') (e:=e) (by unfold bG;rw[if_neg (by rw[bT];intro h;rw[hp]at h;exact absurd h.2 (by simp))]) he hb);rw[hp]at HP;have hs:=h.small;have H:=aQ h;generalize l.length=N at *;clear h hp;go_enter Tryz.func22,Tryz.ntmps22
  go_wp2_with (go_at_call 20;refine(HP.out _ H.out).mono ?_;rintro e w1 ⟨rfl,rfl⟩)
  go_ret;exact HS.out _ _ rfl (Below.refl _ _)
 case false =>
 have hpl:bQ l i=true:=bT.2 ⟨⟨i0,i1⟩,hp⟩;obtain⟨j,rfl⟩:=Int.eq_ofNat_of_zero_le i0;have hj:j<l.length:=by omega
 have hs:=h.small
 have hsucc:bG l (j:Int)=fM (l.getD j z) j:=by
  unfold bG;rw[if_pos hpl];rfl
 rw[hp]at HP;have hb:=h.bd j hj;obtain⟨b,o,rfl,hbl,d0,d1,d2,d3,d4,d5⟩:=h.cells j hj;have H:=aQ h;have HN:=aQ (λ W e xs n cs hl hn hc hB he=>succ_new (l:=l) (i:=(j:Int)) (w:=w) (W:=W) (e:=e) (t:=3) (xs:=xs) (n:=n) (cs:=cs) hl hn hc hB he);have HZ:=aQ (λ w' e hl he hb=>succ_nil (l:=l) (i:=(j:Int)) (w:=w) (w':=w') (e:=e) hl he hb);have HJ:=aQ hsucc;generalize l.getD j z=X at *;obtain⟨o0,o1⟩:=hb.op;obtain⟨f0,f1⟩:=hb.off;have HJY:=aQ (λ W h=>rjump_yes X.op W o0 o1 h);have HJN:=aQ (λ W h=>rjump_no X.op W o0 o1 h);unfold fM at HJ;have hwr:wrI ((j:Int)+1+X.off)=wrap64 ((j:Int)+1+X.off):=by unfold wrI wrap64;rw[IntKind.wrap_i64]
 rw[hwr]at HJ;generalize l.length=N at *;cases hjb:jmpB X.op
 case true =>
  have h3:=fF.1 hjb;have e149:¬ X.op=149:=by omega
  have e5:¬ X.op=5:=by omega
  have e24:¬ X.op=24:=by omega
  have g149:(X.op == 149)=false:=by simpa using e149
  have g5:(X.op == 5)=false:=by simpa using e5
  have HZ2:=aQ (HN.out · · _ 2 · (by rw[HJ.out,if_neg e149,if_neg e5,if_neg e24,if_pos hjb]) rfl);have HJ2:=aQ (λ W=>HJY.out W hjb);generalize X.op - X.op % 16=hh at *;generalize decide (X.op % 8=5)=dd at *;clear e149 e5 e24 hjb h3 h hp hpl hsucc hb hwr o0 o1;go_enter Tryz.func22,Tryz.ntmps22
  go_wp2_with (first
   | (go_at_call 20;refine(HP.out _ H.out).mono ?_;rintro e w1 ⟨rfl,rfl⟩)
   | (go_at_call 60;refine(HJ2.out _).mono ?_;rintro e w1 ⟨rfl,rfl⟩))
  go_ret;exact HZ2.out _ _ _ rfl b1 (by first|rfl|simp)
 case false =>
 have HJ2:=aQ (λ W=>HJN.out W hjb);by_cases e149:X.op=149
 ·have HZ2:=aQ (HZ.out · · (by rw[HJ.out,if_pos e149]))
  have g:(X.op == 149)=true:=by simpa using e149
  clear e149 hjb h hp hpl hsucc hb hwr o0 o1;go_enter Tryz.func22,Tryz.ntmps22
  go_wp2_with (first
   | (go_at_call 20;refine(HP.out _ H.out).mono ?_;rintro e w1 ⟨rfl,rfl⟩)
   | (go_at_call 60;refine(HJ2.out _).mono ?_;rintro e w1 ⟨rfl,rfl⟩))
  go_ret;exact HZ2.out _ _ rfl b1
 have g149:(X.op == 149)=false:=by simpa using e149
 by_cases e5:X.op=5
 ·have HZ2:=aQ (HN.out · · _ 1 · (by rw[HJ.out,if_neg e149,if_pos e5]) rfl)
  have g:(X.op == 5)=true:=by simpa using e5
  clear e149 e5 hjb h hp hpl hsucc hb hwr o0 o1;go_enter Tryz.func22,Tryz.ntmps22
  go_wp2_with (first
   | (go_at_call 20;refine(HP.out _ H.out).mono ?_;rintro e w1 ⟨rfl,rfl⟩)
   | (go_at_call 60;refine(HJ2.out _).mono ?_;rintro e w1 ⟨rfl,rfl⟩))
  go_ret;exact HZ2.out _ _ _ rfl b1 (by first|rfl|simp)
 have g5:(X.op == 5)=false:=by simpa using e5
 by_cases e24:X.op=24
 ·have HZ2:=aQ (HN.out · · _ 1 · (by rw[HJ.out,if_neg e149,if_neg e5,if_pos e24]) rfl)
  have g:(X.op == 24)=true:=by simpa using e24
  clear e149 e5 e24 hjb h hp hpl hsucc hb hwr o0 o1;go_enter Tryz.func22,Tryz.ntmps22
  go_wp2_with (first
   | (go_at_call 20;refine(HP.out _ H.out).mono ?_;rintro e w1 ⟨rfl,rfl⟩)
   | (go_at_call 60;refine(HJ2.out _).mono ?_;rintro e w1 ⟨rfl,rfl⟩))
  go_ret;exact HZ2.out _ _ _ (by first|rfl|(simp;omega)) b1 (by first|rfl|simp)
 have g24:(X.op == 24)=false:=by simpa using e24
 have HZ2:=aQ (HN.out · · _ 1 · (by rw[HJ.out,if_neg e149,if_neg e5,if_neg e24,if_neg (by rw[hjb];simp)]) rfl);clear e149 e5 e24 hjb h hp hpl hsucc hb hwr o0 o1;go_enter Tryz.func22,Tryz.ntmps22
 go_wp2_with (first
  | (go_at_call 20;refine(HP.out _ H.out).mono ?_;rintro e w1 ⟨rfl,rfl⟩)
  | (go_at_call 60;refine(HJ2.out _).mono ?_;rintro e w1 ⟨rfl,rfl⟩))
 go_ret;exact HZ2.out _ _ _ rfl b1 (by first|rfl|simp)
theorem ints_eq(p q:Option Addr)(c d:Nat)(a:List Int)(w:World)(h1:NumsAt .i64 w p a)(h2:NumsAt .i64 w q a) :
  Calls Tryz.prog 67 #[.slice p a.length c,.slice q a.length d] w λ e w'=>e=.returned (.bool true)/\Below w.heap.size w w':=by
 have hs:=h1.small;have H1:=aQ h1;have H2:=aQ h2;obtain⟨N,hN⟩:∃ N,a.length=N:=⟨_,rfl⟩;rw[hN]at hs ⊢;have HN:=aQ hN;clear hN h1 h2;go_enter Tryz.func67,Tryz.ntmps67
 go_wp2
 go_loopw [5] (λ i wr=>∃ k:Nat,k<=N/\i=.int .i64 k/\Below w.heap.size w wr) (λ i _=>N - (intOf i).toNat)
 case atStart=>exact⟨0,Nat.zero_le _,rfl,Below.refl _ _⟩
 case round =>
  obtain⟨k,hk,rfl,hb⟩:=hrel;have HB:=aQ hb;by_cases hlt:k<N
  ·obtain⟨b1,o1,rfl,hl1,c0⟩:=(H1.out.below hb).cells k (by rw[HN.out];exact hlt)
   obtain⟨b2,o2,rfl,hl2,d0⟩:=(H2.out.below hb).cells k (by rw[HN.out];exact hlt);clear hb;generalize a.getD k 0=X at *;go_wp2_with fail
   go_quiet (fail)
   go_wp2
   go_roundw
   case rel=>exact⟨k+1,by omega,by go_num,below_drewN HB.out _⟩
   case measure=>simp[intOf];omega
  ·clear hb
   go_wp2
   go_ret;exact⟨rfl,HB.out⟩
theorem eq_zero36(x:In)(w:World):(binOp .eql 65 (.agg #[.int .i64 x.op,.int .i64 x.dst,.int .i64 x.src,.int .i64 x.off,.int .i64 x.imm,.int .u64 x.wide]) (.agg #[.int .i64 0,.int .i64 0,.int .i64 0,.int .i64 0,.int .i64 0,.int .u64 0])).run Tryz.prog w=.ok (.bool (eqB x z)) w:=eq36 x z w
theorem eq_r(x:In)(w:World):(Op.equalIn 10000 65 (.agg #[.int .i64 x.op,.int .i64 x.dst,.int .i64 x.src,.int .i64 x.off,.int .i64 x.imm,.int .u64 x.wide]) (.agg #[.int .i64 0,.int .i64 0,.int .i64 0,.int .i64 0,.int .i64 0,.int .u64 0])).run Tryz.prog w=.ok (eqB x z) w:=by
 have h:=eq_zero36 x w;rw[run_eql_struct]at h
 revert h
 generalize (Op.equalIn 10000 65 _ _).run Tryz.prog w=r;intro h;cases r with
 | ok b w1=>simp[Result.andThen]at h;obtain⟨h1,h2⟩:=h;subst h1 h2;rfl
 | halt a w1=>simp[Result.andThen]at h
theorem blank_any(q:Option Addr)(qc:Nat)(l:List In)(i:Nat)(w:World)(h:InsAt w q l) :
  Calls Tryz.prog 122 #[.slice q l.length qc,.int .i64 i] w λ e w'=>e=.returned (.bool (gE l i))/\w=w':=by
 have hs:=h.small;unfold gE;by_cases hi:i<l.length
 ·obtain⟨b,o,rfl,hbl,d0,d1,d2,d3,d4,d5⟩:=h.cells i hi
  rw[decide_eq_true (show((i:Int)<(l.length:Int)) by omega),Bool.true_and,Int.toNat_natCast];have heq:=λ W=>eq_r (l.getD i z) W
  generalize l.getD i z=X at *;generalize l.length=N at *;clear h;go_enter Tryz.func122,Tryz.ntmps122
  go_wp2
  go_ret;exact⟨by simp,rfl⟩
 ·rw[decide_eq_false (show ¬ ((i:Int)<(l.length:Int)) by omega),Bool.false_and]
  generalize l.length=N at *;clear h;go_enter Tryz.func122,Tryz.ntmps122
  go_wp2
  go_ret;exact⟨rfl,rfl⟩
def SuccQ(l:List In)(i:Int)(w:World)(e:Ending)(w':World):Prop :=
 ∃ p cap,e=.returned (.slice p (bG l i).length cap)/\NumsAt .i64 w' p (bG l i)/\Below w.heap.size w w'/\∀ ad,p=some ad->w.heap.size<=ad.block
theorem gH{l:List In}{i:Int}{w w':World}{e:Ending}(hl:bG l i=[])(he:e=.returned (.slice none 0 0))(hb:Below w.heap.size w w'):SuccQ l i w e w':=by
 unfold SuccQ;rw[hl];exact⟨none,0,he,gO _ _,hb,λ ad h=>by cases h⟩
theorem succ_newQ{l:List In}{i:Int}{w W:World}{e:Ending}{t:TypeId}{xs:List Int}{n:Nat}{cs:Array Value}(hl:bG l i=xs)(hn:xs.length=n)(hc:cs=(xs.map (Value.int .i64)).toArray)(hB:Below w.heap.size w W)(he:e=.returned (.slice (some ⟨W.heap.size,0,none⟩) n n)) :
  SuccQ l i w e (W.alloc (.cells cs t)):=by
 unfold SuccQ;have h2:=dT l i;rw[hl]at h2 ⊢;exact⟨some ⟨W.heap.size,0,none⟩,n,by rw[he,hn],bH W t xs cs hc (by omega),hB.alloc hB.size _,λ ad h=>by cases h;exact hB.size⟩
theorem rsucc_new(q:Option Addr)(qc:Nat)(l:List In)(i:Int)(w:World)(h:InsAt w q l) :
  Calls Tryz.prog 22 #[.slice q l.length qc,.int .i64 i] w (SuccQ l i w):=by
 have HP:=aQ (λ W hW=>rhole_any q qc l i W hW);by_cases hin:0<=i/\i<l.length
 case neg =>
  have HS:=aQ (λ w' e he hb=>gH (l:=l) (i:=i) (w:=w) (w':=w') (e:=e) (by unfold bG;rw[if_neg (by rw[bT];exact λ h=>hin h.1)]) he hb);have hs:=h.small;have H:=aQ h;generalize l.length=N at *;clear h;by_cases i0:i<0
  ·clear hin
   go_enter Tryz.func22,Tryz.ntmps22
   go_wp2
   go_ret;exact HS.out _ _ rfl (Below.refl _ _)
  ·have i1:(N:Int)<=i:=by omega
   have i2:0<=i:=by omega
   clear hin;go_enter Tryz.func22,Tryz.ntmps22
   go_wp2
   go_ret;exact HS.out _ _ rfl (Below.refl _ _)
 case pos =>
 obtain⟨i0,i1⟩:=hin;cases hp:bU l i
 case true =>
  have HS:=aQ (λ w' e he hb=>gH (l:=l) (i:=i) (w:=w) (w':=w') (e:=e) (by unfold bG;rw[if_neg (by rw[bT];intro h;rw[hp]at h;exact absurd h.2 (by simp))]) he hb);rw[hp]at HP;have hs:=h.small;have H:=aQ h;generalize l.length=N at *;clear h hp;go_enter Tryz.func22,Tryz.ntmps22
  go_wp2_with (go_at_call 20;refine(HP.out _ H.out).mono ?_;rintro e w1 ⟨rfl,rfl⟩)
  go_ret;exact HS.out _ _ rfl (Below.refl _ _)
 case false =>
 have hpl:bQ l i=true:=bT.2 ⟨⟨i0,i1⟩,hp⟩;obtain⟨j,rfl⟩:=Int.eq_ofNat_of_zero_le i0;have hj:j<l.length:=by omega
 have hs:=h.small
 have hsucc:bG l (j:Int)=fM (l.getD j z) j:=by
  unfold bG;rw[if_pos hpl];rfl
 rw[hp]at HP;have hb:=h.bd j hj;obtain⟨b,o,rfl,hbl,d0,d1,d2,d3,d4,d5⟩:=h.cells j hj;have H:=aQ h;have HN:=aQ (λ W e xs n cs hl hn hc hB he=>succ_newQ (l:=l) (i:=(j:Int)) (w:=w) (W:=W) (e:=e) (t:=3) (xs:=xs) (n:=n) (cs:=cs) hl hn hc hB he);have HZ:=aQ (λ w' e hl he hb=>gH (l:=l) (i:=(j:Int)) (w:=w) (w':=w') (e:=e) hl he hb);have HJ:=aQ hsucc;generalize l.getD j z=X at *;obtain⟨o0,o1⟩:=hb.op;obtain⟨f0,f1⟩:=hb.off;have HJY:=aQ (λ W h=>rjump_yes X.op W o0 o1 h);have HJN:=aQ (λ W h=>rjump_no X.op W o0 o1 h);unfold fM at HJ;have hwr:wrI ((j:Int)+1+X.off)=wrap64 ((j:Int)+1+X.off):=by unfold wrI wrap64;rw[IntKind.wrap_i64]
 rw[hwr]at HJ;generalize l.length=N at *;cases hjb:jmpB X.op
 case true =>
  have h3:=fF.1 hjb;have e149:¬ X.op=149:=by omega
  have e5:¬ X.op=5:=by omega
  have e24:¬ X.op=24:=by omega
  have g149:(X.op == 149)=false:=by simpa using e149
  have g5:(X.op == 5)=false:=by simpa using e5
  have HZ2:=aQ (HN.out · · _ 2 · (by rw[HJ.out,if_neg e149,if_neg e5,if_neg e24,if_pos hjb]) rfl);have HJ2:=aQ (λ W=>HJY.out W hjb);generalize X.op - X.op % 16=hh at *;generalize decide (X.op % 8=5)=dd at *;clear e149 e5 e24 hjb h3 h hp hpl hsucc hb hwr o0 o1;go_enter Tryz.func22,Tryz.ntmps22
  go_wp2_with (first
   | (go_at_call 20;refine(HP.out _ H.out).mono ?_;rintro e w1 ⟨rfl,rfl⟩)
   | (go_at_call 60;refine(HJ2.out _).mono ?_;rintro e w1 ⟨rfl,rfl⟩))
  go_ret;exact HZ2.out _ _ _ rfl b1 (by first|rfl|simp)
 case false =>
 have HJ2:=aQ (λ W=>HJN.out W hjb);by_cases e149:X.op=149
 ·have HZ2:=aQ (HZ.out · · (by rw[HJ.out,if_pos e149]))
  have g:(X.op == 149)=true:=by simpa using e149
  clear e149 hjb h hp hpl hsucc hb hwr o0 o1;go_enter Tryz.func22,Tryz.ntmps22
  go_wp2_with (first
   | (go_at_call 20;refine(HP.out _ H.out).mono ?_;rintro e w1 ⟨rfl,rfl⟩)
   | (go_at_call 60;refine(HJ2.out _).mono ?_;rintro e w1 ⟨rfl,rfl⟩))
  go_ret;exact HZ2.out _ _ rfl b1
 have g149:(X.op == 149)=false:=by simpa using e149
 by_cases e5:X.op=5
 ·have HZ2:=aQ (HN.out · · _ 1 · (by rw[HJ.out,if_neg e149,if_pos e5]) rfl)
  have g:(X.op == 5)=true:=by simpa using e5
  clear e149 e5 hjb h hp hpl hsucc hb hwr o0 o1;go_enter Tryz.func22,Tryz.ntmps22
  go_wp2_with (first
   | (go_at_call 20;refine(HP.out _ H.out).mono ?_;rintro e w1 ⟨rfl,rfl⟩)
   | (go_at_call 60;refine(HJ2.out _).mono ?_;rintro e w1 ⟨rfl,rfl⟩))
  go_ret;exact HZ2.out _ _ _ rfl b1 (by first|rfl|simp)
 have g5:(X.op == 5)=false:=by simpa using e5
 by_cases e24:X.op=24
 ·have HZ2:=aQ (HN.out · · _ 1 · (by rw[HJ.out,if_neg e149,if_neg e5,if_pos e24]) rfl)
  have g:(X.op == 24)=true:=by simpa using e24
  clear e149 e5 e24 hjb h hp hpl hsucc hb hwr o0 o1;go_enter Tryz.func22,Tryz.ntmps22
  go_wp2_with (first
   | (go_at_call 20;refine(HP.out _ H.out).mono ?_;rintro e w1 ⟨rfl,rfl⟩)
   | (go_at_call 60;refine(HJ2.out _).mono ?_;rintro e w1 ⟨rfl,rfl⟩))
  go_ret;exact HZ2.out _ _ _ (by first|rfl|(simp;omega)) b1 (by first|rfl|simp)
 have g24:(X.op == 24)=false:=by simpa using e24
 have HZ2:=aQ (HN.out · · _ 1 · (by rw[HJ.out,if_neg e149,if_neg e5,if_neg e24,if_neg (by rw[hjb];simp)]) rfl);clear e149 e5 e24 hjb h hp hpl hsucc hb hwr o0 o1;go_enter Tryz.func22,Tryz.ntmps22
 go_wp2_with (first
  | (go_at_call 20;refine(HP.out _ H.out).mono ?_;rintro e w1 ⟨rfl,rfl⟩)
  | (go_at_call 60;refine(HJ2.out _).mono ?_;rintro e w1 ⟨rfl,rfl⟩))
 go_ret;exact HZ2.out _ _ _ rfl b1 (by first|rfl|simp)
theorem psucc_new(q:Option Addr)(qc:Nat)(l:List In)(i:Int)(w:World)(h:InsAt w q l) :
  Calls Tryz.prog 91 #[.slice q l.length qc,.int .i64 i] w (SuccQ l i w):=by
 have HP:=aQ (λ W hW=>place_any q qc l i W hW);cases hp:bQ l i
 ·have HS:=aQ (λ w' e he hb=>gH (l:=l) (i:=i) (w:=w) (w':=w') (e:=e) (by unfold bG;rw[if_neg (by rw[hp];simp)]) he hb)
  rw[hp]at HP;have hs:=h.small;have H:=aQ h;generalize l.length=N at *;clear h hp;go_enter Tryz.func91,Tryz.ntmps91
  go_wp2_with (go_at_call 123;refine(HP.out _ H.out).mono ?_;rintro e w1 ⟨rfl,rfl⟩)
  go_ret;exact HS.out _ _ rfl (Below.refl _ _)
 ·obtain⟨⟨i0,i1⟩,_⟩:=bT.1 hp
  obtain⟨j,rfl⟩:=Int.eq_ofNat_of_zero_le i0;have hj:j<l.length:=by omega
  have hs:=h.small
  have hsucc:bG l (j:Int)=fM (l.getD j z) j:=by
   unfold bG;rw[if_pos hp];rfl
  rw[hp]at HP;have hb:=h.bd j hj;obtain⟨b,o,rfl,hbl,d0,d1,d2,d3,d4,d5⟩:=h.cells j hj;have H:=aQ h;have HN:=aQ (λ W e xs n cs hl hn hc hB he=>succ_newQ (l:=l) (i:=(j:Int)) (w:=w) (W:=W) (e:=e) (t:=3) (xs:=xs) (n:=n) (cs:=cs) hl hn hc hB he);have HZ:=aQ (λ w' e hl he hb=>gH (l:=l) (i:=(j:Int)) (w:=w) (w':=w') (e:=e) hl he hb);have HJ:=aQ hsucc;generalize l.getD j z=X at *;obtain⟨o0,o1⟩:=hb.op;obtain⟨f0,f1⟩:=hb.off;have HJY:=aQ (λ W h=>jump_yes X.op W o0 o1 h);have HJN:=aQ (λ W h=>jump_no X.op W o0 o1 h);unfold fM at HJ;have hwr:wrI ((j:Int)+1+X.off)=wrap64 ((j:Int)+1+X.off):=by unfold wrI wrap64;rw[IntKind.wrap_i64]
  rw[hwr]at HJ;generalize l.length=N at *;clear h hp hsucc hb i0 hwr o0 o1;by_cases e149:X.op=149
  ·have HZ2:=aQ (HZ.out · · (by rw[HJ.out,if_pos e149]))
   have g:(X.op == 149)=true:=by simpa using e149
   clear e149;go_enter Tryz.func91,Tryz.ntmps91
   go_wp2_with (go_at_call 123;refine(HP.out _ H.out).mono ?_;rintro e w1 ⟨rfl,rfl⟩)
   go_ret;exact HZ2.out _ _ rfl (Below.refl _ _)
  have g149:(X.op == 149)=false:=by simpa using e149
  by_cases e5:X.op=5
  ·have HZ2:=aQ (HN.out · · _ 1 · (by rw[HJ.out,if_neg e149,if_pos e5]) rfl)
   have g:(X.op == 5)=true:=by simpa using e5
   clear e149 e5;go_enter Tryz.func91,Tryz.ntmps91
   go_wp2_with (go_at_call 123;refine(HP.out _ H.out).mono ?_;rintro e w1 ⟨rfl,rfl⟩)
   go_ret;exact HZ2.out _ _ _ rfl (Below.refl _ _) rfl
  have g5:(X.op == 5)=false:=by simpa using e5
  by_cases e24:X.op=24
  ·have HZ2:=aQ (HN.out · · _ 1 · (by rw[HJ.out,if_neg e149,if_neg e5,if_pos e24]) rfl)
   have g:(X.op == 24)=true:=by simpa using e24
   clear e149 e5 e24;go_enter Tryz.func91,Tryz.ntmps91
   go_wp2_with (go_at_call 123;refine(HP.out _ H.out).mono ?_;rintro e w1 ⟨rfl,rfl⟩)
   go_ret;exact HZ2.out _ _ _ (by first|rfl|(simp;omega)) (Below.refl _ _) rfl
  have g24:(X.op == 24)=false:=by simpa using e24
  cases hj:jmpB X.op
  ·have HZ2:=aQ (HN.out · · _ 1 · (by rw[HJ.out,if_neg e149,if_neg e5,if_neg e24,if_neg (by rw[hj];simp)]) rfl)
   have HJ2:=aQ (λ W=>HJN.out W hj);clear e149 e5 e24 hj;go_enter Tryz.func91,Tryz.ntmps91
   go_wp2_with (first
    | (go_at_call 123;refine(HP.out _ H.out).mono ?_;rintro e w1 ⟨rfl,rfl⟩)
    | (go_at_call 97;refine(HJ2.out _).mono ?_;rintro e w1 ⟨rfl,rfl⟩))
   go_ret;exact HZ2.out _ _ _ rfl (Below.refl _ _) rfl
  ·have HZ2:=aQ (HN.out · · _ 2 · (by rw[HJ.out,if_neg e149,if_neg e5,if_neg e24,if_pos hj]) rfl)
   have HJ2:=aQ (λ W=>HJY.out W hj);generalize X.op - X.op % 16=hh at *;generalize decide (X.op % 8=5)=dd at *;clear e149 e5 e24 hj;go_enter Tryz.func91,Tryz.ntmps91
   go_wp2_with (first
    | (go_at_call 123;refine(HP.out _ H.out).mono ?_;rintro e w1 ⟨rfl,rfl⟩)
    | (go_at_call 97;refine(HJ2.out _).mono ?_;rintro e w1 ⟨rfl,rfl⟩))
   go_ret;exact HZ2.out _ _ _ rfl (Below.refl _ _) rfl
end Go.Proofs.YtkfahppdklecdaaGreatDoor
