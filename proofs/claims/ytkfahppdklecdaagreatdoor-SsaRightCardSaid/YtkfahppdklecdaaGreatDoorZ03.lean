import Derived.Test.YtkfahppdklecdaaGreatDoorZ02
set_option maxRecDepth 100000
set_option maxHeartbeats 16000000
namespace Go.Proofs.YtkfahppdklecdaaGreatDoor
open Go.RowKit M
theorem and_low(x:Int)(h0:0<=x)(h1:x<18446744073709551616):bits .and .u64 x 4294967295=x % 4294967296:=by
 rw[u64_and x _ h0 h1 (by omega) (by omega)];rw[show(4294967295:Int).toNat=2 ^ 32 - 1 from rfl,Nat.and_two_pow_sub_one_eq_mod];omega
theorem rimm_no(n:Int)(w:World)(_h0:-9223372036854775808<=n)(_h1:n<=9223372036854775807) :
  Calls Tryz.prog 107 #[.int .i64 n,.bool false] w λ e w'=>e=.returned (.int .u64 (n % 4294967296))/\w=w':=by
 go_enter Tryz.func107,Tryz.ntmps107
 go_wp2
 go_ret;refine⟨dH ?_,rfl⟩;rw[and_low _ (by simp only[IntKind.wrap_u64];omega) (by simp only[IntKind.wrap_u64];omega),IntKind.wrap_u64];omega
def eU(x:In)(d:Int):Bool:=inB x.dst 0 d && (inB x.src 0 10 && (inB x.off (-32768) 32767 && inB x.imm (-2147483648) 2147483647))
def zerosB(x:In)(s o i:Bool):Bool:=(s || (x.src == 0)) && ((o || (x.off == 0)) && ((i || (x.imm == 0)) && (x.wide == 0)))
def fieldsB(x:In)(d:Int)(s o i:Bool):Bool:=eU x d && zerosB x s o i
theorem fO(x:In)(d:Int)(s o i:Bool)(w:World):Calls Tryz.prog 62 #[.agg #[.int .i64 x.op,.int .i64 x.dst,.int .i64 x.src,.int .i64 x.off,.int .i64 x.imm,.int .u64 x.wide],.int .i64 d,.bool s,.bool o,.bool i] w λ e w'=>e=.returned (.bool (fieldsB x d s o i))/\Below w.heap.size w w':=by
 unfold fieldsB;cases hb:eU x d
 case false =>
  simp only[Bool.false_and];unfold eU at hb;cases v1:inB x.dst 0 d
  case false =>
   clear hb;go_enter Tryz.func62,Tryz.ntmps62
   go_wp2_with (go_at_call 63;refine(bS _ _ _ _).mono ?_;rintro e w1 ⟨rfl,rfl⟩)
   go_ret;exact⟨rfl,b1⟩
  rw[v1]at hb;cases v2:inB x.src 0 10
  case false =>
   clear hb;go_enter Tryz.func62,Tryz.ntmps62
   go_wp2_with (go_at_call 63;refine(bS _ _ _ _).mono ?_;rintro e w1 ⟨rfl,rfl⟩)
   go_ret;exact⟨rfl,b1⟩
  rw[v2]at hb;cases v3:inB x.off (-32768) 32767
  case false =>
   clear hb;go_enter Tryz.func62,Tryz.ntmps62
   go_wp2_with (go_at_call 63;refine(bS _ _ _ _).mono ?_;rintro e w1 ⟨rfl,rfl⟩)
   go_ret;exact⟨rfl,b1⟩
  rw[v3]at hb;have v4:inB x.imm (-2147483648) 2147483647=false:=by simpa using hb
  clear hb;go_enter Tryz.func62,Tryz.ntmps62
  go_wp2_with (go_at_call 63;refine(bS _ _ _ _).mono ?_;rintro e w1 ⟨rfl,rfl⟩)
  go_ret;exact⟨rfl,b1⟩
 simp only[Bool.true_and];unfold eU at hb;simp only[Bool.and_eq_true]at hb;obtain⟨v1,v2,v3,v4⟩:=hb;unfold zerosB;cases z1:x.src == 0
 all_goals
  cases z2:x.off == 0
  all_goals
   cases z3:x.imm == 0
   all_goals
    cases s
    all_goals
     cases o
     all_goals
      cases i
      all_goals
       simp only[Bool.false_and,Bool.true_and,Bool.or_true,Bool.or_false,Bool.and_false];go_enter Tryz.func62,Tryz.ntmps62
       go_wp2_with (go_at_call 63;refine(bS _ _ _ _).mono ?_;rintro e w1 ⟨rfl,rfl⟩)
       go_ret;exact⟨rfl,b1⟩
theorem andb{op:Int}{r:Bool}(h:rg op=r):bits .and .i64 op 8=if r=true then 8 else 0:=by
 rw[i64_and8,<- h];unfold rg;simp
def raluB(x:In)(o:Int)(wide:Bool):Bool:=fieldsB x 9 (rg x.op) false (!rg x.op && !(o == 128)) && (rg x.op || (!(o == 96 || (o == 112 || o == 192)) || inB x.imm 0 (if wide=true then 63 else 31)))
theorem ralu_go(x:In)(o:Int)(wide:Bool)(w:World):Calls Tryz.prog 61 #[.agg #[.int .i64 x.op,.int .i64 x.dst,.int .i64 x.src,.int .i64 x.off,.int .i64 x.imm,.int .u64 x.wide],.int .i64 o,.bool wide] w λ e w'=>e=.returned (.bool (raluB x o wide))/\Below w.heap.size w w':=by
 unfold raluB;cases hr:rg x.op
 case true =>
  have hand:=andb hr;rw[if_pos rfl]at hand;have HF:=aQ (λ W=>fO x 9 true false false W);simp only[Bool.not_true,Bool.false_and,Bool.true_or,Bool.and_true];generalize fieldsB x 9 true false false=v at *;clear hr;cases v
  all_goals
   cases wide
   all_goals
    go_enter Tryz.func61,Tryz.ntmps61
    go_wp2_with (go_at_call 62;refine(HF.out _).mono ?_;rintro e w1 ⟨rfl,hb⟩;have B:=aQ (bR hb);clear hb)
    go_ret;exact⟨rfl,B.out⟩
 have hand:=andb hr;rw[if_neg (by simp)]at hand;clear hr;simp only[Bool.not_false,Bool.true_and,Bool.false_or];by_cases h128:o=128
 ·subst h128
  have HF:=aQ (λ W=>fO x 9 false false false W);have e:(!((128:Int) == 128))=false:=rfl;have e2:(!((128:Int) == 96 || ((128:Int) == 112 || (128:Int) == 192)))=true:=rfl;rw[e,e2];simp only[Bool.true_or,Bool.and_true];generalize fieldsB x 9 false false false=v at *;clear e e2;cases v
  all_goals
   cases wide
   all_goals
    go_enter Tryz.func61,Tryz.ntmps61
    go_wp2_with (go_at_call 62;refine(HF.out _).mono ?_;rintro e w1 ⟨rfl,hb⟩;have B:=aQ (bR hb);clear hb)
    go_ret;exact⟨rfl,B.out⟩
 have HF:=aQ (λ W=>fO x 9 false false true W);have e:(!(o == 128))=true:=by simpa using h128
 have e':(o != 128)=true:=by simpa using h128
 rw[e];generalize fieldsB x 9 false false true=v at *;clear e h128;cases v
 case false =>
  simp only[Bool.false_and];go_enter Tryz.func61,Tryz.ntmps61
  go_wp2_with (go_at_call 62;refine(HF.out _).mono ?_;rintro e w1 ⟨rfl,hb⟩;have B:=aQ (bR hb);clear hb)
  go_ret;exact⟨rfl,B.out⟩
 simp only[Bool.true_and];by_cases hs:o=96∨o=112∨o=192
 ·have HW:=aQ (λ m W=>bS x.imm 0 m W)
  rcases hs with rfl|rfl|rfl
  all_goals
   clear e';cases wide
   all_goals
    simp only[BEq.rfl,Bool.true_or,Bool.or_true,Bool.not_true,Bool.false_or,if_true,Bool.false_eq_true,if_false];go_enter Tryz.func61,Tryz.ntmps61
    go_wp2_with (first
     | (go_at_call 62;refine(HF.out _).mono ?_;rintro e w1 ⟨rfl,hb⟩;have B:=aQ (bR hb);obtain⟨hc,hf⟩:=eG hb;clear hb)
     | (go_at_call 63;refine(HW.out _ _).mono ?_;rintro e w2 ⟨rfl,rfl⟩))
    go_ret;exact⟨rfl,B.out⟩
 ·have g2:(o != 96)=true:=by simp;omega
  have g3:(o != 112)=true:=by simp;omega
  have g4:(o != 192)=true:=by simp;omega
  have e2:(!(o == 96 || (o == 112 || o == 192)))=true:=by simp;omega
  rw[e2];simp only[Bool.true_or];clear hs e2;cases wide
  all_goals
   go_enter Tryz.func61,Tryz.ntmps61
   go_wp2_with (go_at_call 62;refine(HF.out _).mono ?_;rintro e w1 ⟨rfl,hb⟩;have B:=aQ (bR hb);clear hb)
   go_ret;exact⟨rfl,B.out⟩
end Go.Proofs.YtkfahppdklecdaaGreatDoor
