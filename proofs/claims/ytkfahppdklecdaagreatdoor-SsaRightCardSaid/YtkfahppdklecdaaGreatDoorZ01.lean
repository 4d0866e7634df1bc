import Derived.Below
import Derived.Laws.BitsAllLaws
import Derived.Test.YtkfahppdklecdaaGreatDoorAA
import Derived.Test.YtkfahppdklecdaaGreatDoorProg
import Derived.WalkKit
import Derived.WalkSpells
import Derived.WalkLawsBesides
import Derived.BigQuiet
import Derived.Deep.QuietTactic
import Derived.IntWalk
import Derived.Deep.RegionWith
set_option maxRecDepth 100000
set_option maxHeartbeats 16000000
namespace Go.Proofs.YtkfahppdklecdaaGreatDoor.M
open Go.RowKit
structure In where
 op:Int
 dst:Int
 src:Int
 off:Int
 imm:Int
 wide:Int
def z:In:=⟨0,0,0,0,0,0⟩
theorem In.ext_{x y:In}(h0:x.op=y.op)(h1:x.dst=y.dst)(h2:x.src=y.src)(h3:x.off=y.off)(h4:x.imm=y.imm)(h5:x.wide=y.wide):x=y:=by
 cases x;cases y;simp_all
def eqB(x y:In):Bool:=decide (x.op=y.op/\x.dst=y.dst/\x.src=y.src/\x.off=y.off/\x.imm=y.imm/\x.wide=y.wide)
theorem eqB_true{x y:In}:eqB x y=true↔x=y:=by
 unfold eqB;rw[decide_eq_true_iff];constructor
 ·rintro⟨a,b,c,d,e,f⟩;exact In.ext_ a b c d e f
 ·rintro rfl;exact⟨rfl,rfl,rfl,rfl,rfl,rfl⟩
structure Bd(x:In):Prop where
 op:-9223372036854775808<=x.op/\x.op<=9223372036854775807
 dst:-9223372036854775808<=x.dst/\x.dst<=9223372036854775807
 src:-9223372036854775808<=x.src/\x.src<=9223372036854775807
 off:-9223372036854775808<=x.off/\x.off<=9223372036854775807
 imm:-9223372036854775808<=x.imm/\x.imm<=9223372036854775807
 wide:0<=x.wide/\x.wide<18446744073709551616
def hR(o:Nat->Int):Nat->Bool
 | 0=>false
 | i+1=>decide (o i=24) && !hR o i
theorem gA(o:Nat->Int)(i:Nat):hR o (i+1)=(decide (o i=24) && !hR o i):=rfl
def rg(op:Int):Bool:=decide (8<=op % 16)
def aluB(op:Int):Bool:=decide ((op % 8=4∨op % 8=7)/\0<=op/\op<208/\¬ (op - op % 16=128/\8<=op % 16))
def jmpB(op:Int):Bool:=decide ((op % 8=5∨op % 8=6)/\16<=op/\op<224/\¬ op - op % 16=128/\¬ op - op % 16=144)
theorem aluB_true{op:Int}:aluB op=true↔((op % 8=4∨op % 8=7)/\0<=op/\op<208/\¬ (op - op % 16=128/\8<=op % 16)):=by unfold aluB;exact decide_eq_true_iff
theorem fF{op:Int}:jmpB op=true↔((op % 8=5∨op % 8=6)/\16<=op/\op<224/\¬ op - op % 16=128/\¬ op - op % 16=144):=by unfold jmpB;exact decide_eq_true_iff
theorem aluB_false{op:Int}:aluB op=false↔¬ ((op % 8=4∨op % 8=7)/\0<=op/\op<208/\¬ (op - op % 16=128/\8<=op % 16)):=by unfold aluB;exact decide_eq_false_iff_not
theorem jmpB_false{op:Int}:jmpB op=false↔¬ ((op % 8=5∨op % 8=6)/\16<=op/\op<224/\¬ op - op % 16=128/\¬ op - op % 16=144):=by unfold jmpB;exact decide_eq_false_iff_not
def dJ(op:Int):Int :=
 if op=97∨op=98∨op=99 then 4 else if op=105∨op=106∨op=107 then 2 else if op=113∨op=114∨op=115 then 1 else if op=121∨op=122∨op=123 then 8 else 0
def inB(n a b:Int):Bool:=decide (a<=n/\n<=b)
theorem dW{n a b:Int}:inB n a b=true↔(a<=n/\n<=b):=by unfold inB;exact decide_eq_true_iff
theorem eO{n a b:Int}:inB n a b=false↔¬ (a<=n/\n<=b):=by unfold inB;exact decide_eq_false_iff_not
end Go.Proofs.YtkfahppdklecdaaGreatDoor.M
namespace Go.Proofs.YtkfahppdklecdaaGreatDoor
open Go.RowKit M
theorem eI(n:Int):bits .and .i64 n 7=n % 8:=by
 have h:(BitVec.ofInt 64 7).toNat=2 ^ 3 - 1:=by decide
 have key:(BitVec.ofInt 64 n &&& BitVec.ofInt 64 7).toNat=(n % ((2 ^ 64:Nat):Int)).toNat % 2 ^ 3:=by
  rw[BitVec.toNat_and,BitVec.toNat_ofInt,h,Nat.and_two_pow_sub_one_eq_mod]
 show IntKind.i64.wrap ((BitVec.ofInt 64 n &&& BitVec.ofInt 64 7).toNat:Nat)=n % 8;rw[key,IntKind.wrap_i64];omega
theorem nat_and8(n:Nat):n &&& 8=if 8<=n % 16 then 8 else 0:=by
 have h:n &&& 8=(n % 16) &&& 8:=by
  rw[show(8:Nat)=15 &&& 8 from rfl,<- Nat.and_assoc,show n &&& 15=n % 16 from Nat.and_two_pow_sub_one_eq_mod n 4];rfl
 rw[h];have hm:n % 16<16:=Nat.mod_lt _ (by decide);clear h;generalize n % 16=m at *
 revert m
 decide
theorem i64_and8(n:Int):bits .and .i64 n 8=if 8<=n % 16 then 8 else 0:=by
 have h:(BitVec.ofInt 64 8).toNat=8:=by decide
 have key:(BitVec.ofInt 64 n &&& BitVec.ofInt 64 8).toNat=if 8<=(n % ((2 ^ 64:Nat):Int)).toNat % 16 then 8 else 0:=by
  rw[BitVec.toNat_and,BitVec.toNat_ofInt,h,nat_and8]
 show IntKind.i64.wrap ((BitVec.ofInt 64 n &&& BitVec.ofInt 64 8).toNat:Nat)=_;rw[key,IntKind.wrap_i64];split <;> split <;> omega
theorem nat_andNot15(n:Nat)(h:n<2 ^ 64):n &&& (2 ^ 64 - 1 - 15)=n - n % 16:=by
 apply Nat.eq_of_testBit_eq;intro i;rw[Nat.testBit_and];have e:n - n % 16=n / 16*2 ^ 4:=by omega
 rw[e,Nat.testBit_mul_two_pow];have e2:2 ^ 64 - 1 - 15=(2 ^ 60 - 1)*2 ^ 4:=by decide
 rw[e2,Nat.testBit_mul_two_pow,Nat.testBit_two_pow_sub_one];by_cases h4:4<=i
 ·have e3:n / 16=n / 2 ^ 4:=rfl
  rw[e3,Nat.testBit_div_two_pow,Nat.sub_add_cancel h4];by_cases h5:i - 4<60
  ·simp[h4,h5]
  ·have:n.testBit i=false:=Nat.testBit_lt_two_pow (Nat.lt_of_lt_of_le h (Nat.pow_le_pow_right (by decide) (by omega)))
   simp[this]
 ·simp[h4]
theorem i64_high(n:Int)(h0:-9223372036854775808<=n)(h1:n<=9223372036854775807):bits .andNot .i64 n 15=n - n % 16:=by
 have h:(BitVec.ofInt 64 15).toNat=15:=by decide
 have key:(BitVec.ofInt 64 n &&& ~~~ BitVec.ofInt 64 15).toNat=(n % ((2 ^ 64:Nat):Int)).toNat - (n % ((2 ^ 64:Nat):Int)).toNat % 16:=by
  rw[BitVec.toNat_and,BitVec.toNat_not,BitVec.toNat_ofInt,h,nat_andNot15 _ (by omega)]
 show IntKind.i64.wrap ((BitVec.ofInt 64 n &&& ~~~ BitVec.ofInt 64 15).toNat:Nat)=_;rw[key,IntKind.wrap_i64];omega
theorem dH{k:IntKind}{a b:Int}(h:a=b):Ending.returned (.int k a)=.returned (.int k b):=by rw[h]
theorem eW{a b:Bool}(h:a=b):Ending.returned (.bool a)=.returned (.bool b):=by rw[h]
theorem class_any(op:Int)(w:World):Calls Tryz.prog 128 #[.int .i64 op] w λ e w'=>e=.returned (.int .i64 (op % 8))/\w=w':=by
 go_enter Tryz.func128,Tryz.ntmps128
 go_wp2
 go_ret;exact⟨dH (by first|exact eI _|(rw[eI])),rfl⟩
theorem high_any(op:Int)(w:World)(h0:-9223372036854775808<=op)(h1:op<=9223372036854775807):Calls Tryz.prog 130 #[.int .i64 op] w λ e w'=>e=.returned (.int .i64 (op - op % 16))/\w=w':=by
 go_enter Tryz.func130,Tryz.ntmps130
 go_wp2
 go_ret;exact⟨dH (i64_high _ h0 h1),rfl⟩
theorem byReg_any(op:Int)(w:World):Calls Tryz.prog 182 #[.int .i64 op] w λ e w'=>e=.returned (.bool (rg op))/\w=w':=by
 go_enter Tryz.func182,Tryz.ntmps182
 go_wp2
 go_ret;refine⟨eW ?_,rfl⟩;rw[i64_and8];unfold rg;split <;> simp[*]
theorem fI(n a b:Int)(w:World) :
  Calls Tryz.prog 165 #[.int .i64 n,.int .i64 a,.int .i64 b] w λ e w'=>e=.returned (.bool (inB n a b))/\w=w':=by
 unfold inB;by_cases h1:a<=n
 ·go_enter Tryz.func165,Tryz.ntmps165
  go_wp2
  go_ret;exact⟨by simp[h1],rfl⟩
 ·go_enter Tryz.func165,Tryz.ntmps165
  go_wp2
  go_ret;exact⟨by simp;omega,rfl⟩
theorem bS(n a b:Int)(w:World) :
  Calls Tryz.prog 63 #[.int .i64 n,.int .i64 a,.int .i64 b] w λ e w'=>e=.returned (.bool (inB n a b))/\w=w':=by
 unfold inB;by_cases h1:a<=n
 ·go_enter Tryz.func63,Tryz.ntmps63
  go_wp2
  go_ret;exact⟨by simp[h1],rfl⟩
 ·go_enter Tryz.func63,Tryz.ntmps63
  go_wp2
  go_ret;exact⟨by simp;omega,rfl⟩
theorem size_any(op:Int)(w:World):Calls Tryz.prog 162 #[.int .i64 op] w λ e w'=>e=.returned (.int .i64 (dJ op))/\w=w':=by
 unfold dJ;go_enter Tryz.func162,Tryz.ntmps162
 go_wp2
 all_goals
  go_ret;exact⟨dH (by simp_all),rfl⟩
theorem rsize_any(op:Int)(w:World):Calls Tryz.prog 65 #[.int .i64 op] w λ e w'=>e=.returned (.int .i64 (dJ op))/\w=w':=by
 unfold dJ;go_enter Tryz.func65,Tryz.ntmps65
 go_wp2
 all_goals
  go_ret;exact⟨dH (by simp_all),rfl⟩
def opnB(op:Int):Bool:=if op - op % 16=128 then !rg op else inB (op - op % 16) 0 192
def condB(c:Int):Bool:=if c=0∨c=128∨c=144 then false else inB c 16 208
theorem isOp_any(op:Int)(w:World)(h0:-9223372036854775808<=op)(h1:op<=9223372036854775807):Calls Tryz.prog 158 #[.int .i64 op] w λ e w'=>e=.returned (.bool (opnB op))/\w=w':=by
 have HH:=aQ (λ W=>high_any op W h0 h1);unfold opnB;obtain⟨c,hc⟩:∃ c,op - op % 16=c:=⟨_,rfl⟩;rw[hc]at HH ⊢;clear hc h0 h1;by_cases h:c=128
 ·subst h
  have HR:=aQ (λ W=>byReg_any op W);generalize rg op=r at *;go_enter Tryz.func158,Tryz.ntmps158
  go_wp2_with (first
   | (go_at_call 130;refine(HH.out _).mono ?_;rintro e w1 ⟨rfl,rfl⟩)
   | (go_at_call 182;refine(HR.out _).mono ?_;rintro e w1 ⟨rfl,rfl⟩))
  go_ret;exact⟨eW (by simp),rfl⟩
 ·have he:(c == 128)=false:=by simpa using h
  by_cases hz:0<=c
  ·have hi:inB c 0 192=decide (c<=192):=by unfold inB;simp[hz]
   rw[if_neg h,hi];clear h hi;go_enter Tryz.func158,Tryz.ntmps158
   go_wp2_with (go_at_call 130;refine(HH.out _).mono ?_;rintro e w1 ⟨rfl,rfl⟩)
   go_ret;exact⟨rfl,rfl⟩
  ·have hi:inB c 0 192=false:=by rw[eO];omega
   rw[if_neg h,hi];clear h hi;go_enter Tryz.func158,Tryz.ntmps158
   go_wp2_with (go_at_call 130;refine(HH.out _).mono ?_;rintro e w1 ⟨rfl,rfl⟩)
   go_ret;exact⟨rfl,rfl⟩
theorem isCond_any(c:Int)(w:World):Calls Tryz.prog 129 #[.int .i64 c] w λ e w'=>e=.returned (.bool (condB c))/\w=w':=by
 unfold condB;by_cases h:c=0∨c=128∨c=144
 ·rw[if_pos h]
  rcases h with rfl|rfl|rfl
  all_goals
   go_enter Tryz.func129,Tryz.ntmps129
   go_wp2
   go_ret;exact⟨rfl,rfl⟩
 ·rw[if_neg h]
  have e0:(c == 0)=false:=by simp;omega
  have e1:(c == 128)=false:=by simp;omega
  have e2:(c == 144)=false:=by simp;omega
  by_cases hz:16<=c
  ·have hi:inB c 16 208=decide (c<=208):=by unfold inB;simp[hz]
   rw[hi];clear h hi;go_enter Tryz.func129,Tryz.ntmps129
   go_wp2
   go_ret;exact⟨rfl,rfl⟩
  ·have hi:inB c 16 208=false:=by rw[eO];omega
   rw[hi];clear h hi;go_enter Tryz.func129,Tryz.ntmps129
   go_wp2
   go_ret;exact⟨rfl,rfl⟩
def three(a:Int)(b c:Bool):Value:=.tuple #[.int .i64 a,.bool b,.bool c]
def AluP(op:Int)(w:World)(e:Ending)(w':World):Prop:=e=.returned (.tuple #[.int .i64 (if aluB op=true then op - op % 16 else 0),.bool (aluB op && decide (op % 8=7)),.bool (aluB op)])/\w=w'
def JmpP(op:Int)(w:World)(e:Ending)(w':World):Prop:=e=.returned (.tuple #[.int .i64 (if jmpB op=true then op - op % 16 else 0),.bool (jmpB op && decide (op % 8=5)),.bool (jmpB op)])/\w=w'
theorem aluB_split(op:Int):aluB op=((op % 8 == 4 || op % 8 == 7) && opnB op):=by
 unfold aluB opnB rg inB;rw[Bool.eq_iff_iff];by_cases h:op - op % 16=128
 ·rw[if_pos h];simp;omega
 ·rw[if_neg h];simp;omega
theorem jmpB_split(op:Int):jmpB op=((op % 8 == 5 || op % 8 == 6) && condB (op - op % 16)):=by
 unfold jmpB condB inB;rw[Bool.eq_iff_iff];by_cases h:op - op % 16=0∨op - op % 16=128∨op - op % 16=144
 ·rw[if_pos h];simp;omega
 ·rw[if_neg h];simp;omega
theorem fD(op:Int)(w:World)(h0:-9223372036854775808<=op)(h1:op<=9223372036854775807):Calls Tryz.prog 138 #[.int .i64 op] w (AluP op w):=by
 have HC:=aQ (λ W=>class_any op W);have HH:=aQ (λ W=>high_any op W h0 h1);have HO:=aQ (λ W=>isOp_any op W h0 h1);unfold AluP;rw[aluB_split];obtain⟨c,hc⟩:∃ c,op % 8=c:=⟨_,rfl⟩;obtain⟨H,hH⟩:∃ H,op - op % 16=H:=⟨_,rfl⟩;rw[hc]at HC ⊢;rw[hH]at HH ⊢;generalize opnB op=b at *;clear hc hH h0 h1;by_cases h7:c=7
 ·subst h7
  cases b
  all_goals
   go_enter Tryz.func138,Tryz.ntmps138
   go_wp2_with (first 
    | (go_at_call 128;refine(HC.out _).mono ?_;rintro e w1 ⟨rfl,rfl⟩)
    | (go_at_call 158;refine(HO.out _).mono ?_;rintro e w1 ⟨rfl,rfl⟩)
    | (go_at_call 130;refine(HH.out _).mono ?_;rintro e w1 ⟨rfl,rfl⟩))
   exact bodyPost_ret (by simp[results,Tryz.results138,go_sem]) rfl ⟨rfl,rfl⟩
 ·have e7:(c == 7)=false:=by simpa using h7
  by_cases h4:c=4
  ·subst h4
   clear e7 h7;cases b
   all_goals
    go_enter Tryz.func138,Tryz.ntmps138
    go_wp2_with (first 
    | (go_at_call 128;refine(HC.out _).mono ?_;rintro e w1 ⟨rfl,rfl⟩)
    | (go_at_call 158;refine(HO.out _).mono ?_;rintro e w1 ⟨rfl,rfl⟩)
    | (go_at_call 130;refine(HH.out _).mono ?_;rintro e w1 ⟨rfl,rfl⟩))
    exact bodyPost_ret (by simp[results,Tryz.results138,go_sem]) rfl ⟨rfl,rfl⟩
  ·have e4:(c == 4)=false:=by simpa using h4
   have hb:((c == 4 || c == 7) && b)=false:=by rw[e4,e7];rfl
   rw[hb];clear hb h4 h7;go_enter Tryz.func138,Tryz.ntmps138
   go_wp2_with (first 
    | (go_at_call 128;refine(HC.out _).mono ?_;rintro e w1 ⟨rfl,rfl⟩)
    | (go_at_call 158;refine(HO.out _).mono ?_;rintro e w1 ⟨rfl,rfl⟩)
    | (go_at_call 130;refine(HH.out _).mono ?_;rintro e w1 ⟨rfl,rfl⟩))
   exact bodyPost_ret (by simp[results,Tryz.results138,go_sem]) rfl ⟨rfl,rfl⟩
theorem jump_any(op:Int)(w:World)(h0:-9223372036854775808<=op)(h1:op<=9223372036854775807):Calls Tryz.prog 97 #[.int .i64 op] w (JmpP op w):=by
 have HC:=aQ (λ W=>class_any op W);have HH:=aQ (λ W=>high_any op W h0 h1);have HO:=aQ (λ W=>isCond_any (op - op % 16) W);unfold JmpP;rw[jmpB_split];obtain⟨c,hc⟩:∃ c,op % 8=c:=⟨_,rfl⟩;obtain⟨H,hH⟩:∃ H,op - op % 16=H:=⟨_,rfl⟩;rw[hc]at HC ⊢;rw[hH]at HH ⊢ HO;generalize condB H=b at *;clear hc hH h0 h1;by_cases h7:c=5
 ·subst h7
  cases b
  all_goals
   go_enter Tryz.func97,Tryz.ntmps97
   go_wp2_with (first 
    | (go_at_call 128;refine(HC.out _).mono ?_;rintro e w1 ⟨rfl,rfl⟩)
    | (go_at_call 129;refine(HO.out _).mono ?_;rintro e w1 ⟨rfl,rfl⟩)
    | (go_at_call 130;refine(HH.out _).mono ?_;rintro e w1 ⟨rfl,rfl⟩))
   exact bodyPost_ret (by simp[results,Tryz.results97,go_sem]) rfl ⟨rfl,rfl⟩
 ·have e7:(c == 5)=false:=by simpa using h7
  by_cases h4:c=6
  ·subst h4
   clear e7 h7;cases b
   all_goals
    go_enter Tryz.func97,Tryz.ntmps97
    go_wp2_with (first 
    | (go_at_call 128;refine(HC.out _).mono ?_;rintro e w1 ⟨rfl,rfl⟩)
    | (go_at_call 129;refine(HO.out _).mono ?_;rintro e w1 ⟨rfl,rfl⟩)
    | (go_at_call 130;refine(HH.out _).mono ?_;rintro e w1 ⟨rfl,rfl⟩))
    exact bodyPost_ret (by simp[results,Tryz.results97,go_sem]) rfl ⟨rfl,rfl⟩
  ·have e4:(c == 6)=false:=by simpa using h4
   have hb:((c == 5 || c == 6) && b)=false:=by rw[e7,e4];rfl
   rw[hb];clear hb h4 h7;go_enter Tryz.func97,Tryz.ntmps97
   go_wp2_with (first 
    | (go_at_call 128;refine(HC.out _).mono ?_;rintro e w1 ⟨rfl,rfl⟩)
    | (go_at_call 129;refine(HO.out _).mono ?_;rintro e w1 ⟨rfl,rfl⟩)
    | (go_at_call 130;refine(HH.out _).mono ?_;rintro e w1 ⟨rfl,rfl⟩))
   exact bodyPost_ret (by simp[results,Tryz.results97,go_sem]) rfl ⟨rfl,rfl⟩
theorem b_nlt{a b:Int}(h:¬ a<b):decide (a<b)=false:=decide_eq_false h
theorem ralu_any(op:Int)(w:World)(h0:-9223372036854775808<=op)(h1:op<=9223372036854775807):Calls Tryz.prog 59 #[.int .i64 op] w (AluP op w):=by
 unfold AluP;by_cases g1:op<0
 ·have hb:aluB op=false:=by rw[aluB_false];omega
  rw[hb];have e1:=eI op;have e2:=i64_high op h0 h1;clear hb h0 h1;go_enter Tryz.func59,Tryz.ntmps59
  go_wp2
  exact bodyPost_ret (by simp[results,Tryz.results59,go_sem]) rfl ⟨rfl,rfl⟩
 by_cases g2:255<op
 ·have hb:aluB op=false:=by rw[aluB_false];omega
  rw[hb];clear hb h0 h1;go_enter Tryz.func59,Tryz.ntmps59
  go_wp2
  exact bodyPost_ret (by simp[results,Tryz.results59,go_sem]) rfl ⟨rfl,rfl⟩
 have HB:=aQ (show aluB op=true↔_ from aluB_true);have HF:=aQ (show aluB op=false↔_ from aluB_false);have e1:=eI op;have e2:=i64_high op h0 h1;have e3:=i64_and8 op;obtain⟨c,hc⟩:∃ c,op % 8=c:=⟨_,rfl⟩;obtain⟨H,hH⟩:∃ H,op - op % 16=H:=⟨_,rfl⟩;rw[hc]at HB HF e1 ⊢;rw[hH]at HB HF e2 ⊢;have k1:=b_nlt g1;have k2:=b_nlt g2;have HHH:=aQ (show H<=op/\op<H+16/\H % 16=0 by omega);clear hc hH;by_cases g3:c=4∨c=7
 ·by_cases g4:192<H
  ·have hb:aluB op=false:=by rw[HF.out];have:=HHH.out;omega
   rw[hb];clear hb;rcases g3 with rfl|rfl
   all_goals
    go_enter Tryz.func59,Tryz.ntmps59
    go_wp2
    exact bodyPost_ret (by simp[results,Tryz.results59,go_sem]) rfl ⟨rfl,rfl⟩
  ·by_cases g5:H=128
   ·by_cases g6:8<=op % 16
    ·have hb:aluB op=false:=by rw[HF.out];omega
     rw[hb];rw[if_pos g6]at e3;clear hb g6;subst g5;rcases g3 with rfl|rfl
     all_goals
      go_enter Tryz.func59,Tryz.ntmps59
      go_wp2
      exact bodyPost_ret (by simp[results,Tryz.results59,go_sem]) rfl ⟨rfl,rfl⟩
    ·have hb:aluB op=true:=by rw[HB.out];have:=HHH.out;omega
     rw[hb];rw[if_neg g6]at e3;clear hb g6;subst g5;rcases g3 with rfl|rfl
     all_goals
      go_enter Tryz.func59,Tryz.ntmps59
      go_wp2
      exact bodyPost_ret (by simp[results,Tryz.results59,go_sem]) rfl ⟨rfl,rfl⟩
   ·have hb:aluB op=true:=by rw[HB.out];have:=HHH.out;omega
    have k5:(H == 128)=false:=by simpa using g5
    have k4:=b_nlt g4;rw[hb];clear hb g5;rcases g3 with rfl|rfl
    all_goals
     go_enter Tryz.func59,Tryz.ntmps59
     go_wp2
     exact bodyPost_ret (by simp[results,Tryz.results59,go_sem]) rfl ⟨rfl,rfl⟩
 ·have hb:aluB op=false:=by rw[HF.out];omega
  rw[hb];have k3:(c != 4)=true:=by simp;omega
  have k4:(c != 7)=true:=by simp;omega
  clear hb g3;go_enter Tryz.func59,Tryz.ntmps59
  go_wp2
  exact bodyPost_ret (by simp[results,Tryz.results59,go_sem]) rfl ⟨rfl,rfl⟩
theorem rjump_any(op:Int)(w:World)(h0:-9223372036854775808<=op)(h1:op<=9223372036854775807):Calls Tryz.prog 60 #[.int .i64 op] w (JmpP op w):=by
 unfold JmpP;by_cases g1:op<0
 ·have hb:jmpB op=false:=by rw[jmpB_false];omega
  rw[hb];have e1:=eI op;have e2:=i64_high op h0 h1;clear hb h0 h1;go_enter Tryz.func60,Tryz.ntmps60
  go_wp2
  exact bodyPost_ret (by simp[results,Tryz.results60,go_sem]) rfl ⟨rfl,rfl⟩
 by_cases g2:255<op
 ·have hb:jmpB op=false:=by rw[jmpB_false];omega
  rw[hb];clear hb h0 h1;go_enter Tryz.func60,Tryz.ntmps60
  go_wp2
  exact bodyPost_ret (by simp[results,Tryz.results60,go_sem]) rfl ⟨rfl,rfl⟩
 have HB:=aQ (show jmpB op=true↔_ from fF);have HF:=aQ (show jmpB op=false↔_ from jmpB_false);have e1:=eI op;have e2:=i64_high op h0 h1;obtain⟨c,hc⟩:∃ c,op % 8=c:=⟨_,rfl⟩;obtain⟨H,hH⟩:∃ H,op - op % 16=H:=⟨_,rfl⟩;rw[hc]at HB HF e1 ⊢;rw[hH]at HB HF e2 ⊢;have k1:=b_nlt g1;have k2:=b_nlt g2;have HHH:=aQ (show H<=op/\op<H+16/\H % 16=0 by omega);clear hc hH;by_cases g3:c=5∨c=6
 ·by_cases g5:H=0∨H=128∨H=144
  ·have hb:jmpB op=false:=by rw[HF.out];have:=HHH.out;omega
   rw[hb];clear hb HHH;rcases g5 with rfl|rfl|rfl
   all_goals
    rcases g3 with rfl|rfl
    all_goals
     go_enter Tryz.func60,Tryz.ntmps60
     go_wp2
     exact bodyPost_ret (by simp[results,Tryz.results60,go_sem]) rfl ⟨rfl,rfl⟩
  ·have k5:(H == 0)=false:=by simp;omega
   have k6:(H == 128)=false:=by simp;omega
   have k7:(H == 144)=false:=by simp;omega
   by_cases g4:208<H
   ·have hb:jmpB op=false:=by rw[HF.out];have:=HHH.out;omega
    rw[hb];clear hb g5;rcases g3 with rfl|rfl
    all_goals
     go_enter Tryz.func60,Tryz.ntmps60
     go_wp2
     exact bodyPost_ret (by simp[results,Tryz.results60,go_sem]) rfl ⟨rfl,rfl⟩
   ·have hb:jmpB op=true:=by rw[HB.out];have:=HHH.out;omega
    have k4:=b_nlt g4;rw[hb];clear hb g5;rcases g3 with rfl|rfl
    all_goals
     go_enter Tryz.func60,Tryz.ntmps60
     go_wp2
     exact bodyPost_ret (by simp[results,Tryz.results60,go_sem]) rfl ⟨rfl,rfl⟩
 ·have hb:jmpB op=false:=by rw[HF.out];omega
  rw[hb];have k3:(c != 5)=true:=by simp;omega
  have k4:(c != 6)=true:=by simp;omega
  clear hb g3;go_enter Tryz.func60,Tryz.ntmps60
  go_wp2
  exact bodyPost_ret (by simp[results,Tryz.results60,go_sem]) rfl ⟨rfl,rfl⟩
end Go.Proofs.YtkfahppdklecdaaGreatDoor
