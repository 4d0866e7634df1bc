import Derived.Test.YtkfahppdklecdaaGreatDoorZ11
set_option maxRecDepth 100000
set_option maxHeartbeats 16000000
namespace Go.Proofs.YtkfahppdklecdaaGreatDoor
open Go.RowKit M
theorem rneg0(w:World):Calls Tryz.prog 120 #[.int .u64 0,.bool true] w λ e w'=>e=.returned (.bool false)/\w=w':=by
 go_enter Tryz.func120,Tryz.ntmps120
 go_wp2_with fail
 go_ret;exact⟨rfl,rfl⟩
theorem rshift0_96(w:World):Calls Tryz.prog 114 #[.int .i64 96,.int .u64 0,.int .i64 0,.bool true] w λ e w'=>e=.returned (.int .u64 0)/\w=w':=by
 have H:=aQ (λ W=>rneg0 W);go_enter Tryz.func114,Tryz.ntmps114
 go_wp2_with (go_at_call 120;refine(H.out _).mono ?_;rintro e w1 ⟨rfl,rfl⟩)
 go_loopw [10,1] (λ i v wr=>i=.int .i64 0/\v=.int .u64 0/\w=wr) (λ _ _ _=>0)
 case atStart=>exact⟨rfl,rfl,rfl⟩
 case round =>
  obtain⟨rfl,rfl,rfl⟩:=hrel;go_wp2_with fail
  go_ret;exact⟨rfl,rfl⟩
theorem rshift0_112(w:World):Calls Tryz.prog 114 #[.int .i64 112,.int .u64 0,.int .i64 0,.bool true] w λ e w'=>e=.returned (.int .u64 0)/\w=w':=by
 have H:=aQ (λ W=>rneg0 W);go_enter Tryz.func114,Tryz.ntmps114
 go_wp2_with (go_at_call 120;refine(H.out _).mono ?_;rintro e w1 ⟨rfl,rfl⟩)
 go_loopw [10,1] (λ i v wr=>i=.int .i64 0/\v=.int .u64 0/\w=wr) (λ _ _ _=>0)
 case atStart=>exact⟨rfl,rfl,rfl⟩
 case round =>
  obtain⟨rfl,rfl,rfl⟩:=hrel;go_wp2_with fail
  go_ret;exact⟨rfl,rfl⟩
theorem rshift0_192(w:World):Calls Tryz.prog 114 #[.int .i64 192,.int .u64 0,.int .i64 0,.bool true] w λ e w'=>e=.returned (.int .u64 0)/\w=w':=by
 have H:=aQ (λ W=>rneg0 W);go_enter Tryz.func114,Tryz.ntmps114
 go_wp2_with (go_at_call 120;refine(H.out _).mono ?_;rintro e w1 ⟨rfl,rfl⟩)
 go_loopw [10,1] (λ i v wr=>i=.int .i64 0/\v=.int .u64 0/\w=wr) (λ _ _ _=>0)
 case atStart=>exact⟨rfl,rfl,rfl⟩
 case round =>
  obtain⟨rfl,rfl,rfl⟩:=hrel;go_wp2_with fail
  go_ret;exact⟨rfl,rfl⟩
theorem ralu0_0(w:World):Calls Tryz.prog 81 #[.int .i64 0,.int .u64 0,.int .u64 0,.bool true] w λ e w'=>(∃ r,e=.returned (.tuple #[.int .u64 r,.bool true]))/\w=w':=by
 go_enter Tryz.func81,Tryz.ntmps81
 go_wp2_with fail
 go_ret2;exact⟨⟨_,rfl⟩,rfl⟩
theorem ralu0_16(w:World):Calls Tryz.prog 81 #[.int .i64 16,.int .u64 0,.int .u64 0,.bool true] w λ e w'=>(∃ r,e=.returned (.tuple #[.int .u64 r,.bool true]))/\w=w':=by
 go_enter Tryz.func81,Tryz.ntmps81
 go_wp2_with fail
 go_ret2;exact⟨⟨_,rfl⟩,rfl⟩
theorem ralu0_32(w:World):Calls Tryz.prog 81 #[.int .i64 32,.int .u64 0,.int .u64 0,.bool true] w λ e w'=>(∃ r,e=.returned (.tuple #[.int .u64 r,.bool true]))/\w=w':=by
 go_enter Tryz.func81,Tryz.ntmps81
 go_wp2_with fail
 go_ret2;exact⟨⟨_,rfl⟩,rfl⟩
theorem ralu0_48(w:World):Calls Tryz.prog 81 #[.int .i64 48,.int .u64 0,.int .u64 0,.bool true] w λ e w'=>(∃ r,e=.returned (.tuple #[.int .u64 r,.bool true]))/\w=w':=by
 go_enter Tryz.func81,Tryz.ntmps81
 go_wp2_with fail
 go_ret2;exact⟨⟨_,rfl⟩,rfl⟩
theorem ralu0_64(w:World):Calls Tryz.prog 81 #[.int .i64 64,.int .u64 0,.int .u64 0,.bool true] w λ e w'=>(∃ r,e=.returned (.tuple #[.int .u64 r,.bool true]))/\w=w':=by
 go_enter Tryz.func81,Tryz.ntmps81
 go_wp2_with fail
 go_ret2;exact⟨⟨_,rfl⟩,rfl⟩
theorem ralu0_80(w:World):Calls Tryz.prog 81 #[.int .i64 80,.int .u64 0,.int .u64 0,.bool true] w λ e w'=>(∃ r,e=.returned (.tuple #[.int .u64 r,.bool true]))/\w=w':=by
 go_enter Tryz.func81,Tryz.ntmps81
 go_wp2_with fail
 go_ret2;exact⟨⟨_,rfl⟩,rfl⟩
theorem ralu0_96(w:World):Calls Tryz.prog 81 #[.int .i64 96,.int .u64 0,.int .u64 0,.bool true] w λ e w'=>(∃ r,e=.returned (.tuple #[.int .u64 r,.bool true]))/\w=w':=by
 have H:=aQ (λ W=>rshift0_96 W);go_enter Tryz.func81,Tryz.ntmps81
 go_wp2_with (go_at_call 114;refine(H.out _).mono ?_;rintro e w1 ⟨rfl,rfl⟩)
 go_ret2;exact⟨⟨_,rfl⟩,rfl⟩
theorem ralu0_112(w:World):Calls Tryz.prog 81 #[.int .i64 112,.int .u64 0,.int .u64 0,.bool true] w λ e w'=>(∃ r,e=.returned (.tuple #[.int .u64 r,.bool true]))/\w=w':=by
 have H:=aQ (λ W=>rshift0_112 W);go_enter Tryz.func81,Tryz.ntmps81
 go_wp2_with (go_at_call 114;refine(H.out _).mono ?_;rintro e w1 ⟨rfl,rfl⟩)
 go_ret2;exact⟨⟨_,rfl⟩,rfl⟩
theorem ralu0_128(w:World):Calls Tryz.prog 81 #[.int .i64 128,.int .u64 0,.int .u64 0,.bool true] w λ e w'=>(∃ r,e=.returned (.tuple #[.int .u64 r,.bool true]))/\w=w':=by
 go_enter Tryz.func81,Tryz.ntmps81
 go_wp2_with fail
 go_ret2;exact⟨⟨_,rfl⟩,rfl⟩
theorem ralu0_144(w:World):Calls Tryz.prog 81 #[.int .i64 144,.int .u64 0,.int .u64 0,.bool true] w λ e w'=>(∃ r,e=.returned (.tuple #[.int .u64 r,.bool true]))/\w=w':=by
 go_enter Tryz.func81,Tryz.ntmps81
 go_wp2_with fail
 go_ret2;exact⟨⟨_,rfl⟩,rfl⟩
theorem ralu0_160(w:World):Calls Tryz.prog 81 #[.int .i64 160,.int .u64 0,.int .u64 0,.bool true] w λ e w'=>(∃ r,e=.returned (.tuple #[.int .u64 r,.bool true]))/\w=w':=by
 go_enter Tryz.func81,Tryz.ntmps81
 go_wp2_with fail
 go_ret2;exact⟨⟨_,rfl⟩,rfl⟩
theorem ralu0_176(w:World):Calls Tryz.prog 81 #[.int .i64 176,.int .u64 0,.int .u64 0,.bool true] w λ e w'=>(∃ r,e=.returned (.tuple #[.int .u64 r,.bool true]))/\w=w':=by
 go_enter Tryz.func81,Tryz.ntmps81
 go_wp2_with fail
 go_ret2;exact⟨⟨_,rfl⟩,rfl⟩
theorem ralu0_192(w:World):Calls Tryz.prog 81 #[.int .i64 192,.int .u64 0,.int .u64 0,.bool true] w λ e w'=>(∃ r,e=.returned (.tuple #[.int .u64 r,.bool true]))/\w=w':=by
 have H:=aQ (λ W=>rshift0_192 W);go_enter Tryz.func81,Tryz.ntmps81
 go_wp2_with (go_at_call 114;refine(H.out _).mono ?_;rintro e w1 ⟨rfl,rfl⟩)
 go_ret2;exact⟨⟨_,rfl⟩,rfl⟩
theorem fJ(sg:Bool)(w:World):Calls Tryz.prog 85 #[.int .u64 0,.int .u64 0,.bool sg,.bool true] w λ e w'=>e=.returned (.bool false)/\w=w':=by
 have H:=aQ (λ W=>rneg0 W);cases sg with
 | false =>
  go_enter Tryz.func85,Tryz.ntmps85
  go_wp2_with (go_at_call 120;refine(H.out _).mono ?_;rintro e w1 ⟨rfl,rfl⟩)
  go_ret;exact⟨rfl,rfl⟩
 | true =>
  go_enter Tryz.func85,Tryz.ntmps85
  go_wp2_with (go_at_call 120;refine(H.out _).mono ?_;rintro e w1 ⟨rfl,rfl⟩)
  all_goals first
   | (go_region_with (go_at_call 120;refine(H.out _).mono ?_;rintro e w1 ⟨rfl,rfl⟩))
   | skip
  all_goals go_wp2_with (go_at_call 120;refine(H.out _).mono ?_;rintro e w1 ⟨rfl,rfl⟩)
  all_goals go_ret
  all_goals exact⟨rfl,rfl⟩
theorem rcond0_16(w:World):Calls Tryz.prog 40 #[.int .i64 16,.int .u64 0,.int .u64 0,.bool true] w λ e w'=>(∃ r,e=.returned (.tuple #[.bool r,.bool true]))/\w=w':=by
 have H:=aQ (λ b W=>fJ b W);go_enter Tryz.func40,Tryz.ntmps40
 go_wp2_with (go_at_call 85;refine(H.out _ _).mono ?_;rintro e w1 ⟨rfl,rfl⟩)
 go_ret2;exact⟨⟨_,rfl⟩,rfl⟩
theorem rcond0_32(w:World):Calls Tryz.prog 40 #[.int .i64 32,.int .u64 0,.int .u64 0,.bool true] w λ e w'=>(∃ r,e=.returned (.tuple #[.bool r,.bool true]))/\w=w':=by
 have H:=aQ (λ b W=>fJ b W);go_enter Tryz.func40,Tryz.ntmps40
 go_wp2_with (go_at_call 85;refine(H.out _ _).mono ?_;rintro e w1 ⟨rfl,rfl⟩)
 go_ret2;exact⟨⟨_,rfl⟩,rfl⟩
theorem rcond0_48(w:World):Calls Tryz.prog 40 #[.int .i64 48,.int .u64 0,.int .u64 0,.bool true] w λ e w'=>(∃ r,e=.returned (.tuple #[.bool r,.bool true]))/\w=w':=by
 have H:=aQ (λ b W=>fJ b W);go_enter Tryz.func40,Tryz.ntmps40
 go_wp2_with (go_at_call 85;refine(H.out _ _).mono ?_;rintro e w1 ⟨rfl,rfl⟩)
 go_ret2;exact⟨⟨_,rfl⟩,rfl⟩
theorem rcond0_64(w:World):Calls Tryz.prog 40 #[.int .i64 64,.int .u64 0,.int .u64 0,.bool true] w λ e w'=>(∃ r,e=.returned (.tuple #[.bool r,.bool true]))/\w=w':=by
 have H:=aQ (λ b W=>fJ b W);go_enter Tryz.func40,Tryz.ntmps40
 go_wp2_with (go_at_call 85;refine(H.out _ _).mono ?_;rintro e w1 ⟨rfl,rfl⟩)
 go_ret2;exact⟨⟨_,rfl⟩,rfl⟩
theorem rcond0_80(w:World):Calls Tryz.prog 40 #[.int .i64 80,.int .u64 0,.int .u64 0,.bool true] w λ e w'=>(∃ r,e=.returned (.tuple #[.bool r,.bool true]))/\w=w':=by
 have H:=aQ (λ b W=>fJ b W);go_enter Tryz.func40,Tryz.ntmps40
 go_wp2_with (go_at_call 85;refine(H.out _ _).mono ?_;rintro e w1 ⟨rfl,rfl⟩)
 go_ret2;exact⟨⟨_,rfl⟩,rfl⟩
theorem rcond0_96(w:World):Calls Tryz.prog 40 #[.int .i64 96,.int .u64 0,.int .u64 0,.bool true] w λ e w'=>(∃ r,e=.returned (.tuple #[.bool r,.bool true]))/\w=w':=by
 have H:=aQ (λ b W=>fJ b W);go_enter Tryz.func40,Tryz.ntmps40
 go_wp2_with (go_at_call 85;refine(H.out _ _).mono ?_;rintro e w1 ⟨rfl,rfl⟩)
 go_ret2;exact⟨⟨_,rfl⟩,rfl⟩
theorem rcond0_112(w:World):Calls Tryz.prog 40 #[.int .i64 112,.int .u64 0,.int .u64 0,.bool true] w λ e w'=>(∃ r,e=.returned (.tuple #[.bool r,.bool true]))/\w=w':=by
 have H:=aQ (λ b W=>fJ b W);go_enter Tryz.func40,Tryz.ntmps40
 go_wp2_with (go_at_call 85;refine(H.out _ _).mono ?_;rintro e w1 ⟨rfl,rfl⟩)
 go_ret2;exact⟨⟨_,rfl⟩,rfl⟩
theorem rcond0_160(w:World):Calls Tryz.prog 40 #[.int .i64 160,.int .u64 0,.int .u64 0,.bool true] w λ e w'=>(∃ r,e=.returned (.tuple #[.bool r,.bool true]))/\w=w':=by
 have H:=aQ (λ b W=>fJ b W);go_enter Tryz.func40,Tryz.ntmps40
 go_wp2_with (go_at_call 85;refine(H.out _ _).mono ?_;rintro e w1 ⟨rfl,rfl⟩)
 go_ret2;exact⟨⟨_,rfl⟩,rfl⟩
theorem rcond0_176(w:World):Calls Tryz.prog 40 #[.int .i64 176,.int .u64 0,.int .u64 0,.bool true] w λ e w'=>(∃ r,e=.returned (.tuple #[.bool r,.bool true]))/\w=w':=by
 have H:=aQ (λ b W=>fJ b W);go_enter Tryz.func40,Tryz.ntmps40
 go_wp2_with (go_at_call 85;refine(H.out _ _).mono ?_;rintro e w1 ⟨rfl,rfl⟩)
 go_ret2;exact⟨⟨_,rfl⟩,rfl⟩
theorem rcond0_192(w:World):Calls Tryz.prog 40 #[.int .i64 192,.int .u64 0,.int .u64 0,.bool true] w λ e w'=>(∃ r,e=.returned (.tuple #[.bool r,.bool true]))/\w=w':=by
 have H:=aQ (λ b W=>fJ b W);go_enter Tryz.func40,Tryz.ntmps40
 go_wp2_with (go_at_call 85;refine(H.out _ _).mono ?_;rintro e w1 ⟨rfl,rfl⟩)
 go_ret2;exact⟨⟨_,rfl⟩,rfl⟩
theorem rcond0_208(w:World):Calls Tryz.prog 40 #[.int .i64 208,.int .u64 0,.int .u64 0,.bool true] w λ e w'=>(∃ r,e=.returned (.tuple #[.bool r,.bool true]))/\w=w':=by
 have H:=aQ (λ b W=>fJ b W);go_enter Tryz.func40,Tryz.ntmps40
 go_wp2_with (go_at_call 85;refine(H.out _ _).mono ?_;rintro e w1 ⟨rfl,rfl⟩)
 go_ret2;exact⟨⟨_,rfl⟩,rfl⟩
def opsB(n:Int):Bool:=decide (n=0∨n=16∨n=32∨n=48∨n=64∨n=80∨n=96∨n=112∨n=128∨n=144∨n=160∨n=176∨n=192)
def cndB(n:Int):Bool:=decide (n=16∨n=32∨n=48∨n=64∨n=80∨n=96∨n=112∨n=160∨n=176∨n=192∨n=208)
theorem ralu0_yes(n:Int)(h:opsB n=true)(w:World):Calls Tryz.prog 81 #[.int .i64 n,.int .u64 0,.int .u64 0,.bool true] w λ e w'=>(∃ r,e=.returned (.tuple #[.int .u64 r,.bool true]))/\w=w':=by
 unfold opsB at h;rcases of_decide_eq_true h with rfl|rfl|rfl|rfl|rfl|rfl|rfl|rfl|rfl|rfl|rfl|rfl|rfl
 ·exact ralu0_0 w
 ·exact ralu0_16 w
 ·exact ralu0_32 w
 ·exact ralu0_48 w
 ·exact ralu0_64 w
 ·exact ralu0_80 w
 ·exact ralu0_96 w
 ·exact ralu0_112 w
 ·exact ralu0_128 w
 ·exact ralu0_144 w
 ·exact ralu0_160 w
 ·exact ralu0_176 w
 ·exact ralu0_192 w
theorem rcond0_yes(n:Int)(h:cndB n=true)(w:World):Calls Tryz.prog 40 #[.int .i64 n,.int .u64 0,.int .u64 0,.bool true] w λ e w'=>(∃ r,e=.returned (.tuple #[.bool r,.bool true]))/\w=w':=by
 unfold cndB at h;rcases of_decide_eq_true h with rfl|rfl|rfl|rfl|rfl|rfl|rfl|rfl|rfl|rfl|rfl
 ·exact rcond0_16 w
 ·exact rcond0_32 w
 ·exact rcond0_48 w
 ·exact rcond0_64 w
 ·exact rcond0_80 w
 ·exact rcond0_96 w
 ·exact rcond0_112 w
 ·exact rcond0_160 w
 ·exact rcond0_176 w
 ·exact rcond0_192 w
 ·exact rcond0_208 w
theorem rcond0_no(n:Int)(h:cndB n=false)(w:World):Calls Tryz.prog 40 #[.int .i64 n,.int .u64 0,.int .u64 0,.bool true] w λ e w'=>e=.returned (.tuple #[.bool false,.bool false])/\w=w':=by
 have hn:∀ k:Int,cndB k=true->(n == k)=false:=λ k hk=>by
  cases e:n == k
  ·rfl
  ·rw[eq_of_beq e]at h;rw[hk]at h;cases h
 have e16:=hn 16 (by decide);have e32:=hn 32 (by decide);have e48:=hn 48 (by decide);have e64:=hn 64 (by decide);have e80:=hn 80 (by decide);have e96:=hn 96 (by decide);have e112:=hn 112 (by decide);have e160:=hn 160 (by decide);have e176:=hn 176 (by decide);have e192:=hn 192 (by decide);have e208:=hn 208 (by decide);clear hn h;go_enter Tryz.func40,Tryz.ntmps40
 go_wp2_with fail
 go_ret2;exact⟨rfl,rfl⟩
def isSz(n:Int):Bool:=decide (n=1∨n=2∨n=4∨n=8)
theorem rsz_yes(n:Int)(h:isSz n=true)(w:World):Calls Tryz.prog 108 #[.int .i64 n] w λ e w'=>e=.returned (.bool true)/\w=w':=by
 unfold isSz at h;rcases of_decide_eq_true h with rfl|rfl|rfl|rfl
 all_goals
  go_enter Tryz.func108,Tryz.ntmps108
  go_wp2_with fail
  go_ret;exact⟨rfl,rfl⟩
def arity(n:Int):Nat:=if n=2 then 1 else if n=3 then 2 else if n=4 then 2 else if n=5 then 3 else 0
def TabR(n:Int)(w:World)(e:Ending)(w':World):Prop:=∃ s p c m,e=.returned (.tuple #[.agg #[.string s,.slice p (arity n) c,.int .i64 m],.bool true])/\Below w.heap.size w w'
theorem rtabR_1(w:World):Calls Tryz.prog 109 #[.int .i64 1] w (TabR 1 w):=by
 go_enter Tryz.func109,Tryz.ntmps109
 go_wp2
 exact bodyPost_ret (v:=.tuple #[.agg #[.string ⟨#[110,111,119]⟩,.slice none 0 0,.int .i64 0],.bool true]) (by simp[results,Tryz.results109,go_sem]) rfl ⟨_,_,_,_,rfl,b1⟩
theorem rtabR_2(w:World):Calls Tryz.prog 109 #[.int .i64 2] w (TabR 2 w):=by
 go_enter Tryz.func109,Tryz.ntmps109
 go_wp2
 exact bodyPost_ret (v:=.tuple #[.agg #[.string ⟨#[112,117,116]⟩,.slice (some ⟨w.heap.size+1,0,none⟩) 1 1,.int .i64 0],.bool true]) (by simp[results,Tryz.results109,go_sem]) rfl ⟨_,_,_,_,rfl,b2⟩
theorem rtabR_3(w:World):Calls Tryz.prog 109 #[.int .i64 3] w (TabR 3 w):=by
 go_enter Tryz.func109,Tryz.ntmps109
 go_wp2
 exact bodyPost_ret (v:=.tuple #[.agg #[.string ⟨#[115,101,110,100]⟩,.slice (some ⟨w.heap.size+1,0,none⟩) 2 2,.int .i64 64],.bool true]) (by simp[results,Tryz.results109,go_sem]) rfl ⟨_,_,_,_,rfl,b2⟩
theorem rtabR_4(w:World):Calls Tryz.prog 109 #[.int .i64 4] w (TabR 4 w):=by
 go_enter Tryz.func109,Tryz.ntmps109
 go_wp2
 exact bodyPost_ret (v:=.tuple #[.agg #[.string ⟨#[114,101,99,118]⟩,.slice (some ⟨w.heap.size+1,0,none⟩) 2 2,.int .i64 64],.bool true]) (by simp[results,Tryz.results109,go_sem]) rfl ⟨_,_,_,_,rfl,b2⟩
theorem rtabR_5(w:World):Calls Tryz.prog 109 #[.int .i64 5] w (TabR 5 w):=by
 go_enter Tryz.func109,Tryz.ntmps109
 go_wp2
 exact bodyPost_ret (v:=.tuple #[.agg #[.string ⟨#[109,105,120]⟩,.slice (some ⟨w.heap.size+1,0,none⟩) 3 3,.int .i64 0],.bool true]) (by simp[results,Tryz.results109,go_sem]) rfl ⟨_,_,_,_,rfl,b2⟩
theorem rtabR_any(n:Int)(h1:1<=n)(h5:n<=5)(w:World):Calls Tryz.prog 109 #[.int .i64 n] w (TabR n w):=by
 have:n=1∨n=2∨n=3∨n=4∨n=5:=by omega
 rcases this with rfl|rfl|rfl|rfl|rfl
 ·exact rtabR_1 w
 ·exact rtabR_2 w
 ·exact rtabR_3 w
 ·exact rtabR_4 w
 ·exact rtabR_5 w
end Go.Proofs.YtkfahppdklecdaaGreatDoor
