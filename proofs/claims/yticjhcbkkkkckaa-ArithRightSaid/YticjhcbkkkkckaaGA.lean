/- Package arith: the receiver of its methods in a box; what is said of a number by its bits, from where to where; sums and differences that are told. -/
import Derived.Test.YticjhcbkkkkckaaNP
import Derived.Test.YticjhcbkkkkckaaNU
import Derived.Test.YticjhcbkkkkckaaNV
import Derived.Test.YticjhcbkkkkckaaGV
import Derived.Laws.Externs
import Derived.RegionTactic
import Derived.ChangeAlike

/- Package arith: the receiver of its methods in a box; what is said of a number by its bits, from where to where; sums and differences that are told. -/
namespace Go.Proofs.Yticjhcbkkkkckaa
open Go.RowKit
attribute [local go_sem] b_and b_or b_xor b_andNot b_low b_top b_most b_signed b_unsigned b_zero b_eq s_eq b_nzero b_neq s_neq b_max b_min s_max s_min
attribute [local go_sem ↓] Go.wp_at_zero Go.wp_at_succ
attribute [local go_sem] b_add b_sub b_mul b_neg b_two s_add s_sub

/-- the receiver's cells -/
def ov (a b : Bd) (g : Bool) : List Value := [.int .u64 (U a.ul), .int .u64 (U a.uh), .int .i64 (S a.sl), .int .i64 (S a.sh), .int .u64 (U a.t.v), .int .u64 (U a.t.m), .int .u64 (U b.ul), .int .u64 (U b.uh), .int .i64 (S b.sl), .int .i64 (S b.sh), .int .u64 (U b.t.v), .int .u64 (U b.t.m), .bool g]
/-- the receiver in its box, the answer's place still empty -/
structure Oz (w W : World) (a b : Bd) (g : Bool) : Prop where
  low : Below w.heap.size w W
  fo : Box W w.heap.size (ov a b g)
  fz : Box W (w.heap.size + 1) (bv bzero)
theorem Oz.start (w : World) (a b : Bd) (g : Bool) (t t' : TypeId) : Oz w ((w.alloc (.cells #[.int .u64 (U a.ul), .int .u64 (U a.uh), .int .i64 (S a.sl), .int .i64 (S a.sh), .int .u64 (U a.t.v), .int .u64 (U a.t.m), .int .u64 (U b.ul), .int .u64 (U b.uh), .int .i64 (S b.sl), .int .i64 (S b.sh), .int .u64 (U b.t.v), .int .u64 (U b.t.m), .bool g] t)).alloc (.cells #[.int .u64 0, .int .u64 0, .int .i64 0, .int .i64 0, .int .u64 0, .int .u64 0] t')) a b g :=
  ⟨b2, (Box.new w (ov a b g) t rfl).alloc _, box_z2 w _ _⟩
theorem Oz.next {w W W' : World} {a b : Bd} {g : Bool} (h : Oz w W a b g) (hb : Below W.heap.size W W') : Oz w W' a b g := ⟨bnext h.low hb, h.fo.next hb, h.fz.next hb⟩
theorem Oz.drew {w W : World} {a b : Bd} {g : Bool} (h : Oz w W a b g) : Oz w W.drew a b g := h.next (Below.refl _ _).drew
theorem Oz.alloc {w W : World} {a b : Bd} {g : Bool} (h : Oz w W a b g) (o : Obj) : Oz w (W.alloc o) a b g := h.next ((Below.refl _ _).alloc (Nat.le_refl _) o)
theorem Box.ops {W : World} {n : Nat} {a b : Bd} {g : Bool} (h : Box W n (ov a b g)) :
    (W.cell? ⟨n, 0, none⟩ = some (.int .u64 (U a.ul)) ∧ W.cell? ⟨n, 1, none⟩ = some (.int .u64 (U a.uh)) ∧ W.cell? ⟨n, 2, none⟩ = some (.int .i64 (S a.sl)) ∧ W.cell? ⟨n, 3, none⟩ = some (.int .i64 (S a.sh)) ∧ W.cell? ⟨n, 4, none⟩ = some (.int .u64 (U a.t.v)) ∧ W.cell? ⟨n, 5, none⟩ = some (.int .u64 (U a.t.m))) ∧ (W.cell? ⟨n, 6, none⟩ = some (.int .u64 (U b.ul)) ∧ W.cell? ⟨n, 7, none⟩ = some (.int .u64 (U b.uh)) ∧ W.cell? ⟨n, 8, none⟩ = some (.int .i64 (S b.sl)) ∧ W.cell? ⟨n, 9, none⟩ = some (.int .i64 (S b.sh)) ∧ W.cell? ⟨n, 10, none⟩ = some (.int .u64 (U b.t.v)) ∧ W.cell? ⟨n, 11, none⟩ = some (.int .u64 (U b.t.m)) ∧ W.cell? ⟨n, 12, none⟩ = some (.bool g)) ∧ n < W.heap.size :=
  ⟨⟨h.cell 0 _ rfl, h.cell 1 _ rfl, h.cell 2 _ rfl, h.cell 3 _ rfl, h.cell 4 _ rfl, h.cell 5 _ rfl⟩, ⟨h.cell 6 _ rfl, h.cell 7 _ rfl, h.cell 8 _ rfl, h.cell 9 _ rfl, h.cell 10 _ rfl, h.cell 11 _ rfl, h.cell 12 _ rfl⟩, h.lt⟩
theorem Oz.f {w W : World} {a b : Bd} {g : Bool} (h : Oz w W a b g) :
    ((W.cell? ⟨w.heap.size, 0, none⟩ = some (.int .u64 (U a.ul)) ∧ W.cell? ⟨w.heap.size, 1, none⟩ = some (.int .u64 (U a.uh)) ∧ W.cell? ⟨w.heap.size, 2, none⟩ = some (.int .i64 (S a.sl)) ∧ W.cell? ⟨w.heap.size, 3, none⟩ = some (.int .i64 (S a.sh)) ∧ W.cell? ⟨w.heap.size, 4, none⟩ = some (.int .u64 (U a.t.v)) ∧ W.cell? ⟨w.heap.size, 5, none⟩ = some (.int .u64 (U a.t.m))) ∧ (W.cell? ⟨w.heap.size, 6, none⟩ = some (.int .u64 (U b.ul)) ∧ W.cell? ⟨w.heap.size, 7, none⟩ = some (.int .u64 (U b.uh)) ∧ W.cell? ⟨w.heap.size, 8, none⟩ = some (.int .i64 (S b.sl)) ∧ W.cell? ⟨w.heap.size, 9, none⟩ = some (.int .i64 (S b.sh)) ∧ W.cell? ⟨w.heap.size, 10, none⟩ = some (.int .u64 (U b.t.v)) ∧ W.cell? ⟨w.heap.size, 11, none⟩ = some (.int .u64 (U b.t.m)) ∧ W.cell? ⟨w.heap.size, 12, none⟩ = some (.bool g)) ∧ w.heap.size < W.heap.size) ∧
    (W.cell? ⟨w.heap.size + 1, 0, none⟩ = some (.int .u64 0) ∧ W.cell? ⟨w.heap.size + 1, 1, none⟩ = some (.int .u64 0) ∧ W.cell? ⟨w.heap.size + 1, 2, none⟩ = some (.int .i64 0) ∧ W.cell? ⟨w.heap.size + 1, 3, none⟩ = some (.int .i64 0) ∧ W.cell? ⟨w.heap.size + 1, 4, none⟩ = some (.int .u64 0) ∧ W.cell? ⟨w.heap.size + 1, 5, none⟩ = some (.int .u64 0)) ∧ (∀ i, W.frozen? ⟨w.heap.size + 1, i, none⟩ = false) ∧ w.heap.size + 1 < W.heap.size := ⟨h.fo.ops, h.fz.six0⟩
/-- all numbers with such bits -/
def havB (t : Tn) : Bd := { bany with t := t }
/-- all numbers from here to there -/
def fromB (x y : B) : Bd := { bany with ul := x, uh := y }
set_option maxRecDepth 100000 in
theorem having_any (t : Tn) (w : World) : Calls Try.prog 60 #[.agg #[.int .u64 (U t.v), .int .u64 (U t.m)]] w fun e w' => e = .returned (.agg #[.int .u64 (U (havB t).ul), .int .u64 (U (havB t).uh), .int .i64 (S (havB t).sl), .int .i64 (S (havB t).sh), .int .u64 (U (havB t).t.v), .int .u64 (U (havB t).t.m)]) ∧ Below w.heap.size w w' := by
  have HA := Lib.hid (fun W => bany_any W)
  unfold havB
  generalize bany = c at *
  go_enter Try.func60, Try.ntmps60
  go_wp2_with (go_at_call 17; (with_reducible refine (HA.out _).mono ?_); rintro e w1 ⟨rfl, hb⟩; have B1 := Lib.hid (bl2 hb).1; have z1 := (bl2 hb).2; have p1 := ((Box.new w [.int .u64 (U t.v), .int .u64 (U t.m)] 24 rfl).alloc _).next hb; have q1 := p1.two; have p2 := (box_z2 w _ _).next hb; have q2 := p2.six0; clear p1 p2 hb)
  exact bodyPost_ret (by simp [results, Try.results60, go_sem, q2]) rfl ⟨rfl, by repeat (first | with_reducible exact B1.out | with_reducible refine Below.setCell ?_ (by first | (simp; omega) | simp) _ | with_reducible refine Below.alloc ?_ (by have := B1.out.size; simp; omega) _)⟩
set_option maxRecDepth 100000 in
theorem from_any (x y : B) (w : World) : Calls Try.prog 68 #[.int .u64 (U x), .int .u64 (U y)] w fun e w' => e = .returned (.agg #[.int .u64 (U (fromB x y).ul), .int .u64 (U (fromB x y).uh), .int .i64 (S (fromB x y).sl), .int .i64 (S (fromB x y).sh), .int .u64 (U (fromB x y).t.v), .int .u64 (U (fromB x y).t.m)]) ∧ Below w.heap.size w w' := by
  have HA := Lib.hid (fun W => bany_any W)
  unfold fromB
  generalize bany = c at *
  go_enter Try.func68, Try.ntmps68
  go_wp2_with (go_at_call 17; (with_reducible refine (HA.out _).mono ?_); rintro e w1 ⟨rfl, hb⟩; have B1 := Lib.hid (bl1 hb).1; have z1 := (bl1 hb).2; have p2 := (Box.new w (bv bzero) 26 rfl).next hb; have q2 := p2.six0; clear p2 hb)
  exact bodyPost_ret (by simp [results, Try.results68, go_sem, q2]) rfl ⟨rfl, by repeat (first | with_reducible exact B1.out | with_reducible refine Below.setCell ?_ (by first | (simp; omega) | simp) _ | with_reducible refine Below.alloc ?_ (by have := B1.out.size; simp; omega) _)⟩
theorem sum_any (x y : B) (w : World) : Calls Try.prog 63 #[.int .i64 (S x), .int .i64 (S y)] w fun e w' => e = .returned (.tuple #[.int .i64 (S (x + y)), .bool (fitsB x y)]) ∧ w = w' := by
  have hx := two x
  have hy := two y
  have hs := BitVec.toNat_add x y
  have ht := two (x + y)
  have HE : Hid (fitsB x y = (decide (S (x + y) < S x) == decide (S y < 0))) := Lib.hid (by unfold fitsB S; rw [Bool.eq_iff_iff]; simp only [Bool.and_eq_true, decide_eq_true_eq, beq_iff_eq, decide_eq_decide]; omega)
  rw [HE.out]
  clear hx hy hs ht HE
  go_enter Try.func63, Try.ntmps63
  go_wp2_with fail
  exact bodyPost_ret (v := .tuple #[.int .i64 (S (x + y)), .bool (decide (S (x + y) < S x) == decide (S y < 0))]) (by simp [results, Try.results63, go_sem]) rfl ⟨rfl, rfl⟩
theorem difference_any (x y : B) (w : World) : Calls Try.prog 65 #[.int .i64 (S x), .int .i64 (S y)] w fun e w' => e = .returned (.tuple #[.int .i64 (S (x - y)), .bool (lessB x y)]) ∧ w = w' := by
  have hx := two x
  have hy := two y
  have hs := BitVec.toNat_sub x y
  have ht := two (x - y)
  have HE : Hid (lessB x y = (decide (S (x - y) < S x) == decide (0 < S y))) := Lib.hid (by unfold lessB S; rw [Bool.eq_iff_iff]; simp only [Bool.and_eq_true, decide_eq_true_eq, beq_iff_eq, decide_eq_decide]; omega)
  rw [HE.out]
  clear hx hy hs ht HE
  go_enter Try.func65, Try.ntmps65
  go_wp2_with fail
  exact bodyPost_ret (v := .tuple #[.int .i64 (S (x - y)), .bool (decide (S (x - y) < S x) == decide (0 < S y))]) (by simp [results, Try.results65, go_sem]) rfl ⟨rfl, rfl⟩
theorem add64_lo (x y : B) (h : x.toNat + y.toNat < 18446744073709551616) (W : World) : (callFunc 62 #[.int .u64 (U x), .int .u64 (U y), .int .u64 0]).run Try.prog W = .ok (.value (.tuple #[.int .u64 (U (x + y)), .int .u64 0])) W := by
  have hx := U_bd x
  have hy := U_bd y
  rw [run_callFunc_extern Try.func62 (by kernel_rfl) (by kernel_rfl) (by kernel_rfl) (e := add64Entry) (by kernel_rfl), run_add64 (U x) (U y) 0 (by omega) (by omega) (by omega) (by omega)]
  simp only [Result.andThen]
  have e1 : (U x + U y + 0) % 18446744073709551616 = U (x + y) := by unfold U; rw [BitVec.toNat_add]; omega
  have e2 : (U x + U y + 0) / 18446744073709551616 = 0 := by unfold U; omega
  rw [e1, e2]
theorem add64_hi (x y : B) (h : ¬ x.toNat + y.toNat < 18446744073709551616) (W : World) : (callFunc 62 #[.int .u64 (U x), .int .u64 (U y), .int .u64 0]).run Try.prog W = .ok (.value (.tuple #[.int .u64 (U (x + y)), .int .u64 1])) W := by
  have hx := U_bd x
  have hy := U_bd y
  rw [run_callFunc_extern Try.func62 (by kernel_rfl) (by kernel_rfl) (by kernel_rfl) (e := add64Entry) (by kernel_rfl), run_add64 (U x) (U y) 0 (by omega) (by omega) (by omega) (by omega)]
  simp only [Result.andThen]
  have e1 : (U x + U y + 0) % 18446744073709551616 = U (x + y) := by unfold U; rw [BitVec.toNat_add]; omega
  have e2 : (U x + U y + 0) / 18446744073709551616 = 1 := by unfold U at *; omega
  rw [e1, e2]
set_option maxRecDepth 100000 in
theorem tidyP_any (b : Bd) (w : World) : Calls Try.prog 19 #[.agg #[.int .u64 (U b.ul), .int .u64 (U b.uh), .int .i64 (S b.sl), .int .i64 (S b.sh), .int .u64 (U b.t.v), .int .u64 (U b.t.m)]] w fun e w' => e = .returned (.agg #[.int .u64 (U (tidyA b).ul), .int .u64 (U (tidyA b).uh), .int .i64 (S (tidyA b).sl), .int .i64 (S (tidyA b).sh), .int .u64 (U (tidyA b).t.v), .int .u64 (U (tidyA b).t.m)]) ∧ Below w.heap.size w w' := by
  have HT := Lib.hid (fun W => btidy_any b W)
  have HA := Lib.hid (fun W => bany_any W)
  unfold tidyA
  generalize tidy b = o at *
  cases o with
  | none =>
    show Calls Try.prog 19 #[.agg #[.int .u64 (U b.ul), .int .u64 (U b.uh), .int .i64 (S b.sl), .int .i64 (S b.sh), .int .u64 (U b.t.v), .int .u64 (U b.t.m)]] w fun e w' => e = .returned (.agg #[.int .u64 (U bany.ul), .int .u64 (U bany.uh), .int .i64 (S bany.sl), .int .i64 (S bany.sh), .int .u64 (U bany.t.v), .int .u64 (U bany.t.m)]) ∧ Below w.heap.size w w'
    generalize bany = ca at *
    simp only [tidyV] at HT
    go_enter Try.func19, Try.ntmps19
    go_wp2_with (first
      | (go_at_call 17; (with_reducible refine (HA.out _).mono ?_); rintro e w2 ⟨rfl, hb⟩; have B2 := Lib.hid (bnext B1.out (bl1 hb).1); have z1 := X2.out.lt; have z2 := size_2 hb; have q2 := (X2.out.next (bl1 hb).1).six0; clear hb p2)
      | (go_at_call 46; (with_reducible refine (HT.out _).mono ?_); rintro e w1 ⟨rfl, hb⟩; have B1 := Lib.hid (bl2 hb).1; have X2 := Lib.hid ((box_z2 w _ _).next hb); clear hb; have p2 := X2.out.six0))
    exact bodyPost_ret (by simp [results, Try.results19, go_sem, q2]) rfl ⟨rfl, by repeat (first | with_reducible exact B2.out | with_reducible refine Below.setCell ?_ (by first | (simp; omega) | simp) _)⟩
  | some c =>
    show Calls Try.prog 19 #[.agg #[.int .u64 (U b.ul), .int .u64 (U b.uh), .int .i64 (S b.sl), .int .i64 (S b.sh), .int .u64 (U b.t.v), .int .u64 (U b.t.m)]] w fun e w' => e = .returned (.agg #[.int .u64 (U c.ul), .int .u64 (U c.uh), .int .i64 (S c.sl), .int .i64 (S c.sh), .int .u64 (U c.t.v), .int .u64 (U c.t.m)]) ∧ Below w.heap.size w w'
    simp only [tidyV] at HT
    go_enter Try.func19, Try.ntmps19
    go_wp2_with (go_at_call 46; (with_reducible refine (HT.out _).mono ?_); rintro e w1 ⟨rfl, hb⟩; have B1 := Lib.hid (bl2 hb).1; have X2 := Lib.hid ((box_z2 w _ _).next hb); clear hb; have s1 := X2.out.lt; have p2 := X2.out.six0)
    exact bodyPost_ret (by simp [results, Try.results19, go_sem, p2]) rfl ⟨rfl, by repeat (first | with_reducible exact B1.out | with_reducible refine Below.setCell ?_ (by first | (simp; omega) | simp) _ | with_reducible refine Below.alloc ?_ (by have := B1.out.size; simp; omega) _)⟩
end Go.Proofs.Yticjhcbkkkkckaa

/- Package arith: sums. -/
namespace Go.Proofs.Yticjhcbkkkkckaa
open Go.RowKit
attribute [local go_sem] b_and b_or b_xor b_andNot b_low b_top b_most b_signed b_unsigned b_zero b_eq s_eq b_nzero b_neq s_neq b_max b_min s_max s_min
attribute [local go_sem ↓] Go.wp_at_zero Go.wp_at_succ
attribute [local go_sem] b_add b_sub b_mul b_neg b_two s_add s_sub

set_option maxRecDepth 100000 in
set_option maxHeartbeats 1000000 in
theorem aadd_any (a b : Bd) (g : Bool) (w : World) : Calls Try.prog 30 #[.agg #[.int .u64 (U a.ul), .int .u64 (U a.uh), .int .i64 (S a.sl), .int .i64 (S a.sh), .int .u64 (U a.t.v), .int .u64 (U a.t.m), .int .u64 (U b.ul), .int .u64 (U b.uh), .int .i64 (S b.sl), .int .i64 (S b.sh), .int .u64 (U b.t.v), .int .u64 (U b.t.m), .bool g]] w fun e w' => e = .returned (.agg #[.int .u64 (U (addB a b).ul), .int .u64 (U (addB a b).uh), .int .i64 (S (addB a b).sl), .int .i64 (S (addB a b).sh), .int .u64 (U (addB a b).t.v), .int .u64 (U (addB a b).t.m)]) ∧ Below w.heap.size w w' := by
  have HT := Lib.hid (fun W => tadd_any a.t b.t W)
  have HH := Lib.hid (fun W => having_any (tadd a.t b.t) W)
  have HF := Lib.hid (fun W => sum_any a.sl b.sl W)
  have HG := Lib.hid (fun W => sum_any a.sh b.sh W)
  have HE : Hid (addB a b = ⟨if a.uh.toNat + b.uh.toNat < 18446744073709551616 then a.ul + b.ul else (havB (tadd a.t b.t)).ul, if a.uh.toNat + b.uh.toNat < 18446744073709551616 then a.uh + b.uh else (havB (tadd a.t b.t)).uh,
   if fitsB a.sl b.sl = true ∧ fitsB a.sh b.sh = true then a.sl + b.sl else (havB (tadd a.t b.t)).sl, if fitsB a.sl b.sl = true ∧ fitsB a.sh b.sh = true then a.sh + b.sh else (havB (tadd a.t b.t)).sh, (havB (tadd a.t b.t)).t⟩) := Lib.hid rfl
  rw [HE.out]
  clear HE
  generalize havB (tadd a.t b.t) = c at *
  generalize tadd a.t b.t = t at *
  have hF : ∃ f, f = fitsB a.sl b.sl := ⟨_, rfl⟩
  have hG : ∃ g, g = fitsB a.sh b.sh := ⟨_, rfl⟩
  obtain ⟨f, hf⟩ := hF
  obtain ⟨k, hk⟩ := hG
  rw [← hf] at HF
  rw [← hk] at HG
  rw [← hf, ← hk]
  clear hf hk
  have HN := Lib.hid (Oz.start w a b g 46 26)
  have F := HN.out.f
  by_cases c1 : a.uh.toNat + b.uh.toNat < 18446744073709551616
  · rw [if_pos c1, if_pos c1]
    have hc := fun W => add64_lo a.uh b.uh c1 W
    clear c1
    cases f <;> cases k
    all_goals
      first
        | rw [if_pos (And.intro rfl rfl), if_pos (And.intro rfl rfl)]
        | rw [if_neg (by simp), if_neg (by simp)]
      go_enter Try.func30, Try.ntmps30
      go_wp2_with (first
        | (go_at_call 61; (with_reducible refine (HT.out _).mono ?_); rintro e w1 ⟨rfl, hb⟩; have H' := Lib.hid (HN.out.next hb); clear hb HN F; have HN := H'; clear H'; have F := HN.out.f)
        | (go_at_call 60; (with_reducible refine (HH.out _).mono ?_); rintro e w2 ⟨rfl, hb⟩; have H' := Lib.hid (HN.out.next hb); clear hb HN F; have HN := H'; clear H'; have F := HN.out.f; have B2 := Lib.hid HN.out.low)
        | (go_at_call 63; (with_reducible refine (HF.out _).mono ?_); rintro e w3 ⟨rfl, rfl⟩)
        | (go_at_call 63; (with_reducible refine (HG.out _).mono ?_); rintro e w4 ⟨rfl, rfl⟩))
      exact bodyPost_ret (by simp [results, Try.results30, go_sem, F]) rfl ⟨rfl, by repeat (first | with_reducible exact B2.out | with_reducible refine Below.setCell ?_ (by first | (simp; omega) | simp) _ | with_reducible refine Below.alloc ?_ (by have := B2.out.size; simp; omega) _)⟩
  · rw [if_neg c1, if_neg c1]
    have hc := fun W => add64_hi a.uh b.uh c1 W
    clear c1
    cases f <;> cases k
    all_goals
      first
        | rw [if_pos (And.intro rfl rfl), if_pos (And.intro rfl rfl)]
        | rw [if_neg (by simp), if_neg (by simp)]
      go_enter Try.func30, Try.ntmps30
      go_wp2_with (first
        | (go_at_call 61; (with_reducible refine (HT.out _).mono ?_); rintro e w1 ⟨rfl, hb⟩; have H' := Lib.hid (HN.out.next hb); clear hb HN F; have HN := H'; clear H'; have F := HN.out.f)
        | (go_at_call 60; (with_reducible refine (HH.out _).mono ?_); rintro e w2 ⟨rfl, hb⟩; have H' := Lib.hid (HN.out.next hb); clear hb HN F; have HN := H'; clear H'; have F := HN.out.f; have B2 := Lib.hid HN.out.low)
        | (go_at_call 63; (with_reducible refine (HF.out _).mono ?_); rintro e w3 ⟨rfl, rfl⟩)
        | (go_at_call 63; (with_reducible refine (HG.out _).mono ?_); rintro e w4 ⟨rfl, rfl⟩))
      exact bodyPost_ret (by simp [results, Try.results30, go_sem, F]) rfl ⟨rfl, by repeat (first | with_reducible exact B2.out | with_reducible refine Below.setCell ?_ (by first | (simp; omega) | simp) _ | with_reducible refine Below.alloc ?_ (by have := B2.out.size; simp; omega) _)⟩
end Go.Proofs.Yticjhcbkkkkckaa

/- Package arith: differences. -/
namespace Go.Proofs.Yticjhcbkkkkckaa
open Go.RowKit
attribute [local go_sem] b_and b_or b_xor b_andNot b_low b_top b_most b_signed b_unsigned b_zero b_eq s_eq b_nzero b_neq s_neq b_max b_min s_max s_min
attribute [local go_sem ↓] Go.wp_at_zero Go.wp_at_succ
attribute [local go_sem] b_add b_sub b_mul b_neg b_two s_add s_sub b_div b_quo
set_option maxRecDepth 100000 in
set_option maxHeartbeats 1000000 in
theorem asub_any (a b : Bd) (g : Bool) (w : World) : Calls Try.prog 31 #[.agg #[.int .u64 (U a.ul), .int .u64 (U a.uh), .int .i64 (S a.sl), .int .i64 (S a.sh), .int .u64 (U a.t.v), .int .u64 (U a.t.m), .int .u64 (U b.ul), .int .u64 (U b.uh), .int .i64 (S b.sl), .int .i64 (S b.sh), .int .u64 (U b.t.v), .int .u64 (U b.t.m), .bool g]] w fun e w' => e = .returned (.agg #[.int .u64 (U (subB a b).ul), .int .u64 (U (subB a b).uh), .int .i64 (S (subB a b).sl), .int .i64 (S (subB a b).sh), .int .u64 (U (subB a b).t.v), .int .u64 (U (subB a b).t.m)]) ∧ Below w.heap.size w w' := by
  have HT := Lib.hid (fun W => tsub_any a.t b.t W)
  have HH := Lib.hid (fun W => having_any (tsub a.t b.t) W)
  have HF := Lib.hid (fun W => difference_any a.sl b.sh W)
  have HG := Lib.hid (fun W => difference_any a.sh b.sl W)
  have HE : Hid (subB a b = ⟨if b.uh.toNat ≤ a.ul.toNat then a.ul - b.uh else (havB (tsub a.t b.t)).ul, if b.uh.toNat ≤ a.ul.toNat then a.uh - b.ul else (havB (tsub a.t b.t)).uh,
   if lessB a.sl b.sh = true ∧ lessB a.sh b.sl = true then a.sl - b.sh else (havB (tsub a.t b.t)).sl, if lessB a.sl b.sh = true ∧ lessB a.sh b.sl = true then a.sh - b.sl else (havB (tsub a.t b.t)).sh, (havB (tsub a.t b.t)).t⟩) := Lib.hid rfl
  rw [HE.out]
  clear HE
  generalize havB (tsub a.t b.t) = c at *
  generalize tsub a.t b.t = t at *
  have hF : ∃ f, f = lessB a.sl b.sh := ⟨_, rfl⟩
  have hG : ∃ g, g = lessB a.sh b.sl := ⟨_, rfl⟩
  obtain ⟨f, hf⟩ := hF
  obtain ⟨k, hk⟩ := hG
  rw [← hf] at HF
  rw [← hk] at HG
  rw [← hf, ← hk]
  clear hf hk
  have HN := Lib.hid (Oz.start w a b g 46 26)
  have F := HN.out.f
  by_cases c1 : b.uh.toNat ≤ a.ul.toNat
  · rw [if_pos c1, if_pos c1]
    have hc : U b.uh ≤ U a.ul := by unfold U; omega
    clear c1
    cases f <;> cases k
    all_goals
      first
        | rw [if_pos (And.intro rfl rfl), if_pos (And.intro rfl rfl)]
        | rw [if_neg (by simp), if_neg (by simp)]
      go_enter Try.func31, Try.ntmps31
      go_wp2_with (first
        | (go_at_call 64; (with_reducible refine (HT.out _).mono ?_); rintro e w1 ⟨rfl, hb⟩; have H' := Lib.hid (HN.out.next hb); clear hb HN F; have HN := H'; clear H'; have F := HN.out.f; have B2 := Lib.hid HN.out.low)
        | (go_at_call 60; (with_reducible refine (HH.out _).mono ?_); rintro e w2 ⟨rfl, hb⟩; have H' := Lib.hid (HN.out.next hb); clear hb HN F; have HN := H'; clear H'; have F := HN.out.f; have B2 := Lib.hid HN.out.low))
      go_region
      all_goals
        go_wp2_with (first
          | (go_at_call 65; (with_reducible refine (HF.out _).mono ?_); rintro e w3 ⟨rfl, rfl⟩)
          | (go_at_call 65; (with_reducible refine (HG.out _).mono ?_); rintro e w4 ⟨rfl, rfl⟩))
        exact bodyPost_ret (by simp [results, Try.results31, go_sem, F]) rfl ⟨rfl, by repeat (first | with_reducible exact B2.out | with_reducible exact B2.out.drew | with_reducible refine Below.setCell ?_ (by first | (simp; omega) | simp) _ | with_reducible refine Below.alloc ?_ (by have := B2.out.size; simp; omega) _ | with_reducible refine Below.drew ?_)⟩
  · rw [if_neg c1, if_neg c1]
    have hc : U a.ul < U b.uh := by unfold U; omega
    clear c1
    cases f <;> cases k
    all_goals
      first
        | rw [if_pos (And.intro rfl rfl), if_pos (And.intro rfl rfl)]
        | rw [if_neg (by simp), if_neg (by simp)]
      go_enter Try.func31, Try.ntmps31
      go_wp2_with (first
        | (go_at_call 64; (with_reducible refine (HT.out _).mono ?_); rintro e w1 ⟨rfl, hb⟩; have H' := Lib.hid (HN.out.next hb); clear hb HN F; have HN := H'; clear H'; have F := HN.out.f; have B2 := Lib.hid HN.out.low)
        | (go_at_call 60; (with_reducible refine (HH.out _).mono ?_); rintro e w2 ⟨rfl, hb⟩; have H' := Lib.hid (HN.out.next hb); clear hb HN F; have HN := H'; clear H'; have F := HN.out.f; have B2 := Lib.hid HN.out.low)
        | (go_at_call 65; (with_reducible refine (HF.out _).mono ?_); rintro e w3 ⟨rfl, rfl⟩)
        | (go_at_call 65; (with_reducible refine (HG.out _).mono ?_); rintro e w4 ⟨rfl, rfl⟩))
      exact bodyPost_ret (by simp [results, Try.results31, go_sem, F]) rfl ⟨rfl, by repeat (first | with_reducible exact B2.out | with_reducible exact B2.out.drew | with_reducible refine Below.setCell ?_ (by first | (simp; omega) | simp) _ | with_reducible refine Below.alloc ?_ (by have := B2.out.size; simp; omega) _ | with_reducible refine Below.drew ?_)⟩
end Go.Proofs.Yticjhcbkkkkckaa

/- Package arith: products, quotients, rests. -/
namespace Go.Proofs.Yticjhcbkkkkckaa
open Go.RowKit
attribute [local go_sem] b_and b_or b_xor b_andNot b_low b_top b_most b_signed b_unsigned b_zero b_eq s_eq b_nzero b_neq s_neq b_max b_min s_max s_min
attribute [local go_sem ↓] Go.wp_at_zero Go.wp_at_succ
attribute [local go_sem] b_add b_sub b_mul b_neg b_two s_add s_sub b_div b_quo
set_option maxRecDepth 100000 in
set_option maxHeartbeats 1000000 in
theorem amul_any (a b : Bd) (g : Bool) (w : World) : Calls Try.prog 32 #[.agg #[.int .u64 (U a.ul), .int .u64 (U a.uh), .int .i64 (S a.sl), .int .i64 (S a.sh), .int .u64 (U a.t.v), .int .u64 (U a.t.m), .int .u64 (U b.ul), .int .u64 (U b.uh), .int .i64 (S b.sl), .int .i64 (S b.sh), .int .u64 (U b.t.v), .int .u64 (U b.t.m), .bool g]] w fun e w' => e = .returned (.agg #[.int .u64 (U (mulB a b).ul), .int .u64 (U (mulB a b).uh), .int .i64 (S (mulB a b).sl), .int .i64 (S (mulB a b).sh), .int .u64 (U (mulB a b).t.v), .int .u64 (U (mulB a b).t.m)]) ∧ Below w.heap.size w w' := by
  have HT := Lib.hid (fun W => tmul_any a.t b.t W)
  have HH := Lib.hid (fun W => having_any (tmul a.t b.t) W)
  have HE : Hid (mulB a b = ⟨if a.uh.toNat ≤ 4294967295 ∧ b.uh.toNat ≤ 4294967295 then a.ul * b.ul else (havB (tmul a.t b.t)).ul, if a.uh.toNat ≤ 4294967295 ∧ b.uh.toNat ≤ 4294967295 then a.uh * b.uh else (havB (tmul a.t b.t)).uh, (havB (tmul a.t b.t)).sl, (havB (tmul a.t b.t)).sh, (havB (tmul a.t b.t)).t⟩) := Lib.hid rfl
  rw [HE.out]
  clear HE
  generalize havB (tmul a.t b.t) = c at *
  generalize tmul a.t b.t = t at *
  have HN := Lib.hid (Oz.start w a b g 46 26)
  have F := HN.out.f
  have hm : U (umax a.uh b.uh) ≤ 4294967295 ↔ a.uh.toNat ≤ 4294967295 ∧ b.uh.toNat ≤ 4294967295 := by rw [← umax_le]; unfold U; omega
  by_cases c1 : a.uh.toNat ≤ 4294967295 ∧ b.uh.toNat ≤ 4294967295
  · rw [if_pos c1, if_pos c1]
    have hc := hm.2 c1
    clear c1 hm
    go_enter Try.func32, Try.ntmps32
    go_wp2_with (first
      | (go_at_call 66; (with_reducible refine (HT.out _).mono ?_); rintro e w1 ⟨rfl, hb⟩; have H' := Lib.hid (HN.out.next hb); clear hb HN F; have HN := H'; clear H'; have F := HN.out.f; have B2 := Lib.hid HN.out.low)
      | (go_at_call 60; (with_reducible refine (HH.out _).mono ?_); rintro e w2 ⟨rfl, hb⟩; have H' := Lib.hid (HN.out.next hb); clear hb HN F; have HN := H'; clear H'; have F := HN.out.f; have B2 := Lib.hid HN.out.low))
    go_region
    all_goals
      go_wp2_with fail
      exact bodyPost_ret (by simp [results, Try.results32, go_sem, F]) rfl ⟨rfl, by repeat (first | with_reducible exact B2.out | with_reducible exact B2.out.drew | with_reducible refine Below.setCell ?_ (by first | (simp; omega) | simp) _ | with_reducible refine Below.alloc ?_ (by have := B2.out.size; simp; omega) _ | with_reducible refine Below.drew ?_)⟩
  · rw [if_neg c1, if_neg c1]
    have hc : 4294967295 < U (umax a.uh b.uh) := by have := fun h => c1 (hm.1 h); omega
    clear c1 hm
    go_enter Try.func32, Try.ntmps32
    go_wp2_with (first
      | (go_at_call 66; (with_reducible refine (HT.out _).mono ?_); rintro e w1 ⟨rfl, hb⟩; have H' := Lib.hid (HN.out.next hb); clear hb HN F; have HN := H'; clear H'; have F := HN.out.f; have B2 := Lib.hid HN.out.low)
      | (go_at_call 60; (with_reducible refine (HH.out _).mono ?_); rintro e w2 ⟨rfl, hb⟩; have H' := Lib.hid (HN.out.next hb); clear hb HN F; have HN := H'; clear H'; have F := HN.out.f; have B2 := Lib.hid HN.out.low))
    exact bodyPost_ret (by simp [results, Try.results32, go_sem, F]) rfl ⟨rfl, by repeat (first | with_reducible exact B2.out | with_reducible exact B2.out.drew | with_reducible refine Below.setCell ?_ (by first | (simp; omega) | simp) _ | with_reducible refine Below.alloc ?_ (by have := B2.out.size; simp; omega) _ | with_reducible refine Below.drew ?_)⟩
set_option maxRecDepth 100000 in
set_option maxHeartbeats 1000000 in
theorem amod_any (a b : Bd) (g : Bool) (w : World) : Calls Try.prog 34 #[.agg #[.int .u64 (U a.ul), .int .u64 (U a.uh), .int .i64 (S a.sl), .int .i64 (S a.sh), .int .u64 (U a.t.v), .int .u64 (U a.t.m), .int .u64 (U b.ul), .int .u64 (U b.uh), .int .i64 (S b.sl), .int .i64 (S b.sh), .int .u64 (U b.t.v), .int .u64 (U b.t.m), .bool g]] w fun e w' => e = .returned (.agg #[.int .u64 (U (modB a b).ul), .int .u64 (U (modB a b).uh), .int .i64 (S (modB a b).sl), .int .i64 (S (modB a b).sh), .int .u64 (U (modB a b).t.v), .int .u64 (U (modB a b).t.m)]) ∧ Below w.heap.size w w' := by
  have HE : Hid (modB a b = fromB 0#64 (if 0 < b.ul.toNat then umin a.uh (b.uh - 1#64) else a.uh)) := Lib.hid rfl
  rw [HE.out]
  clear HE
  have hs : IntKind.u64.wrap (U b.uh - 1) = U (b.uh - 1#64) := b_sub b.uh 1#64
  have HN := Lib.hid (Oz.start w a b g 46 26)
  have F := HN.out.f
  by_cases c1 : 0 < b.ul.toNat
  · rw [if_pos c1]
    have HH := Lib.hid (fun W => from_any 0#64 (umin a.uh (b.uh - 1#64)) W)
    rw [U_0] at HH
    have hc : 0 < U b.ul := by unfold U; omega
    clear c1
    generalize fromB 0#64 (umin a.uh (b.uh - 1#64)) = c at *
    go_enter Try.func34, Try.ntmps34
    go_wp2_with (first
      | (go_at_call 68; (with_reducible refine (HH.out _).mono ?_); rintro e w1 ⟨rfl, hb⟩; have H' := Lib.hid (HN.out.next hb); clear hb HN F; have HN := H'; clear H'; have F := HN.out.f; have B2 := Lib.hid HN.out.low))
    exact bodyPost_ret (by simp [results, Try.results34, go_sem, F]) rfl ⟨rfl, by repeat (first | with_reducible exact B2.out | with_reducible exact B2.out.drew | with_reducible refine Below.setCell ?_ (by first | (simp; omega) | simp) _ | with_reducible refine Below.alloc ?_ (by have := B2.out.size; simp; omega) _ | with_reducible refine Below.drew ?_)⟩
  · rw [if_neg c1]
    have HH := Lib.hid (fun W => from_any 0#64 a.uh W)
    rw [U_0] at HH
    have hc : ¬ 0 < U b.ul := by unfold U; omega
    clear c1
    generalize fromB 0#64 a.uh = c at *
    go_enter Try.func34, Try.ntmps34
    go_wp2_with (first
      | (go_at_call 68; (with_reducible refine (HH.out _).mono ?_); rintro e w1 ⟨rfl, hb⟩; have H' := Lib.hid (HN.out.next hb); clear hb HN F; have HN := H'; clear H'; have F := HN.out.f; have B2 := Lib.hid HN.out.low))
    exact bodyPost_ret (by simp [results, Try.results34, go_sem, F]) rfl ⟨rfl, by repeat (first | with_reducible exact B2.out | with_reducible exact B2.out.drew | with_reducible refine Below.setCell ?_ (by first | (simp; omega) | simp) _ | with_reducible refine Below.alloc ?_ (by have := B2.out.size; simp; omega) _ | with_reducible refine Below.drew ?_)⟩
end Go.Proofs.Yticjhcbkkkkckaa
