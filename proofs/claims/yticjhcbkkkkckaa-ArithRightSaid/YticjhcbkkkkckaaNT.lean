/- Bounds: the document's own answer for layer 9, whole. -/
import Derived.Test.YticjhcbkkkkckaaNS
namespace Go.Proofs.Yticjhcbkkkkckaa
open Go.RowKit
attribute [local go_sem] b_and b_or b_xor b_andNot b_low b_top b_most b_signed b_unsigned b_zero b_eq s_eq b_nzero b_neq s_neq b_max b_min s_max s_min
attribute [local go_sem ↓] Go.wp_at_zero Go.wp_at_succ

theorem ralu_zero (op : Int) {g : Bool} (ho : isOp op = g) : ∃ v : B, ∀ W, Calls Try.prog 11 #[.int .i64 op, .int .u64 0, .int .u64 0, .bool true] W fun e w' => e = .returned (.tuple #[.int .u64 (U v), .bool g]) ∧ W = w' := by
  subst ho
  exact ⟨_, fun W => ralu_any op 0#64 0#64 true W⟩
set_option maxRecDepth 100000 in
set_option maxHeartbeats 1000000 in
theorem rAlu_no (op : Int) (ho : isOp op = false) (a b : Bd) (full : Bool) (w : World) : Calls Try.prog 9 #[.int .i64 op, .agg #[.int .u64 (U a.ul), .int .u64 (U a.uh), .int .i64 (S a.sl), .int .i64 (S a.sh), .int .u64 (U a.t.v), .int .u64 (U a.t.m)], .agg #[.int .u64 (U b.ul), .int .u64 (U b.uh), .int .i64 (S b.sl), .int .i64 (S b.sh), .int .u64 (U b.t.v), .int .u64 (U b.t.m)], .bool full] w fun e w' => e = .returned (.tuple #[.agg #[.int .u64 (U bany.ul), .int .u64 (U bany.uh), .int .i64 (S bany.sl), .int .i64 (S bany.sh), .int .u64 (U bany.t.v), .int .u64 (U bany.t.m)], .bool false]) ∧ Below w.heap.size w w' := by
  obtain ⟨v, h0⟩ := ralu_zero op ho
  have H0 := Lib.hid h0
  have HA := Lib.hid (fun W => rbany_any W)
  generalize bany = ca at *
  have HN := Lib.hid (Nw.start w a b 26 26 26)
  have F := HN.out.f
  clear h0 ho
  go_enter Try.func9, Try.ntmps9
  go_wp2_with (first
    | (go_at_call 15; (with_reducible refine (HA.out _).mono ?_); rintro e w2 ⟨rfl, hb⟩; have H' := Lib.hid (HN.out.next hb); clear hb HN F; have HN := H'; clear H'; have F := HN.out.f)
    | (go_at_call 11; (with_reducible refine (H0.out _).mono ?_); rintro e w1 ⟨rfl, rfl⟩))
  exact bodyPost_ret (v := .tuple #[.agg #[.int .u64 (U ca.ul), .int .u64 (U ca.uh), .int .i64 (S ca.sl), .int .i64 (S ca.sh), .int .u64 (U ca.t.v), .int .u64 (U ca.t.m)], .bool false]) (by simp [results, Try.results9, go_sem, F]) rfl ⟨rfl, by repeat (first | with_reducible exact HN.out.low | with_reducible refine Below.setCell ?_ (by simp; omega) _)⟩
set_option maxRecDepth 100000 in
set_option maxHeartbeats 1000000 in
theorem rAlu_bad (op : Int) (ho : isOp op = true) (a b : Bd) (hb : bcheck a = false ∨ bcheck b = false) (full : Bool) (w : World) : Calls Try.prog 9 #[.int .i64 op, .agg #[.int .u64 (U a.ul), .int .u64 (U a.uh), .int .i64 (S a.sl), .int .i64 (S a.sh), .int .u64 (U a.t.v), .int .u64 (U a.t.m)], .agg #[.int .u64 (U b.ul), .int .u64 (U b.uh), .int .i64 (S b.sl), .int .i64 (S b.sh), .int .u64 (U b.t.v), .int .u64 (U b.t.m)], .bool full] w fun e w' => e = .returned (.tuple #[.agg #[.int .u64 (U bany.ul), .int .u64 (U bany.uh), .int .i64 (S bany.sl), .int .i64 (S bany.sh), .int .u64 (U bany.t.v), .int .u64 (U bany.t.m)], .bool true]) ∧ Below w.heap.size w w' := by
  obtain ⟨v, h0⟩ := ralu_zero op ho
  have H0 := Lib.hid h0
  have HA := Lib.hid (fun W => rbany_any W)
  have HX := Lib.hid (fun W => rbcheck_any a W)
  have HY := Lib.hid (fun W => rbcheck_any b W)
  generalize bany = ca at *
  have HN := Lib.hid (Nw.start w a b 26 26 26)
  have F := HN.out.f
  clear h0 ho
  cases ea : bcheck a with
  | false =>
    rw [ea] at HX
    clear hb ea
    go_enter Try.func9, Try.ntmps9
    go_wp2_with (first
      | (go_at_call 15; (with_reducible refine (HA.out _).mono ?_); rintro e w2 ⟨rfl, hb⟩; have H' := Lib.hid (HN.out.next hb); clear hb HN F; have HN := H'; clear H'; have F := HN.out.f)
      | (go_at_call 12; (with_reducible refine (HX.out _).mono ?_); rintro e w3 ⟨rfl, hb⟩; have H' := Lib.hid (HN.out.next hb); clear hb HN F; have HN := H'; clear H'; have F := HN.out.f)
      | (go_at_call 11; (with_reducible refine (H0.out _).mono ?_); rintro e w1 ⟨rfl, rfl⟩))
    exact bodyPost_ret (v := .tuple #[.agg #[.int .u64 (U ca.ul), .int .u64 (U ca.uh), .int .i64 (S ca.sl), .int .i64 (S ca.sh), .int .u64 (U ca.t.v), .int .u64 (U ca.t.m)], .bool true]) (by simp [results, Try.results9, go_sem, F]) rfl ⟨rfl, by repeat (first | with_reducible exact HN.out.low | with_reducible refine Below.setCell ?_ (by simp; omega) _)⟩
  | true =>
    rw [ea] at HX
    rw [hb.resolve_left (by rw [ea]; simp)] at HY
    clear hb ea
    go_enter Try.func9, Try.ntmps9
    go_wp2_with (first
      | (go_at_call 15; (with_reducible refine (HA.out _).mono ?_); rintro e w2 ⟨rfl, hb⟩; have H' := Lib.hid (HN.out.next hb); clear hb HN F; have HN := H'; clear H'; have F := HN.out.f)
      | (go_at_call 12; (with_reducible refine (HY.out _).mono ?_); rintro e w4 ⟨rfl, hb⟩; have H' := Lib.hid (HN.out.next hb); clear hb HN F; have HN := H'; clear H'; have F := HN.out.f)
      | (go_at_call 12; (with_reducible refine (HX.out _).mono ?_); rintro e w3 ⟨rfl, hb⟩; have H' := Lib.hid (HN.out.next hb); clear hb HN F; have HN := H'; clear H'; have F := HN.out.f)
      | (go_at_call 11; (with_reducible refine (H0.out _).mono ?_); rintro e w1 ⟨rfl, rfl⟩))
    exact bodyPost_ret (v := .tuple #[.agg #[.int .u64 (U ca.ul), .int .u64 (U ca.uh), .int .i64 (S ca.sl), .int .i64 (S ca.sh), .int .u64 (U ca.t.v), .int .u64 (U ca.t.m)], .bool true]) (by simp [results, Try.results9, go_sem, F]) rfl ⟨rfl, by repeat (first | with_reducible exact HN.out.low | with_reducible refine Below.setCell ?_ (by simp; omega) _)⟩
set_option maxRecDepth 100000 in
set_option maxHeartbeats 1000000 in
theorem rAlu_wide (op : Int) (ho : isOp op = true) (a b : Bd) (ha : bcheck a = true) (hb : bcheck b = true) (w : World) : Calls Try.prog 9 #[.int .i64 op, .agg #[.int .u64 (U a.ul), .int .u64 (U a.uh), .int .i64 (S a.sl), .int .i64 (S a.sh), .int .u64 (U a.t.v), .int .u64 (U a.t.m)], .agg #[.int .u64 (U b.ul), .int .u64 (U b.uh), .int .i64 (S b.sl), .int .i64 (S b.sh), .int .u64 (U b.t.v), .int .u64 (U b.t.m)], .bool true] w fun e w' => e = .returned (.tuple #[.agg #[.int .u64 (U (tidyA (wideB op a b)).ul), .int .u64 (U (tidyA (wideB op a b)).uh), .int .i64 (S (tidyA (wideB op a b)).sl), .int .i64 (S (tidyA (wideB op a b)).sh), .int .u64 (U (tidyA (wideB op a b)).t.v), .int .u64 (U (tidyA (wideB op a b)).t.m)], .bool true]) ∧ Below w.heap.size w w' := by
  obtain ⟨v, h0⟩ := ralu_zero op ho
  have H0 := Lib.hid h0
  have HX := Lib.hid (fun W => rbcheck_any a W)
  have HY := Lib.hid (fun W => rbcheck_any b W)
  rw [ha] at HX
  rw [hb] at HY
  have HW := Lib.hid (fun W => rwide_any op ho a b W)
  have HT := Lib.hid (fun W => rtidyA_any (wideB op a b) W)
  generalize tidyA (wideB op a b) = t at *
  generalize wideB op a b = x at *
  have HN := Lib.hid (Nw.start w a b 26 26 26)
  have F := HN.out.f
  clear h0 ho ha hb
  go_enter Try.func9, Try.ntmps9
  go_wp2_with (first
    | (go_at_call 21; (with_reducible refine (HT.out _).mono ?_); rintro e w6 ⟨rfl, hb⟩; have H' := Lib.hid (HN.out.next hb); clear hb HN F; have HN := H'; clear H'; have F := HN.out.f)
    | (go_at_call 23; (with_reducible refine (HW.out _).mono ?_); rintro e w5 ⟨rfl, hb⟩; have H' := Lib.hid (HN.out.next hb); clear hb HN F; have HN := H'; clear H'; have F := HN.out.f)
    | (go_at_call 12; (with_reducible refine (HY.out _).mono ?_); rintro e w4 ⟨rfl, hb⟩; have H' := Lib.hid (HN.out.next hb); clear hb HN F; have HN := H'; clear H'; have F := HN.out.f)
    | (go_at_call 12; (with_reducible refine (HX.out _).mono ?_); rintro e w3 ⟨rfl, hb⟩; have H' := Lib.hid (HN.out.next hb); clear hb HN F; have HN := H'; clear H'; have F := HN.out.f)
    | (go_at_call 11; (with_reducible refine (H0.out _).mono ?_); rintro e w1 ⟨rfl, rfl⟩))
  exact bodyPost_ret (v := .tuple #[.agg #[.int .u64 (U t.ul), .int .u64 (U t.uh), .int .i64 (S t.sl), .int .i64 (S t.sh), .int .u64 (U t.t.v), .int .u64 (U t.t.m)], .bool true]) (by simp [results, Try.results9, go_sem, F]) rfl ⟨rfl, by repeat (first | with_reducible exact HN.out.low | with_reducible refine Below.setCell ?_ (by simp; omega) _)⟩
set_option maxRecDepth 100000 in
set_option maxHeartbeats 1000000 in
theorem rAlu_narrow (op : Int) (ho : isOp op = true) (a b : Bd) (ha : bcheck a = true) (hb : bcheck b = true) (w : World) : Calls Try.prog 9 #[.int .i64 op, .agg #[.int .u64 (U a.ul), .int .u64 (U a.uh), .int .i64 (S a.sl), .int .i64 (S a.sh), .int .u64 (U a.t.v), .int .u64 (U a.t.m)], .agg #[.int .u64 (U b.ul), .int .u64 (U b.uh), .int .i64 (S b.sl), .int .i64 (S b.sh), .int .u64 (U b.t.v), .int .u64 (U b.t.m)], .bool false] w fun e w' => e = .returned (.tuple #[.agg #[.int .u64 (U (tidyA (narrowB op a b)).ul), .int .u64 (U (tidyA (narrowB op a b)).uh), .int .i64 (S (tidyA (narrowB op a b)).sl), .int .i64 (S (tidyA (narrowB op a b)).sh), .int .u64 (U (tidyA (narrowB op a b)).t.v), .int .u64 (U (tidyA (narrowB op a b)).t.m)], .bool true]) ∧ Below w.heap.size w w' := by
  obtain ⟨v, h0⟩ := ralu_zero op ho
  have H0 := Lib.hid h0
  have HX := Lib.hid (fun W => rbcheck_any a W)
  have HY := Lib.hid (fun W => rbcheck_any b W)
  rw [ha] at HX
  rw [hb] at HY
  have HW := Lib.hid (fun W => rnarrow_any op ho a b W)
  have HT := Lib.hid (fun W => rtidyA_any (narrowB op a b) W)
  generalize tidyA (narrowB op a b) = t at *
  generalize narrowB op a b = x at *
  have HN := Lib.hid (Nw.start w a b 26 26 26)
  have F := HN.out.f
  clear h0 ho ha hb
  go_enter Try.func9, Try.ntmps9
  go_wp2_with (first
    | (go_at_call 21; (with_reducible refine (HT.out _).mono ?_); rintro e w6 ⟨rfl, hb⟩; have H' := Lib.hid (HN.out.next hb); clear hb HN F; have HN := H'; clear H'; have F := HN.out.f)
    | (go_at_call 22; (with_reducible refine (HW.out _).mono ?_); rintro e w5 ⟨rfl, hb⟩; have H' := Lib.hid (HN.out.next hb); clear hb HN F; have HN := H'; clear H'; have F := HN.out.f)
    | (go_at_call 12; (with_reducible refine (HY.out _).mono ?_); rintro e w4 ⟨rfl, hb⟩; have H' := Lib.hid (HN.out.next hb); clear hb HN F; have HN := H'; clear H'; have F := HN.out.f)
    | (go_at_call 12; (with_reducible refine (HX.out _).mono ?_); rintro e w3 ⟨rfl, hb⟩; have H' := Lib.hid (HN.out.next hb); clear hb HN F; have HN := H'; clear H'; have F := HN.out.f)
    | (go_at_call 11; (with_reducible refine (H0.out _).mono ?_); rintro e w1 ⟨rfl, rfl⟩))
  exact bodyPost_ret (v := .tuple #[.agg #[.int .u64 (U t.ul), .int .u64 (U t.uh), .int .i64 (S t.sl), .int .i64 (S t.sh), .int .u64 (U t.t.v), .int .u64 (U t.t.m)], .bool true]) (by simp [results, Try.results9, go_sem, F]) rfl ⟨rfl, by repeat (first | with_reducible exact HN.out.low | with_reducible refine Below.setCell ?_ (by simp; omega) _)⟩
theorem rAlu_any (op : Int) (a b : Bd) (full : Bool) (w : World) : Calls Try.prog 9 #[.int .i64 op, .agg #[.int .u64 (U a.ul), .int .u64 (U a.uh), .int .i64 (S a.sl), .int .i64 (S a.sh), .int .u64 (U a.t.v), .int .u64 (U a.t.m)], .agg #[.int .u64 (U b.ul), .int .u64 (U b.uh), .int .i64 (S b.sl), .int .i64 (S b.sh), .int .u64 (U b.t.v), .int .u64 (U b.t.m)], .bool full] w fun e w' => e = .returned (.tuple #[.agg #[.int .u64 (U (aluB op a b full).ul), .int .u64 (U (aluB op a b full).uh), .int .i64 (S (aluB op a b full).sl), .int .i64 (S (aluB op a b full).sh), .int .u64 (U (aluB op a b full).t.v), .int .u64 (U (aluB op a b full).t.m)], .bool (isOp op)]) ∧ Below w.heap.size w w' := by
  unfold aluB
  cases ho : isOp op with
  | false => exact rAlu_no op ho a b full w
  | true =>
    rw [if_neg (by simp)]
    by_cases hb : bcheck a = false ∨ bcheck b = false
    · rw [if_pos hb]; exact rAlu_bad op ho a b hb full w
    · rw [if_neg hb]
      have h1 : bcheck a = true := by cases e : bcheck a with
        | true => rfl
        | false => exact absurd (.inl e) hb
      have h2 : bcheck b = true := by cases e : bcheck b with
        | true => rfl
        | false => exact absurd (.inr e) hb
      cases full with
      | true => exact rAlu_wide op ho a b h1 h2 w
      | false => exact rAlu_narrow op ho a b h1 h2 w
end Go.Proofs.Yticjhcbkkkkckaa
