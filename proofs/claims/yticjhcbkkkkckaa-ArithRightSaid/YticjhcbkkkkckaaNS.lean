/- Bounds: the document's own answers for words of 32 bits. -/
import Derived.Test.YticjhcbkkkkckaaNR
namespace Go.Proofs.Yticjhcbkkkkckaa
open Go.RowKit
attribute [local go_sem] b_and b_or b_xor b_andNot b_low b_top b_most b_signed b_unsigned b_zero b_eq s_eq b_nzero b_neq s_neq b_max b_min s_max s_min
attribute [local go_sem ↓] Go.wp_at_zero Go.wp_at_succ

/-- two bounds in their boxes, the answer's place still empty -/
structure Nw (w W : World) (a b : Bd) : Prop where
  low : Below w.heap.size w W
  fa : Box W w.heap.size (bv a)
  fb : Box W (w.heap.size + 1) (bv b)
  fr : Box W (w.heap.size + 1 + 1) (bv bzero)
theorem Nw.start (w : World) (a b : Bd) (t t' t'' : TypeId) : Nw w (((w.alloc (.cells #[.int .u64 (U a.ul), .int .u64 (U a.uh), .int .i64 (S a.sl), .int .i64 (S a.sh), .int .u64 (U a.t.v), .int .u64 (U a.t.m)] t)).alloc (.cells #[.int .u64 (U b.ul), .int .u64 (U b.uh), .int .i64 (S b.sl), .int .i64 (S b.sh), .int .u64 (U b.t.v), .int .u64 (U b.t.m)] t')).alloc (.cells #[.int .u64 0, .int .u64 0, .int .i64 0, .int .i64 0, .int .u64 0, .int .u64 0] t'')) a b :=
  ⟨b3, (box_ab w a b _ _ _).1, (box_ab w a b _ _ _).2, box_z w _ _ _⟩
theorem Nw.next {w W W' : World} {a b : Bd} (h : Nw w W a b) (hb : Below W.heap.size W W') : Nw w W' a b := ⟨bnext h.low hb, h.fa.next hb, h.fb.next hb, h.fr.next hb⟩
theorem Nw.setA {w W : World} {a b : Bd} (d : Bd) (h : Nw w W a b) : Nw w (((((((W.setCell ⟨w.heap.size, 0, none⟩ (.int .u64 (U d.ul))).setCell ⟨w.heap.size, 1, none⟩ (.int .u64 (U d.uh))).setCell ⟨w.heap.size, 2, none⟩ (.int .i64 (S d.sl))).setCell ⟨w.heap.size, 3, none⟩ (.int .i64 (S d.sh))).setCell ⟨w.heap.size, 4, none⟩ (.int .u64 (U d.t.v))).setCell ⟨w.heap.size, 5, none⟩ (.int .u64 (U d.t.m)))) d b :=
  ⟨below_setD _ d h.low (Nat.le_refl _), h.fa.setD d, h.fb.farD _ d (by omega), h.fr.farD _ d (by omega)⟩
theorem Nw.setB {w W : World} {a b : Bd} (d : Bd) (h : Nw w W a b) : Nw w (((((((W.setCell ⟨(w.heap.size + 1), 0, none⟩ (.int .u64 (U d.ul))).setCell ⟨(w.heap.size + 1), 1, none⟩ (.int .u64 (U d.uh))).setCell ⟨(w.heap.size + 1), 2, none⟩ (.int .i64 (S d.sl))).setCell ⟨(w.heap.size + 1), 3, none⟩ (.int .i64 (S d.sh))).setCell ⟨(w.heap.size + 1), 4, none⟩ (.int .u64 (U d.t.v))).setCell ⟨(w.heap.size + 1), 5, none⟩ (.int .u64 (U d.t.m)))) a d :=
  ⟨below_setD _ d h.low (by omega), h.fa.farD _ d (by omega), h.fb.setD d, h.fr.farD _ d (by omega)⟩
theorem Nw.f {w W : World} {a b : Bd} (h : Nw w W a b) :
    ((W.cell? ⟨w.heap.size, 0, none⟩ = some (.int .u64 (U a.ul)) ∧ W.cell? ⟨w.heap.size, 1, none⟩ = some (.int .u64 (U a.uh)) ∧ W.cell? ⟨w.heap.size, 2, none⟩ = some (.int .i64 (S a.sl)) ∧ W.cell? ⟨w.heap.size, 3, none⟩ = some (.int .i64 (S a.sh)) ∧ W.cell? ⟨w.heap.size, 4, none⟩ = some (.int .u64 (U a.t.v)) ∧ W.cell? ⟨w.heap.size, 5, none⟩ = some (.int .u64 (U a.t.m))) ∧ (∀ i, W.frozen? ⟨w.heap.size, i, none⟩ = false) ∧ w.heap.size < W.heap.size) ∧ ((W.cell? ⟨(w.heap.size + 1), 0, none⟩ = some (.int .u64 (U b.ul)) ∧ W.cell? ⟨(w.heap.size + 1), 1, none⟩ = some (.int .u64 (U b.uh)) ∧ W.cell? ⟨(w.heap.size + 1), 2, none⟩ = some (.int .i64 (S b.sl)) ∧ W.cell? ⟨(w.heap.size + 1), 3, none⟩ = some (.int .i64 (S b.sh)) ∧ W.cell? ⟨(w.heap.size + 1), 4, none⟩ = some (.int .u64 (U b.t.v)) ∧ W.cell? ⟨(w.heap.size + 1), 5, none⟩ = some (.int .u64 (U b.t.m))) ∧ (∀ i, W.frozen? ⟨w.heap.size + 1, i, none⟩ = false) ∧ w.heap.size + 1 < W.heap.size) ∧
    (W.cell? ⟨w.heap.size + 1 + 1, 0, none⟩ = some (.int .u64 0) ∧ W.cell? ⟨w.heap.size + 1 + 1, 1, none⟩ = some (.int .u64 0) ∧ W.cell? ⟨w.heap.size + 1 + 1, 2, none⟩ = some (.int .i64 0) ∧ W.cell? ⟨w.heap.size + 1 + 1, 3, none⟩ = some (.int .i64 0) ∧ W.cell? ⟨w.heap.size + 1 + 1, 4, none⟩ = some (.int .u64 0) ∧ W.cell? ⟨w.heap.size + 1 + 1, 5, none⟩ = some (.int .u64 0)) ∧ (∀ i, W.frozen? ⟨w.heap.size + 1 + 1, i, none⟩ = false) ∧ w.heap.size + 1 + 1 < W.heap.size := ⟨h.fa.six, h.fb.six, h.fr.six0⟩
def m32 (x : B) : B := BitVec.ofNat 64 (x.toNat % 32)
theorem m32_nat (x : B) : (m32 x).toNat = x.toNat % 32 := by unfold m32; rw [BitVec.toNat_ofNat]; omega
theorem b_m32 (x : B) : (U x).tmod 32 = U (m32 x) := by
  have h := m32_nat x
  rw [Int.tmod_eq_emod_of_nonneg (U_nn x)]
  unfold U; omega
theorem b_m32w (x : B) : IntKind.u64.wrap ((U x).tmod 32) = U (m32 x) := by
  rw [b_m32, IntKind.wrap_u64]
  have := U_bd (m32 x); omega
attribute [local go_sem] b_m32 b_m32w
set_option maxRecDepth 100000 in
set_option maxHeartbeats 2000000 in
theorem rnarrow_no (op : Int) (ho : isOp op = true) (h1 : ¬ op = 96) (h2 : ¬ op = 112) (h3 : ¬ op = 192) (a b : Bd) (w : World) : Calls Try.prog 22 #[.int .i64 op, .agg #[.int .u64 (U a.ul), .int .u64 (U a.uh), .int .i64 (S a.sl), .int .i64 (S a.sh), .int .u64 (U a.t.v), .int .u64 (U a.t.m)], .agg #[.int .u64 (U b.ul), .int .u64 (U b.uh), .int .i64 (S b.sl), .int .i64 (S b.sh), .int .u64 (U b.t.v), .int .u64 (U b.t.m)]] w fun e w' => e = .returned (.agg #[.int .u64 (U (blow (tidyA (wideB op (blow a) (blow b)))).ul), .int .u64 (U (blow (tidyA (wideB op (blow a) (blow b)))).uh), .int .i64 (S (blow (tidyA (wideB op (blow a) (blow b)))).sl), .int .i64 (S (blow (tidyA (wideB op (blow a) (blow b)))).sh), .int .u64 (U (blow (tidyA (wideB op (blow a) (blow b)))).t.v), .int .u64 (U (blow (tidyA (wideB op (blow a) (blow b)))).t.m)]) ∧ Below w.heap.size w w' := by
  have HA := Lib.hid (fun W => rblow_any a W)
  have HB := Lib.hid (fun W => rblow_any b W)
  have HW := Lib.hid (fun W => rwide_any op ho (blow a) (blow b) W)
  have HT := Lib.hid (fun W => rtidyA_any (wideB op (blow a) (blow b)) W)
  have HL := Lib.hid (fun W => rblow_any (tidyA (wideB op (blow a) (blow b))) W)
  generalize blow (tidyA (wideB op (blow a) (blow b))) = r at *
  generalize tidyA (wideB op (blow a) (blow b)) = t at *
  generalize wideB op (blow a) (blow b) = x at *
  generalize blow a = la at *
  generalize blow b = lb at *
  clear ho
  have e1 : (op == 96) = false := by simpa using h1
  have e2 : (op == 112) = false := by simpa using h2
  have e3 : (op == 192) = false := by simpa using h3
  clear h1 h2 h3
  go_enter Try.func22, Try.ntmps22
  go_wp2_with (first
    | (go_at_call 51; (with_reducible refine (HL.out _).mono ?_); rintro e w8 ⟨rfl, hb⟩; have H' := Lib.hid (HN.out.next hb); clear hb HN F; have HN := H'; clear H'; have F := HN.out.f)
    | (go_at_call 21; (with_reducible refine (HT.out _).mono ?_); rintro e w7 ⟨rfl, hb⟩; have H' := Lib.hid (HN.out.next hb); clear hb HN F; have HN := H'; clear H'; have F := HN.out.f)
    | (go_at_call 23; (with_reducible refine (HW.out _).mono ?_); rintro e w6 ⟨rfl, hb⟩; have H' := Lib.hid ((HN.out.setB lb).next hb); clear hb HN F; have HN := H'; clear H'; have F := HN.out.f)
    | (go_at_call 51; (with_reducible refine (HB.out _).mono ?_); rintro e w2 ⟨rfl, hb⟩; have H' := Lib.hid ((HN.out.setA la).next hb); clear hb HN F; have HN := H'; clear H'; have F := HN.out.f)
    | (go_at_call 51; (with_reducible refine (HA.out _).mono ?_); rintro e w1 ⟨rfl, hb⟩; have HN := Lib.hid ((Nw.start w a b _ _ _).next hb); clear hb HA; have F := HN.out.f))
  exact bodyPost_ret (by simp [results, Try.results22, go_sem, F]) rfl ⟨rfl, by repeat (first | with_reducible exact HN.out.low | with_reducible refine Below.setCell ?_ (by simp; omega) _)⟩
set_option maxRecDepth 100000 in
set_option maxHeartbeats 2000000 in
theorem rnarrow_one (op : Int) (hop : op = 96 ∨ op = 112) (a b : Bd) (h : (blow b).ul = (blow b).uh) (w : World) : Calls Try.prog 22 #[.int .i64 op, .agg #[.int .u64 (U a.ul), .int .u64 (U a.uh), .int .i64 (S a.sl), .int .i64 (S a.sh), .int .u64 (U a.t.v), .int .u64 (U a.t.m)], .agg #[.int .u64 (U b.ul), .int .u64 (U b.uh), .int .i64 (S b.sl), .int .i64 (S b.sh), .int .u64 (U b.t.v), .int .u64 (U b.t.m)]] w fun e w' => e = .returned (.agg #[.int .u64 (U (blow (tidyA (wideB op (blow a) (bconst (m32 (blow b).ul))))).ul), .int .u64 (U (blow (tidyA (wideB op (blow a) (bconst (m32 (blow b).ul))))).uh), .int .i64 (S (blow (tidyA (wideB op (blow a) (bconst (m32 (blow b).ul))))).sl), .int .i64 (S (blow (tidyA (wideB op (blow a) (bconst (m32 (blow b).ul))))).sh), .int .u64 (U (blow (tidyA (wideB op (blow a) (bconst (m32 (blow b).ul))))).t.v), .int .u64 (U (blow (tidyA (wideB op (blow a) (bconst (m32 (blow b).ul))))).t.m)]) ∧ Below w.heap.size w w' := by
  have HA := Lib.hid (fun W => rblow_any a W)
  have HB := Lib.hid (fun W => rblow_any b W)
  have HV := Lib.hid (fun W => rbvalue_any (blow b) W)
  rw [val_1 h] at HV
  have HC := Lib.hid (fun W => rbconst_any (m32 (blow b).ul) W)
  have HW := Lib.hid (fun W => rwide_any op (by rcases hop with rfl | rfl <;> rfl) (blow a) (bconst (m32 (blow b).ul)) W)
  have HT := Lib.hid (fun W => rtidyA_any (wideB op (blow a) (bconst (m32 (blow b).ul))) W)
  have HL := Lib.hid (fun W => rblow_any (tidyA (wideB op (blow a) (bconst (m32 (blow b).ul)))) W)
  generalize blow (tidyA (wideB op (blow a) (bconst (m32 (blow b).ul)))) = r at *
  generalize tidyA (wideB op (blow a) (bconst (m32 (blow b).ul))) = t at *
  generalize wideB op (blow a) (bconst (m32 (blow b).ul)) = x at *
  generalize bconst (m32 (blow b).ul) = cb at *
  generalize blow a = la at *
  generalize blow b = lb at *
  clear h
  rcases hop with rfl | rfl
  all_goals
    go_enter Try.func22, Try.ntmps22
    go_wp2_with (first
      | (go_at_call 51; (with_reducible refine (HL.out _).mono ?_); rintro e w8 ⟨rfl, hb⟩; have H' := Lib.hid (HN.out.next hb); clear hb HN F; have HN := H'; clear H'; have F := HN.out.f)
      | (go_at_call 21; (with_reducible refine (HT.out _).mono ?_); rintro e w7 ⟨rfl, hb⟩; have H' := Lib.hid (HN.out.next hb); clear hb HN F; have HN := H'; clear H'; have F := HN.out.f)
      | (go_at_call 23; (with_reducible refine (HW.out _).mono ?_); rintro e w6 ⟨rfl, hb⟩; have H' := Lib.hid ((HN.out.setB cb).next hb); clear hb HN F; have HN := H'; clear H'; have F := HN.out.f)
      | (go_at_call 14; (with_reducible refine (HC.out _).mono ?_); rintro e w4 ⟨rfl, hb⟩; have H' := Lib.hid (HN.out.next hb); clear hb HN F; have HN := H'; clear H'; have F := HN.out.f)
      | (go_at_call 52; (with_reducible refine (HV.out _).mono ?_); rintro e w3 ⟨rfl, hb⟩; have H' := Lib.hid ((HN.out.setB lb).next hb); clear hb HN F; have HN := H'; clear H'; have F := HN.out.f)
      | (go_at_call 51; (with_reducible refine (HB.out _).mono ?_); rintro e w2 ⟨rfl, hb⟩; have H' := Lib.hid ((HN.out.setA la).next hb); clear hb HN F; have HN := H'; clear H'; have F := HN.out.f)
      | (go_at_call 51; (with_reducible refine (HA.out _).mono ?_); rintro e w1 ⟨rfl, hb⟩; have HN := Lib.hid ((Nw.start w a b _ _ _).next hb); clear hb HA; have F := HN.out.f))
    exact bodyPost_ret (by simp [results, Try.results22, go_sem, F]) rfl ⟨rfl, by repeat (first | with_reducible exact HN.out.low | with_reducible refine Below.setCell ?_ (by simp; omega) _)⟩
set_option maxRecDepth 100000 in
set_option maxHeartbeats 2000000 in
theorem rnarrow_sar (a b : Bd) (h : (blow b).ul = (blow b).uh) (hu : U (blow a).uh ≤ 2147483647) (w : World) : Calls Try.prog 22 #[.int .i64 192, .agg #[.int .u64 (U a.ul), .int .u64 (U a.uh), .int .i64 (S a.sl), .int .i64 (S a.sh), .int .u64 (U a.t.v), .int .u64 (U a.t.m)], .agg #[.int .u64 (U b.ul), .int .u64 (U b.uh), .int .i64 (S b.sl), .int .i64 (S b.sh), .int .u64 (U b.t.v), .int .u64 (U b.t.m)]] w fun e w' => e = .returned (.agg #[.int .u64 (U (blow (tidyA (wideB 112 (blow a) (bconst (m32 (blow b).ul))))).ul), .int .u64 (U (blow (tidyA (wideB 112 (blow a) (bconst (m32 (blow b).ul))))).uh), .int .i64 (S (blow (tidyA (wideB 112 (blow a) (bconst (m32 (blow b).ul))))).sl), .int .i64 (S (blow (tidyA (wideB 112 (blow a) (bconst (m32 (blow b).ul))))).sh), .int .u64 (U (blow (tidyA (wideB 112 (blow a) (bconst (m32 (blow b).ul))))).t.v), .int .u64 (U (blow (tidyA (wideB 112 (blow a) (bconst (m32 (blow b).ul))))).t.m)]) ∧ Below w.heap.size w w' := by
  have HA := Lib.hid (fun W => rblow_any a W)
  have HB := Lib.hid (fun W => rblow_any b W)
  have HV := Lib.hid (fun W => rbvalue_any (blow b) W)
  rw [val_1 h] at HV
  have HC := Lib.hid (fun W => rbconst_any (m32 (blow b).ul) W)
  have HW := Lib.hid (fun W => rwide_any 112 rfl (blow a) (bconst (m32 (blow b).ul)) W)
  have HT := Lib.hid (fun W => rtidyA_any (wideB 112 (blow a) (bconst (m32 (blow b).ul))) W)
  have HL := Lib.hid (fun W => rblow_any (tidyA (wideB 112 (blow a) (bconst (m32 (blow b).ul)))) W)
  generalize blow (tidyA (wideB 112 (blow a) (bconst (m32 (blow b).ul)))) = r at *
  generalize tidyA (wideB 112 (blow a) (bconst (m32 (blow b).ul))) = t at *
  generalize wideB 112 (blow a) (bconst (m32 (blow b).ul)) = x at *
  generalize bconst (m32 (blow b).ul) = cb at *
  generalize blow a = la at *
  generalize blow b = lb at *
  clear h
  go_enter Try.func22, Try.ntmps22
  go_wp2_with (first
    | (go_at_call 51; (with_reducible refine (HL.out _).mono ?_); rintro e w8 ⟨rfl, hb⟩; have H' := Lib.hid (HN.out.next hb); clear hb HN F; have HN := H'; clear H'; have F := HN.out.f)
    | (go_at_call 21; (with_reducible refine (HT.out _).mono ?_); rintro e w7 ⟨rfl, hb⟩; have H' := Lib.hid (HN.out.next hb); clear hb HN F; have HN := H'; clear H'; have F := HN.out.f)
    | (go_at_call 23; (with_reducible refine (HW.out _).mono ?_); rintro e w6 ⟨rfl, hb⟩; have H' := Lib.hid ((HN.out.setB cb).next hb); clear hb HN F; have HN := H'; clear H'; have F := HN.out.f)
    | (go_at_call 14; (with_reducible refine (HC.out _).mono ?_); rintro e w4 ⟨rfl, hb⟩; have H' := Lib.hid (HN.out.next hb); clear hb HN F; have HN := H'; clear H'; have F := HN.out.f)
    | (go_at_call 52; (with_reducible refine (HV.out _).mono ?_); rintro e w3 ⟨rfl, hb⟩; have H' := Lib.hid ((HN.out.setB lb).next hb); clear hb HN F; have HN := H'; clear H'; have F := HN.out.f)
    | (go_at_call 51; (with_reducible refine (HB.out _).mono ?_); rintro e w2 ⟨rfl, hb⟩; have H' := Lib.hid ((HN.out.setA la).next hb); clear hb HN F; have HN := H'; clear H'; have F := HN.out.f)
    | (go_at_call 51; (with_reducible refine (HA.out _).mono ?_); rintro e w1 ⟨rfl, hb⟩; have HN := Lib.hid ((Nw.start w a b _ _ _).next hb); clear hb HA; have F := HN.out.f))
  exact bodyPost_ret (by simp [results, Try.results22, go_sem, F]) rfl ⟨rfl, by repeat (first | with_reducible exact HN.out.low | with_reducible refine Below.setCell ?_ (by simp; omega) _)⟩
theorem size_4 (W : World) : Calls Try.prog 53 #[.int .i64 4] W fun e w' => e = .returned (.agg #[.int .u64 (U (bupto low32).ul), .int .u64 (U (bupto low32).uh), .int .i64 (S (bupto low32).sl), .int .i64 (S (bupto low32).sh), .int .u64 (U (bupto low32).t.v), .int .u64 (U (bupto low32).t.m)]) ∧ Below W.heap.size W w' := rbsize_any 4 W
set_option maxRecDepth 100000 in
set_option maxHeartbeats 2000000 in
theorem rnarrow_big (a b : Bd) (h : (blow b).ul = (blow b).uh) (hu : 2147483647 < U (blow a).uh) (w : World) : Calls Try.prog 22 #[.int .i64 192, .agg #[.int .u64 (U a.ul), .int .u64 (U a.uh), .int .i64 (S a.sl), .int .i64 (S a.sh), .int .u64 (U a.t.v), .int .u64 (U a.t.m)], .agg #[.int .u64 (U b.ul), .int .u64 (U b.uh), .int .i64 (S b.sl), .int .i64 (S b.sh), .int .u64 (U b.t.v), .int .u64 (U b.t.m)]] w fun e w' => e = .returned (.agg #[.int .u64 (U (bupto low32).ul), .int .u64 (U (bupto low32).uh), .int .i64 (S (bupto low32).sl), .int .i64 (S (bupto low32).sh), .int .u64 (U (bupto low32).t.v), .int .u64 (U (bupto low32).t.m)]) ∧ Below w.heap.size w w' := by
  have HA := Lib.hid (fun W => rblow_any a W)
  have HB := Lib.hid (fun W => rblow_any b W)
  have HV := Lib.hid (fun W => rbvalue_any (blow b) W)
  rw [val_1 h] at HV
  have HC := Lib.hid (fun W => rbconst_any (m32 (blow b).ul) W)
  have HS := Lib.hid (fun W => size_4 W)
  generalize bupto low32 = s at *
  generalize bconst (m32 (blow b).ul) = cb at *
  generalize blow a = la at *
  generalize blow b = lb at *
  clear h
  go_enter Try.func22, Try.ntmps22
  go_wp2_with (first
    | (go_at_call 53; (with_reducible refine (HS.out _).mono ?_); rintro e w5 ⟨rfl, hb⟩; have H' := Lib.hid ((HN.out.setB cb).next hb); clear hb HN F; have HN := H'; clear H'; have F := HN.out.f)
    | (go_at_call 14; (with_reducible refine (HC.out _).mono ?_); rintro e w4 ⟨rfl, hb⟩; have H' := Lib.hid (HN.out.next hb); clear hb HN F; have HN := H'; clear H'; have F := HN.out.f)
    | (go_at_call 52; (with_reducible refine (HV.out _).mono ?_); rintro e w3 ⟨rfl, hb⟩; have H' := Lib.hid ((HN.out.setB lb).next hb); clear hb HN F; have HN := H'; clear H'; have F := HN.out.f)
    | (go_at_call 51; (with_reducible refine (HB.out _).mono ?_); rintro e w2 ⟨rfl, hb⟩; have H' := Lib.hid ((HN.out.setA la).next hb); clear hb HN F; have HN := H'; clear H'; have F := HN.out.f)
    | (go_at_call 51; (with_reducible refine (HA.out _).mono ?_); rintro e w1 ⟨rfl, hb⟩; have HN := Lib.hid ((Nw.start w a b _ _ _).next hb); clear hb HA; have F := HN.out.f))
  exact bodyPost_ret (by simp [results, Try.results22, go_sem, F]) rfl ⟨rfl, by repeat (first | with_reducible exact HN.out.low | with_reducible refine Below.setCell ?_ (by simp; omega) _)⟩
set_option maxRecDepth 100000 in
set_option maxHeartbeats 2000000 in
theorem rnarrow_any4 (op : Int) (hop : op = 96 ∨ op = 192) (a b : Bd) (h : ¬ (blow b).ul = (blow b).uh) (w : World) : Calls Try.prog 22 #[.int .i64 op, .agg #[.int .u64 (U a.ul), .int .u64 (U a.uh), .int .i64 (S a.sl), .int .i64 (S a.sh), .int .u64 (U a.t.v), .int .u64 (U a.t.m)], .agg #[.int .u64 (U b.ul), .int .u64 (U b.uh), .int .i64 (S b.sl), .int .i64 (S b.sh), .int .u64 (U b.t.v), .int .u64 (U b.t.m)]] w fun e w' => e = .returned (.agg #[.int .u64 (U (bupto low32).ul), .int .u64 (U (bupto low32).uh), .int .i64 (S (bupto low32).sl), .int .i64 (S (bupto low32).sh), .int .u64 (U (bupto low32).t.v), .int .u64 (U (bupto low32).t.m)]) ∧ Below w.heap.size w w' := by
  have HA := Lib.hid (fun W => rblow_any a W)
  have HB := Lib.hid (fun W => rblow_any b W)
  have HV := Lib.hid (fun W => rbvalue_any (blow b) W)
  rw [val_0 h] at HV
  have HS := Lib.hid (fun W => size_4 W)
  generalize bupto low32 = s at *
  generalize blow a = la at *
  generalize blow b = lb at *
  clear h
  rcases hop with rfl | rfl
  all_goals
    go_enter Try.func22, Try.ntmps22
    go_wp2_with (first
      | (go_at_call 53; (with_reducible refine (HS.out _).mono ?_); rintro e w5 ⟨rfl, hb⟩; have H' := Lib.hid (HN.out.next hb); clear hb HN F; have HN := H'; clear H'; have F := HN.out.f)
      | (go_at_call 52; (with_reducible refine (HV.out _).mono ?_); rintro e w3 ⟨rfl, hb⟩; have H' := Lib.hid ((HN.out.setB lb).next hb); clear hb HN F; have HN := H'; clear H'; have F := HN.out.f)
      | (go_at_call 51; (with_reducible refine (HB.out _).mono ?_); rintro e w2 ⟨rfl, hb⟩; have H' := Lib.hid ((HN.out.setA la).next hb); clear hb HN F; have HN := H'; clear H'; have F := HN.out.f)
      | (go_at_call 51; (with_reducible refine (HA.out _).mono ?_); rintro e w1 ⟨rfl, hb⟩; have HN := Lib.hid ((Nw.start w a b _ _ _).next hb); clear hb HA; have F := HN.out.f))
    exact bodyPost_ret (by simp [results, Try.results22, go_sem, F]) rfl ⟨rfl, by repeat (first | with_reducible exact HN.out.low | with_reducible refine Below.setCell ?_ (by simp; omega) _)⟩
set_option maxRecDepth 100000 in
set_option maxHeartbeats 2000000 in
theorem rnarrow_rsh (a b : Bd) (h : ¬ (blow b).ul = (blow b).uh) (w : World) : Calls Try.prog 22 #[.int .i64 112, .agg #[.int .u64 (U a.ul), .int .u64 (U a.uh), .int .i64 (S a.sl), .int .i64 (S a.sh), .int .u64 (U a.t.v), .int .u64 (U a.t.m)], .agg #[.int .u64 (U b.ul), .int .u64 (U b.uh), .int .i64 (S b.sl), .int .i64 (S b.sh), .int .u64 (U b.t.v), .int .u64 (U b.t.m)]] w fun e w' => e = .returned (.agg #[.int .u64 (U (blow (tidyA (wideB 112 (blow a) (blow b)))).ul), .int .u64 (U (blow (tidyA (wideB 112 (blow a) (blow b)))).uh), .int .i64 (S (blow (tidyA (wideB 112 (blow a) (blow b)))).sl), .int .i64 (S (blow (tidyA (wideB 112 (blow a) (blow b)))).sh), .int .u64 (U (blow (tidyA (wideB 112 (blow a) (blow b)))).t.v), .int .u64 (U (blow (tidyA (wideB 112 (blow a) (blow b)))).t.m)]) ∧ Below w.heap.size w w' := by
  have HA := Lib.hid (fun W => rblow_any a W)
  have HB := Lib.hid (fun W => rblow_any b W)
  have HV := Lib.hid (fun W => rbvalue_any (blow b) W)
  rw [val_0 h] at HV
  have HW := Lib.hid (fun W => rwide_any 112 rfl (blow a) (blow b) W)
  have HT := Lib.hid (fun W => rtidyA_any (wideB 112 (blow a) (blow b)) W)
  have HL := Lib.hid (fun W => rblow_any (tidyA (wideB 112 (blow a) (blow b))) W)
  generalize blow (tidyA (wideB 112 (blow a) (blow b))) = r at *
  generalize tidyA (wideB 112 (blow a) (blow b)) = t at *
  generalize wideB 112 (blow a) (blow b) = x at *
  generalize blow a = la at *
  generalize blow b = lb at *
  clear h
  go_enter Try.func22, Try.ntmps22
  go_wp2_with (first
    | (go_at_call 51; (with_reducible refine (HL.out _).mono ?_); rintro e w8 ⟨rfl, hb⟩; have H' := Lib.hid (HN.out.next hb); clear hb HN F; have HN := H'; clear H'; have F := HN.out.f)
    | (go_at_call 21; (with_reducible refine (HT.out _).mono ?_); rintro e w7 ⟨rfl, hb⟩; have H' := Lib.hid (HN.out.next hb); clear hb HN F; have HN := H'; clear H'; have F := HN.out.f)
    | (go_at_call 23; (with_reducible refine (HW.out _).mono ?_); rintro e w6 ⟨rfl, hb⟩; have H' := Lib.hid (HN.out.next hb); clear hb HN F; have HN := H'; clear H'; have F := HN.out.f)
    | (go_at_call 52; (with_reducible refine (HV.out _).mono ?_); rintro e w3 ⟨rfl, hb⟩; have H' := Lib.hid ((HN.out.setB lb).next hb); clear hb HN F; have HN := H'; clear H'; have F := HN.out.f)
    | (go_at_call 51; (with_reducible refine (HB.out _).mono ?_); rintro e w2 ⟨rfl, hb⟩; have H' := Lib.hid ((HN.out.setA la).next hb); clear hb HN F; have HN := H'; clear H'; have F := HN.out.f)
    | (go_at_call 51; (with_reducible refine (HA.out _).mono ?_); rintro e w1 ⟨rfl, hb⟩; have HN := Lib.hid ((Nw.start w a b _ _ _).next hb); clear hb HA; have F := HN.out.f))
  exact bodyPost_ret (by simp [results, Try.results22, go_sem, F]) rfl ⟨rfl, by repeat (first | with_reducible exact HN.out.low | with_reducible refine Below.setCell ?_ (by simp; omega) _)⟩
theorem rnarrow_any (op : Int) (ho : isOp op = true) (a b : Bd) (w : World) : Calls Try.prog 22 #[.int .i64 op, .agg #[.int .u64 (U a.ul), .int .u64 (U a.uh), .int .i64 (S a.sl), .int .i64 (S a.sh), .int .u64 (U a.t.v), .int .u64 (U a.t.m)], .agg #[.int .u64 (U b.ul), .int .u64 (U b.uh), .int .i64 (S b.sl), .int .i64 (S b.sh), .int .u64 (U b.t.v), .int .u64 (U b.t.m)]] w fun e w' => e = .returned (.agg #[.int .u64 (U (narrowB op a b).ul), .int .u64 (U (narrowB op a b).uh), .int .i64 (S (narrowB op a b).sl), .int .i64 (S (narrowB op a b).sh), .int .u64 (U (narrowB op a b).t.v), .int .u64 (U (narrowB op a b).t.m)]) ∧ Below w.heap.size w w' := by
  unfold narrowB
  by_cases hs : isShift op = true
  · rw [if_pos hs]
    have hop : op = 96 ∨ op = 112 ∨ op = 192 := by simp [isShift] at hs; omega
    clear hs
    by_cases h : (blow b).ul = (blow b).uh
    · rw [if_pos h]
      rcases hop with rfl | rfl | rfl
      · rw [if_neg (by simp [h]), if_neg (by decide)]; exact rnarrow_one 96 (.inl rfl) a b h w
      · rw [if_neg (by simp [h]), if_neg (by decide)]; exact rnarrow_one 112 (.inr rfl) a b h w
      · by_cases hu : 2147483647 < (blow a).uh.toNat
        · rw [if_pos (.inr ⟨rfl, hu⟩)]; exact rnarrow_big a b h (by unfold U; omega) w
        · rw [if_neg (by simp [h]; omega), if_pos rfl]; exact rnarrow_sar a b h (by unfold U; omega) w
    · rw [if_neg h]
      rcases hop with rfl | rfl | rfl
      · rw [if_pos (.inl ⟨h, by decide⟩)]; exact rnarrow_any4 96 (.inl rfl) a b h w
      · rw [if_neg (by simp), if_neg (by decide)]; exact rnarrow_rsh a b h w
      · rw [if_pos (.inl ⟨h, by decide⟩)]; exact rnarrow_any4 192 (.inr rfl) a b h w
  · rw [if_neg hs]
    have h0 : isShift op = false := by simpa using hs
    simp [isShift] at h0
    exact rnarrow_no op ho h0.1.1 h0.1.2 h0.2 a b w
end Go.Proofs.Yticjhcbkkkkckaa
