/- Package arith: Alu, of 32 bits. -/
import Derived.Test.YticjhcbkkkkckaaOL
import Derived.Test.YticjhcbkkkkckaaOK
import Derived.Test.YticjhcbkkkkckaaNS
import Derived.Deep.RegionHeld3
import Derived.Deep.DeepCutAuto
namespace Go.Proofs.Yticjhcbkkkkckaa
open Go.RowKit Go.Maps
attribute [local go_sem] b_and b_or b_xor b_andNot b_low b_top b_most b_signed b_unsigned b_zero b_eq s_eq b_nzero b_neq s_neq b_max b_min s_max s_min
attribute [local go_sem ↓] Go.wp_at_zero Go.wp_at_succ

set_option maxRecDepth 100000 in
set_option maxHeartbeats 1000000 in
theorem alu_f0 (a b : Bd) (ha : bcheck a = true) (hb : bcheck b = true) (w : World) : Calls Try.prog 8 #[.int .i64 0, .agg #[.int .u64 (U a.ul), .int .u64 (U a.uh), .int .i64 (S a.sl), .int .i64 (S a.sh), .int .u64 (U a.t.v), .int .u64 (U a.t.m)], .agg #[.int .u64 (U b.ul), .int .u64 (U b.uh), .int .i64 (S b.sl), .int .i64 (S b.sh), .int .u64 (U b.t.v), .int .u64 (U b.t.m)], .bool false] w fun e w' => e = .returned (.tuple #[.agg #[.int .u64 (U (tidyA (blow (tidyA (reckB 0 (blow a) (blow b) false)))).ul), .int .u64 (U (tidyA (blow (tidyA (reckB 0 (blow a) (blow b) false)))).uh), .int .i64 (S (tidyA (blow (tidyA (reckB 0 (blow a) (blow b) false)))).sl), .int .i64 (S (tidyA (blow (tidyA (reckB 0 (blow a) (blow b) false)))).sh), .int .u64 (U (tidyA (blow (tidyA (reckB 0 (blow a) (blow b) false)))).t.v), .int .u64 (U (tidyA (blow (tidyA (reckB 0 (blow a) (blow b) false)))).t.m)], .bool true]) ∧ Below w.heap.size w w' := by
  have HT := Lib.hid (fun W => table_any W)
  have HX := Lib.hid (fun W => bcheck_any a W)
  have HY := Lib.hid (fun W => bcheck_any b W)
  rw [ha] at HX
  rw [hb] at HY
  have HA := Lib.hid (fun W => blow_any a W)
  have HB := Lib.hid (fun W => blow_any b W)
  have HW := Lib.hid (fun W => reck_0 (blow a) (blow b) false W)
  have HI := Lib.hid (fun W => tidyP_any (reckB 0 (blow a) (blow b) false) W)
  have HL := Lib.hid (fun W => blow_any (tidyA (reckB 0 (blow a) (blow b) false)) W)
  have HJ := Lib.hid (fun W => tidyP_any (blow (tidyA (reckB 0 (blow a) (blow b) false))) W)
  generalize tidyA (blow (tidyA (reckB 0 (blow a) (blow b) false))) = q at *
  generalize blow (tidyA (reckB 0 (blow a) (blow b) false)) = r at *
  generalize tidyA (reckB 0 (blow a) (blow b) false) = t at *
  generalize reckB 0 (blow a) (blow b) false = x at *
  generalize blow a = la at *
  generalize blow b = lb at *
  have HN := Lib.hid (Nw.start w a b 26 26 26)
  have F := HN.out.f
  clear ha hb
  go_enter Try.func8, Try.ntmps8
  go_wp2_with (first
    | (go_at_call 16; (with_reducible refine (HT.out _).mono ?_); rintro e w1 ⟨rfl, hb, hm⟩; have R := tb_look hm 0 (by decide); rw [show isOp 0 = true from rfl, show wayV 0 = .func (.func 30) #[] #[] from rfl] at R; rw [World.size_alloc, World.size_alloc, World.size_alloc] at R; have H' := Lib.hid (HN.out.next hb); clear hb hm HN F; have HN := H'; clear H'; have F := HN.out.f)
    | (go_at_call 18; (with_reducible refine (HY.out _).mono ?_); rintro e w3 ⟨rfl, hb⟩; have H' := Lib.hid (HN.out.next hb); clear hb HN F; have HN := H'; clear H'; have F := HN.out.f)
    | (go_at_call 18; (with_reducible refine (HX.out _).mono ?_); rintro e w2 ⟨rfl, hb⟩; have H' := Lib.hid (HN.out.next hb); clear hb HN F; have HN := H'; clear H'; have F := HN.out.f))
  clear F
  have F := HN.out.ab
  have z3 := HN.out.fr.lt
  go_cut [12] (fun s12 wx => RelA w a b r s12 wx)
  case first =>
    go_region_held3 (fun W => (W.cell? ⟨w.heap.size, 0, none⟩ = some (.int .u64 (U a.ul)) ∧ W.cell? ⟨w.heap.size, 1, none⟩ = some (.int .u64 (U a.uh)) ∧ W.cell? ⟨w.heap.size, 2, none⟩ = some (.int .i64 (S a.sl)) ∧ W.cell? ⟨w.heap.size, 3, none⟩ = some (.int .i64 (S a.sh)) ∧ W.cell? ⟨w.heap.size, 4, none⟩ = some (.int .u64 (U a.t.v)) ∧ W.cell? ⟨w.heap.size, 5, none⟩ = some (.int .u64 (U a.t.m))) ∧ (W.cell? ⟨(w.heap.size + 1), 0, none⟩ = some (.int .u64 (U b.ul)) ∧ W.cell? ⟨(w.heap.size + 1), 1, none⟩ = some (.int .u64 (U b.uh)) ∧ W.cell? ⟨(w.heap.size + 1), 2, none⟩ = some (.int .i64 (S b.sl)) ∧ W.cell? ⟨(w.heap.size + 1), 3, none⟩ = some (.int .i64 (S b.sh)) ∧ W.cell? ⟨(w.heap.size + 1), 4, none⟩ = some (.int .u64 (U b.t.v)) ∧ W.cell? ⟨(w.heap.size + 1), 5, none⟩ = some (.int .u64 (U b.t.m))) ∧ w.heap.size < W.heap.size ∧ w.heap.size + 1 < W.heap.size)
      (first | with_reducible exact F | with_reducible exact HN.out.drew.ab | with_reducible exact (HN.out.alloc _).ab | with_reducible exact (HN.out.alloc _).drew.ab | with_reducible exact (HN.out.farN (by assumption)).ab | with_reducible exact (HN.out.drew.farN (by assumption)).ab)
      (first
      | (go_at_call 20; (with_reducible refine (HL.out _).mono ?_); rintro e w8 ⟨rfl, hb⟩; (first | have H' := Lib.hid (HN.out.next hb) | have H' := Lib.hid (HN.out.drew.next hb) | have H' := Lib.hid ((HN.out.alloc _).next hb) | have H' := Lib.hid ((HN.out.alloc _).drew.next hb)); (first | (have BY := Lib.hid (BX.out.next hb); clear BX Y; have BX := BY; clear BY; have Y := BX.out.six) | (have BX := Lib.hid ((Box.new w7 [.int .u64 0, .int .u64 0, .int .i64 0, .int .i64 0, .int .u64 0, .int .u64 0] 26 (b := w7.heap.size) rfl).next hb); have Y := BX.out.six) | (have BX := Lib.hid ((Box.new w7 [.int .u64 0, .int .u64 0, .int .i64 0, .int .i64 0, .int .u64 0, .int .u64 0] 26 (b := w7.heap.size) rfl).drew.next hb); have Y := BX.out.six) | skip); clear hb HN F; have HN := H'; clear H'; have F := HN.out.ab; have zw8 := HN.out.fr.lt)
      | (go_at_call 19; (with_reducible refine (HI.out _).mono ?_); rintro e w7 ⟨rfl, hb⟩; (first | have H' := Lib.hid (HN.out.next hb) | have H' := Lib.hid (HN.out.drew.next hb) | have H' := Lib.hid ((HN.out.alloc _).next hb) | have H' := Lib.hid ((HN.out.alloc _).drew.next hb)); (first | (have BY := Lib.hid (BX.out.next hb); clear BX Y; have BX := BY; clear BY; have Y := BX.out.six) | (have BX := Lib.hid ((Box.new w6 [.int .u64 0, .int .u64 0, .int .i64 0, .int .i64 0, .int .u64 0, .int .u64 0] 26 (b := w6.heap.size) rfl).next hb); have Y := BX.out.six) | (have BX := Lib.hid ((Box.new w6 [.int .u64 0, .int .u64 0, .int .i64 0, .int .i64 0, .int .u64 0, .int .u64 0] 26 (b := w6.heap.size) rfl).drew.next hb); have Y := BX.out.six) | skip); clear hb HN F; have HN := H'; clear H'; have F := HN.out.ab; have zw7 := HN.out.fr.lt)
      | (go_at_call 30; (with_reducible refine (HW.out _).mono ?_); rintro e w6 ⟨rfl, hb⟩; (first | have H' := Lib.hid (HN.out.next hb) | have H' := Lib.hid (HN.out.drew.next hb) | have H' := Lib.hid ((HN.out.alloc _).next hb) | have H' := Lib.hid ((HN.out.alloc _).drew.next hb)); (first | (have BY := Lib.hid (BX.out.next hb); clear BX Y; have BX := BY; clear BY; have Y := BX.out.six) | (have BX := Lib.hid ((Box.new w5 [.int .u64 0, .int .u64 0, .int .i64 0, .int .i64 0, .int .u64 0, .int .u64 0] 26 (b := w5.heap.size) rfl).next hb); have Y := BX.out.six) | (have BX := Lib.hid ((Box.new w5 [.int .u64 0, .int .u64 0, .int .i64 0, .int .i64 0, .int .u64 0, .int .u64 0] 26 (b := w5.heap.size) rfl).drew.next hb); have Y := BX.out.six) | skip); clear hb HN F; have HN := H'; clear H'; have F := HN.out.ab; have zw6 := HN.out.fr.lt)
      | (go_at_call 20; (with_reducible refine (HB.out _).mono ?_); rintro e w5 ⟨rfl, hb⟩; (first | have H' := Lib.hid (HN.out.next hb) | have H' := Lib.hid (HN.out.drew.next hb) | have H' := Lib.hid ((HN.out.alloc _).next hb) | have H' := Lib.hid ((HN.out.alloc _).drew.next hb)); (first | (have BY := Lib.hid (BX.out.next hb); clear BX Y; have BX := BY; clear BY; have Y := BX.out.six) | (have BX := Lib.hid ((Box.new w4 [.int .u64 0, .int .u64 0, .int .i64 0, .int .i64 0, .int .u64 0, .int .u64 0] 26 (b := w4.heap.size) rfl).next hb); have Y := BX.out.six) | (have BX := Lib.hid ((Box.new w4 [.int .u64 0, .int .u64 0, .int .i64 0, .int .i64 0, .int .u64 0, .int .u64 0] 26 (b := w4.heap.size) rfl).drew.next hb); have Y := BX.out.six) | skip); clear hb HN F; have HN := H'; clear H'; have F := HN.out.ab; have zw5 := HN.out.fr.lt)
      | (go_at_call 20; (with_reducible refine (HA.out _).mono ?_); rintro e w4 ⟨rfl, hb⟩; (first | have H' := Lib.hid (HN.out.next hb) | have H' := Lib.hid (HN.out.drew.next hb) | have H' := Lib.hid ((HN.out.alloc _).next hb) | have H' := Lib.hid ((HN.out.alloc _).drew.next hb)); (first | (have BY := Lib.hid (BX.out.next hb); clear BX Y; have BX := BY; clear BY; have Y := BX.out.six) | (have BX := Lib.hid ((Box.new w3 [.int .u64 0, .int .u64 0, .int .i64 0, .int .i64 0, .int .u64 0, .int .u64 0] 26 (b := w3.heap.size) rfl).next hb); have Y := BX.out.six) | (have BX := Lib.hid ((Box.new w3 [.int .u64 0, .int .u64 0, .int .i64 0, .int .i64 0, .int .u64 0, .int .u64 0] 26 (b := w3.heap.size) rfl).drew.next hb); have Y := BX.out.six) | skip); clear hb HN F; have HN := H'; clear H'; have F := HN.out.ab; have zw4 := HN.out.fr.lt))
    all_goals (go_wp2_with fail; go_meet)
    all_goals first
      | with_reducible exact relA_new HN.out _ _
      | with_reducible exact relA_set HN.out BX.out (by assumption) _
  case rest =>
    obtain ⟨n, rfl, hN, hn, hX⟩ := hcut
    clear HN F HA HB HW HI HL HT HX HY
    have HN := Lib.hid hN
    have HX := Lib.hid hX
    clear hN hX
    have F := HX.out.six
    have G := HN.out.fr.six0
    go_wp2_with (go_at_call 19; (with_reducible refine (HJ.out _).mono ?_); rintro e w9 ⟨rfl, hb⟩; have H' := Lib.hid (HN.out.next hb); clear hb HN F G; have HN := H'; clear H'; have G := HN.out.fr.six0)
    exact bodyPost_ret (v := .tuple #[.agg #[.int .u64 (U q.ul), .int .u64 (U q.uh), .int .i64 (S q.sl), .int .i64 (S q.sh), .int .u64 (U q.t.v), .int .u64 (U q.t.m)], .bool true]) (by simp [results, Try.results8, go_sem, G]) rfl ⟨rfl, by repeat (first | with_reducible exact HN.out.low | with_reducible refine Below.setCell ?_ (by simp; omega) _)⟩
end Go.Proofs.Yticjhcbkkkkckaa
