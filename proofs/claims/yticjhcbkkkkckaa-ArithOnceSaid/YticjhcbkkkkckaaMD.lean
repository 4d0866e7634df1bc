/- Bounds reckoned: the law on known numbers. -/
import Derived.Test.YticjhcbkkkkckaaMB
namespace Go.Proofs.Yticjhcbkkkkckaa
open Go.RowKit
attribute [local go_sem] b_and b_or b_xor b_andNot b_low b_top b_most b_signed b_unsigned b_zero b_eq s_eq b_nzero b_neq s_neq b_max b_min s_max s_min
attribute [local go_sem ↓] Go.wp_at_zero Go.wp_at_succ

theorem St.k (w W w1 : World) (c : Bd) (t : TypeId) (h : St w W []) (hb : Below W.heap.size W w1) : St w (w1.alloc (.cells #[.int .u64 (U c.ul), .int .u64 (U c.uh), .int .i64 (S c.sl), .int .i64 (S c.sh), .int .u64 (U c.t.v), .int .u64 (U c.t.m)] t)) [(w1.heap.size, c)] := (h.next hb).new c t
set_option maxRecDepth 100000 in
set_option maxHeartbeats 2000000 in
theorem once_no (op : Int) (hw : (Lit.int .i64 op).wf = true) (x y : B) (wide : Bool) (ho : isOp op = false) (w : World) : Calls Try.prog 5 #[.int .i64 op, .int .u64 (U x), .int .u64 (U y), .bool wide] w fun e w' => e = .returned (.bool true) ∧ Below w.heap.size w w' := by
  have HN := Lib.hid (St.start w)
  have HK := Lib.hid (fun W => aalu_any op hw (bconst x) (bconst y) wide W)
  have H0 := Lib.hid (fun W => ralu_any op x y wide W)
  have HX := Lib.hid (fun W => rbconst_any x W)
  have HY := Lib.hid (fun W => rbconst_any y W)
  rw [ho] at HK H0
  generalize aluB op (bconst x) (bconst y) wide = k at *
  generalize bconst x = cx at *
  generalize bconst y = cy at *
  generalize aluU op x y wide = v at *
  clear ho
  go_enter Try.func5, Try.ntmps5
  go_wp2_with (first
    | (go_at_call 8; (with_reducible refine (HK.out _).mono ?_); rintro e w1 ⟨rfl, hb⟩; have H' := Lib.hid ((HN.out.next hb).new k 26); clear hb HN; have HN := H'; clear H'; have F := HN.out.f1)
    | (go_at_call 14; (with_reducible refine (HX.out _).mono ?_); rintro e w2 ⟨rfl, hb⟩; have H' := Lib.hid (HN.out.next hb); clear hb HN; have HN := H'; clear H')
    | (go_at_call 14; (with_reducible refine (HY.out _).mono ?_); rintro e w3 ⟨rfl, hb⟩; have H' := Lib.hid (HN.out.next hb); clear hb HN; have HN := H'; clear H')
    | (go_at_call 11; (with_reducible refine (H0.out _).mono ?_); rintro e w6 ⟨rfl, rfl⟩)
    | (go_at_call 10; (with_reducible refine (heads_any _).mono ?_); rintro e w9 ⟨rfl, hb⟩; have H' := Lib.hid (HN.out.next hb); clear hb HN; have HN := H'; clear H'))
  go_ret
  exact ⟨rfl, HN.out.low⟩
set_option maxRecDepth 100000 in
set_option maxHeartbeats 2000000 in
theorem once_div0 (op : Int) (hw : (Lit.int .i64 op).wf = true) (x y : B) (wide : Bool) (ho : isOp op = true) (h1 : op = 48) (h2 : (y &&& low32 == 0#64) = true) (w : World) : Calls Try.prog 5 #[.int .i64 op, .int .u64 (U x), .int .u64 (U y), .bool wide] w fun e w' => e = .returned (.bool true) ∧ Below w.heap.size w w' := by
  have HN := Lib.hid (St.start w)
  have HK := Lib.hid (fun W => aalu_any op hw (bconst x) (bconst y) wide W)
  have H0 := Lib.hid (fun W => ralu_any op x y wide W)
  have HX := Lib.hid (fun W => rbconst_any x W)
  have HY := Lib.hid (fun W => rbconst_any y W)
  have hv := aluB_in (wide := wide) ho (const_check x) (const_check y) (const_in_self x) (const_in_self y)
  have he : aluU op x y wide = aluW op x y wide := if_pos ho
  rw [he, ho] at H0
  rw [ho] at HK
  have HV := Lib.hid (fun W => rbin_any (aluB op (bconst x) (bconst y) wide) (aluW op x y wide) W)
  rw [hv] at HV
  clear hv he
  generalize aluB op (bconst x) (bconst y) wide = k at *
  generalize bconst x = cx at *
  generalize bconst y = cy at *
  generalize aluW op x y wide = v at *
  clear ho
  subst h1
  go_enter Try.func5, Try.ntmps5
  go_wp2_with (first
    | (go_at_call 10; (with_reducible refine (heads_any _).mono ?_); rintro e w9 ⟨rfl, hb⟩; have H' := Lib.hid (HN.out.next hb); clear hb HN; have HN := H'; clear H')
    | (go_at_call 13; (with_reducible refine (HV.out _).mono ?_); rintro e w7 ⟨rfl, hb⟩; have H' := Lib.hid (HN.out.next hb); clear hb HN F; have HN := H'; clear H'; have F := HN.out.f1)
    | (go_at_call 8; (with_reducible refine (HK.out _).mono ?_); rintro e w1 ⟨rfl, hb⟩; have H' := Lib.hid ((HN.out.next hb).new k 26); clear hb HN; have HN := H'; clear H'; have F := HN.out.f1)
    | (go_at_call 14; (with_reducible refine (HX.out _).mono ?_); rintro e w2 ⟨rfl, hb⟩; have H' := Lib.hid (HN.out.next hb); clear hb HN; have HN := H'; clear H')
    | (go_at_call 14; (with_reducible refine (HY.out _).mono ?_); rintro e w3 ⟨rfl, hb⟩; have H' := Lib.hid (HN.out.next hb); clear hb HN; have HN := H'; clear H')
    | (go_at_call 11; (with_reducible refine (H0.out _).mono ?_); rintro e w6 ⟨rfl, rfl⟩))
  go_ret
  exact ⟨rfl, HN.out.low⟩
set_option maxRecDepth 100000 in
set_option maxHeartbeats 2000000 in
theorem once_mod (op : Int) (hw : (Lit.int .i64 op).wf = true) (x y : B) (wide : Bool) (ho : isOp op = true) (h1 : op = 144) (w : World) : Calls Try.prog 5 #[.int .i64 op, .int .u64 (U x), .int .u64 (U y), .bool wide] w fun e w' => e = .returned (.bool true) ∧ Below w.heap.size w w' := by
  have HN := Lib.hid (St.start w)
  have HK := Lib.hid (fun W => aalu_any op hw (bconst x) (bconst y) wide W)
  have H0 := Lib.hid (fun W => ralu_any op x y wide W)
  have HX := Lib.hid (fun W => rbconst_any x W)
  have HY := Lib.hid (fun W => rbconst_any y W)
  have hv := aluB_in (wide := wide) ho (const_check x) (const_check y) (const_in_self x) (const_in_self y)
  have he : aluU op x y wide = aluW op x y wide := if_pos ho
  rw [he, ho] at H0
  rw [ho] at HK
  have HV := Lib.hid (fun W => rbin_any (aluB op (bconst x) (bconst y) wide) (aluW op x y wide) W)
  rw [hv] at HV
  clear hv he
  generalize aluB op (bconst x) (bconst y) wide = k at *
  generalize bconst x = cx at *
  generalize bconst y = cy at *
  generalize aluW op x y wide = v at *
  clear ho
  subst h1
  go_enter Try.func5, Try.ntmps5
  go_wp2_with (first
    | (go_at_call 10; (with_reducible refine (heads_any _).mono ?_); rintro e w9 ⟨rfl, hb⟩; have H' := Lib.hid (HN.out.next hb); clear hb HN; have HN := H'; clear H')
    | (go_at_call 13; (with_reducible refine (HV.out _).mono ?_); rintro e w7 ⟨rfl, hb⟩; have H' := Lib.hid (HN.out.next hb); clear hb HN F; have HN := H'; clear H'; have F := HN.out.f1)
    | (go_at_call 8; (with_reducible refine (HK.out _).mono ?_); rintro e w1 ⟨rfl, hb⟩; have H' := Lib.hid ((HN.out.next hb).new k 26); clear hb HN; have HN := H'; clear H'; have F := HN.out.f1)
    | (go_at_call 14; (with_reducible refine (HX.out _).mono ?_); rintro e w2 ⟨rfl, hb⟩; have H' := Lib.hid (HN.out.next hb); clear hb HN; have HN := H'; clear H')
    | (go_at_call 14; (with_reducible refine (HY.out _).mono ?_); rintro e w3 ⟨rfl, hb⟩; have H' := Lib.hid (HN.out.next hb); clear hb HN; have HN := H'; clear H')
    | (go_at_call 11; (with_reducible refine (H0.out _).mono ?_); rintro e w6 ⟨rfl, rfl⟩))
  go_ret
  exact ⟨rfl, HN.out.low⟩
set_option maxRecDepth 100000 in
set_option maxHeartbeats 2000000 in
theorem once_div1 (op : Int) (hw : (Lit.int .i64 op).wf = true) (x y : B) (wide : Bool) (ho : isOp op = true) (h1 : op = 48) (h2 : (y &&& low32 == 0#64) = false) (h3 : (y == 0#64) = true) (w : World) : Calls Try.prog 5 #[.int .i64 op, .int .u64 (U x), .int .u64 (U y), .bool wide] w fun e w' => e = .returned (.bool true) ∧ Below w.heap.size w w' := by
  have HN := Lib.hid (St.start w)
  have HK := Lib.hid (fun W => aalu_any op hw (bconst x) (bconst y) wide W)
  have H0 := Lib.hid (fun W => ralu_any op x y wide W)
  have HX := Lib.hid (fun W => rbconst_any x W)
  have HY := Lib.hid (fun W => rbconst_any y W)
  have hv := aluB_in (wide := wide) ho (const_check x) (const_check y) (const_in_self x) (const_in_self y)
  have he : aluU op x y wide = aluW op x y wide := if_pos ho
  rw [he, ho] at H0
  rw [ho] at HK
  have HV := Lib.hid (fun W => rbin_any (aluB op (bconst x) (bconst y) wide) (aluW op x y wide) W)
  rw [hv] at HV
  clear hv he
  generalize aluB op (bconst x) (bconst y) wide = k at *
  generalize bconst x = cx at *
  generalize bconst y = cy at *
  generalize aluW op x y wide = v at *
  clear ho
  subst h1
  go_enter Try.func5, Try.ntmps5
  go_wp2_with (first
    | (go_at_call 10; (with_reducible refine (heads_any _).mono ?_); rintro e w9 ⟨rfl, hb⟩; have H' := Lib.hid (HN.out.next hb); clear hb HN; have HN := H'; clear H')
    | (go_at_call 13; (with_reducible refine (HV.out _).mono ?_); rintro e w7 ⟨rfl, hb⟩; have H' := Lib.hid (HN.out.next hb); clear hb HN F; have HN := H'; clear H'; have F := HN.out.f1)
    | (go_at_call 8; (with_reducible refine (HK.out _).mono ?_); rintro e w1 ⟨rfl, hb⟩; have H' := Lib.hid ((HN.out.next hb).new k 26); clear hb HN; have HN := H'; clear H'; have F := HN.out.f1)
    | (go_at_call 14; (with_reducible refine (HX.out _).mono ?_); rintro e w2 ⟨rfl, hb⟩; have H' := Lib.hid (HN.out.next hb); clear hb HN; have HN := H'; clear H')
    | (go_at_call 14; (with_reducible refine (HY.out _).mono ?_); rintro e w3 ⟨rfl, hb⟩; have H' := Lib.hid (HN.out.next hb); clear hb HN; have HN := H'; clear H')
    | (go_at_call 11; (with_reducible refine (H0.out _).mono ?_); rintro e w6 ⟨rfl, rfl⟩))
  go_ret
  exact ⟨rfl, HN.out.low⟩
set_option maxRecDepth 100000 in
set_option maxHeartbeats 2000000 in
theorem once_sar (op : Int) (hw : (Lit.int .i64 op).wf = true) (x y : B) (wide : Bool) (ho : isOp op = true) (h1 : op = 192) (h2 : wide = false) (w : World) : Calls Try.prog 5 #[.int .i64 op, .int .u64 (U x), .int .u64 (U y), .bool wide] w fun e w' => e = .returned (.bool true) ∧ Below w.heap.size w w' := by
  have HN := Lib.hid (St.start w)
  have HK := Lib.hid (fun W => aalu_any op hw (bconst x) (bconst y) wide W)
  have H0 := Lib.hid (fun W => ralu_any op x y wide W)
  have HX := Lib.hid (fun W => rbconst_any x W)
  have HY := Lib.hid (fun W => rbconst_any y W)
  have hv := aluB_in (wide := wide) ho (const_check x) (const_check y) (const_in_self x) (const_in_self y)
  have he : aluU op x y wide = aluW op x y wide := if_pos ho
  rw [he, ho] at H0
  rw [ho] at HK
  have HV := Lib.hid (fun W => rbin_any (aluB op (bconst x) (bconst y) wide) (aluW op x y wide) W)
  rw [hv] at HV
  clear hv he
  generalize aluB op (bconst x) (bconst y) wide = k at *
  generalize bconst x = cx at *
  generalize bconst y = cy at *
  generalize aluW op x y wide = v at *
  clear ho
  subst h1
  subst h2
  go_enter Try.func5, Try.ntmps5
  go_wp2_with (first
    | (go_at_call 10; (with_reducible refine (heads_any _).mono ?_); rintro e w9 ⟨rfl, hb⟩; have H' := Lib.hid (HN.out.next hb); clear hb HN; have HN := H'; clear H')
    | (go_at_call 13; (with_reducible refine (HV.out _).mono ?_); rintro e w7 ⟨rfl, hb⟩; have H' := Lib.hid (HN.out.next hb); clear hb HN F; have HN := H'; clear H'; have F := HN.out.f1)
    | (go_at_call 8; (with_reducible refine (HK.out _).mono ?_); rintro e w1 ⟨rfl, hb⟩; have H' := Lib.hid ((HN.out.next hb).new k 26); clear hb HN; have HN := H'; clear H'; have F := HN.out.f1)
    | (go_at_call 14; (with_reducible refine (HX.out _).mono ?_); rintro e w2 ⟨rfl, hb⟩; have H' := Lib.hid (HN.out.next hb); clear hb HN; have HN := H'; clear H')
    | (go_at_call 14; (with_reducible refine (HY.out _).mono ?_); rintro e w3 ⟨rfl, hb⟩; have H' := Lib.hid (HN.out.next hb); clear hb HN; have HN := H'; clear H')
    | (go_at_call 11; (with_reducible refine (H0.out _).mono ?_); rintro e w6 ⟨rfl, rfl⟩))
  go_ret
  exact ⟨rfl, HN.out.low⟩
theorem eq_const (c : Bd) (w : World) : (binOp .eql 26 (.agg #[.int .u64 (U c.ul), .int .u64 (U c.uh), .int .i64 (S c.sl), .int .i64 (S c.sh), .int .u64 (U c.t.v), .int .u64 (U c.t.m)]) (.agg #[.int .u64 (U c.ul), .int .u64 (U c.uh), .int .i64 (S c.sl), .int .i64 (S c.sh), .int .u64 (U c.t.v), .int .u64 (U c.t.m)])).run Try.prog w = .ok (.bool true) w := eq_self c w
set_option maxRecDepth 100000 in
set_option maxHeartbeats 2000000 in
theorem once_div (op : Int) (hw : (Lit.int .i64 op).wf = true) (x y : B) (wide : Bool) (ho : isOp op = true) (h1 : op = 48) (h2 : (y &&& low32 == 0#64) = false) (h3 : (y == 0#64) = false) (w : World) : Calls Try.prog 5 #[.int .i64 op, .int .u64 (U x), .int .u64 (U y), .bool wide] w fun e w' => e = .returned (.bool true) ∧ Below w.heap.size w w' := by
  have HN := Lib.hid (St.start w)
  have HK := Lib.hid (fun W => aalu_any op hw (bconst x) (bconst y) wide W)
  have H0 := Lib.hid (fun W => ralu_any op x y wide W)
  have HX := Lib.hid (fun W => rbconst_any x W)
  have HY := Lib.hid (fun W => rbconst_any y W)
  have hk : aluB op (bconst x) (bconst y) wide = bconst (aluW op x y wide) := aluB_known ho (by omega) x y wide (fun _ => ⟨by simpa using h3, by simpa using h2⟩) (by omega)
  have he : aluU op x y wide = aluW op x y wide := if_pos ho
  rw [he, ho] at H0
  rw [hk, ho] at HK
  have HC := Lib.hid (fun W => rbconst_any (aluW op x y wide) W)
  have e1 := eq_self (bconst (aluW op x y wide))
  generalize bconst (aluW op x y wide) = k at *
  generalize bconst x = cx at *
  generalize bconst y = cy at *
  generalize aluW op x y wide = v at *
  clear hk he ho
  subst h1
  go_enter Try.func5, Try.ntmps5
  go_wp2_with (first
    | (go_at_call 8; (with_reducible refine (HK.out _).mono ?_); rintro e w1 ⟨rfl, hb⟩; have H' := Lib.hid ((HN.out.next hb).new k 26); clear hb HN; have HN := H'; clear H'; have F := HN.out.f1)
    | (go_at_call 14; (with_reducible refine (HX.out _).mono ?_); rintro e w2 ⟨rfl, hb⟩; have H' := Lib.hid (HN.out.next hb); clear hb HN; have HN := H'; clear H')
    | (go_at_call 14; (with_reducible refine (HY.out _).mono ?_); rintro e w3 ⟨rfl, hb⟩; have H' := Lib.hid (HN.out.next hb); clear hb HN; have HN := H'; clear H')
    | (go_at_call 11; (with_reducible refine (H0.out _).mono ?_); rintro e w6 ⟨rfl, rfl⟩))
  go_region_held3 (fun W => (W.cell? ⟨w1.heap.size, 0, none⟩ = some (.int .u64 (U k.ul)) ∧ W.cell? ⟨w1.heap.size, 1, none⟩ = some (.int .u64 (U k.uh)) ∧ W.cell? ⟨w1.heap.size, 2, none⟩ = some (.int .i64 (S k.sl)) ∧ W.cell? ⟨w1.heap.size, 3, none⟩ = some (.int .i64 (S k.sh)) ∧ W.cell? ⟨w1.heap.size, 4, none⟩ = some (.int .u64 (U k.t.v)) ∧ W.cell? ⟨w1.heap.size, 5, none⟩ = some (.int .u64 (U k.t.m))) ∧ w1.heap.size < W.heap.size)
    (first | with_reducible exact F | with_reducible exact HN.out.drew.f1)
    (first
    | (go_at_call 14; (with_reducible refine (HC.out _).mono ?_); rintro e w8 ⟨rfl, hb⟩; (first | have H' := Lib.hid (HN.out.next hb) | have H' := Lib.hid (HN.out.drew.next hb)); clear hb HN F; have HN := H'; clear H'; have F := HN.out.f1)
    | (go_at_call 10; (with_reducible refine (heads_any _).mono ?_); rintro e w9 ⟨rfl, hb⟩; (first | have H' := Lib.hid (HN.out.next hb) | have H' := Lib.hid (HN.out.drew.next hb)); clear hb HN F; have HN := H'; clear H'; have F := HN.out.f1))
  all_goals
    go_wp2
    go_ret
    exact ⟨rfl, HN.out.low⟩
set_option maxRecDepth 100000 in
set_option maxHeartbeats 2000000 in
theorem once_wsar (op : Int) (hw : (Lit.int .i64 op).wf = true) (x y : B) (wide : Bool) (ho : isOp op = true) (h1 : op = 192) (h2 : wide = true) (w : World) : Calls Try.prog 5 #[.int .i64 op, .int .u64 (U x), .int .u64 (U y), .bool wide] w fun e w' => e = .returned (.bool true) ∧ Below w.heap.size w w' := by
  have HN := Lib.hid (St.start w)
  have HK := Lib.hid (fun W => aalu_any op hw (bconst x) (bconst y) wide W)
  have H0 := Lib.hid (fun W => ralu_any op x y wide W)
  have HX := Lib.hid (fun W => rbconst_any x W)
  have HY := Lib.hid (fun W => rbconst_any y W)
  have hk : aluB op (bconst x) (bconst y) wide = bconst (aluW op x y wide) := aluB_known ho (by omega) x y wide (by omega) (fun _ => h2)
  have he : aluU op x y wide = aluW op x y wide := if_pos ho
  rw [he, ho] at H0
  rw [hk, ho] at HK
  have HC := Lib.hid (fun W => rbconst_any (aluW op x y wide) W)
  have e1 := eq_self (bconst (aluW op x y wide))
  generalize bconst (aluW op x y wide) = k at *
  generalize bconst x = cx at *
  generalize bconst y = cy at *
  generalize aluW op x y wide = v at *
  clear hk he ho
  subst h1
  subst h2
  go_enter Try.func5, Try.ntmps5
  go_wp2_with (first
    | (go_at_call 8; (with_reducible refine (HK.out _).mono ?_); rintro e w1 ⟨rfl, hb⟩; have H' := Lib.hid ((HN.out.next hb).new k 26); clear hb HN; have HN := H'; clear H'; have F := HN.out.f1)
    | (go_at_call 14; (with_reducible refine (HX.out _).mono ?_); rintro e w2 ⟨rfl, hb⟩; have H' := Lib.hid (HN.out.next hb); clear hb HN; have HN := H'; clear H')
    | (go_at_call 14; (with_reducible refine (HY.out _).mono ?_); rintro e w3 ⟨rfl, hb⟩; have H' := Lib.hid (HN.out.next hb); clear hb HN; have HN := H'; clear H')
    | (go_at_call 11; (with_reducible refine (H0.out _).mono ?_); rintro e w6 ⟨rfl, rfl⟩))
  go_region_held3 (fun W => (W.cell? ⟨w1.heap.size, 0, none⟩ = some (.int .u64 (U k.ul)) ∧ W.cell? ⟨w1.heap.size, 1, none⟩ = some (.int .u64 (U k.uh)) ∧ W.cell? ⟨w1.heap.size, 2, none⟩ = some (.int .i64 (S k.sl)) ∧ W.cell? ⟨w1.heap.size, 3, none⟩ = some (.int .i64 (S k.sh)) ∧ W.cell? ⟨w1.heap.size, 4, none⟩ = some (.int .u64 (U k.t.v)) ∧ W.cell? ⟨w1.heap.size, 5, none⟩ = some (.int .u64 (U k.t.m))) ∧ w1.heap.size < W.heap.size)
    (first | with_reducible exact F | with_reducible exact HN.out.drew.f1)
    (first
    | (go_at_call 14; (with_reducible refine (HC.out _).mono ?_); rintro e w8 ⟨rfl, hb⟩; (first | have H' := Lib.hid (HN.out.next hb) | have H' := Lib.hid (HN.out.drew.next hb)); clear hb HN F; have HN := H'; clear H'; have F := HN.out.f1)
    | (go_at_call 10; (with_reducible refine (heads_any _).mono ?_); rintro e w9 ⟨rfl, hb⟩; (first | have H' := Lib.hid (HN.out.next hb) | have H' := Lib.hid (HN.out.drew.next hb)); clear hb HN F; have HN := H'; clear H'; have F := HN.out.f1))
  all_goals
    go_wp2
    go_ret
    exact ⟨rfl, HN.out.low⟩
set_option maxRecDepth 100000 in
set_option maxHeartbeats 2000000 in
theorem once_other (op : Int) (hw : (Lit.int .i64 op).wf = true) (x y : B) (wide : Bool) (ho : isOp op = true) (h1 : (op == 48) = false) (h2 : (op == 144) = false) (h3 : (op == 192) = false) (w : World) : Calls Try.prog 5 #[.int .i64 op, .int .u64 (U x), .int .u64 (U y), .bool wide] w fun e w' => e = .returned (.bool true) ∧ Below w.heap.size w w' := by
  have HN := Lib.hid (St.start w)
  have HK := Lib.hid (fun W => aalu_any op hw (bconst x) (bconst y) wide W)
  have H0 := Lib.hid (fun W => ralu_any op x y wide W)
  have HX := Lib.hid (fun W => rbconst_any x W)
  have HY := Lib.hid (fun W => rbconst_any y W)
  have hk : aluB op (bconst x) (bconst y) wide = bconst (aluW op x y wide) := aluB_known ho (by simpa using h2) x y wide (fun h => absurd h (by simpa using h1)) (fun h => absurd h (by simpa using h3))
  have he : aluU op x y wide = aluW op x y wide := if_pos ho
  rw [he, ho] at H0
  rw [hk, ho] at HK
  have HC := Lib.hid (fun W => rbconst_any (aluW op x y wide) W)
  have e1 := eq_self (bconst (aluW op x y wide))
  generalize bconst (aluW op x y wide) = k at *
  generalize bconst x = cx at *
  generalize bconst y = cy at *
  generalize aluW op x y wide = v at *
  clear hk he ho
  go_enter Try.func5, Try.ntmps5
  go_wp2_with (first
    | (go_at_call 8; (with_reducible refine (HK.out _).mono ?_); rintro e w1 ⟨rfl, hb⟩; have H' := Lib.hid ((HN.out.next hb).new k 26); clear hb HN; have HN := H'; clear H'; have F := HN.out.f1)
    | (go_at_call 14; (with_reducible refine (HX.out _).mono ?_); rintro e w2 ⟨rfl, hb⟩; have H' := Lib.hid (HN.out.next hb); clear hb HN; have HN := H'; clear H')
    | (go_at_call 14; (with_reducible refine (HY.out _).mono ?_); rintro e w3 ⟨rfl, hb⟩; have H' := Lib.hid (HN.out.next hb); clear hb HN; have HN := H'; clear H')
    | (go_at_call 11; (with_reducible refine (H0.out _).mono ?_); rintro e w6 ⟨rfl, rfl⟩))
  go_region_held3 (fun W => (W.cell? ⟨w1.heap.size, 0, none⟩ = some (.int .u64 (U k.ul)) ∧ W.cell? ⟨w1.heap.size, 1, none⟩ = some (.int .u64 (U k.uh)) ∧ W.cell? ⟨w1.heap.size, 2, none⟩ = some (.int .i64 (S k.sl)) ∧ W.cell? ⟨w1.heap.size, 3, none⟩ = some (.int .i64 (S k.sh)) ∧ W.cell? ⟨w1.heap.size, 4, none⟩ = some (.int .u64 (U k.t.v)) ∧ W.cell? ⟨w1.heap.size, 5, none⟩ = some (.int .u64 (U k.t.m))) ∧ w1.heap.size < W.heap.size)
    (first | with_reducible exact F | with_reducible exact HN.out.drew.f1)
    (first
    | (go_at_call 14; (with_reducible refine (HC.out _).mono ?_); rintro e w8 ⟨rfl, hb⟩; (first | have H' := Lib.hid (HN.out.next hb) | have H' := Lib.hid (HN.out.drew.next hb)); clear hb HN F; have HN := H'; clear H'; have F := HN.out.f1)
    | (go_at_call 10; (with_reducible refine (heads_any _).mono ?_); rintro e w9 ⟨rfl, hb⟩; (first | have H' := Lib.hid (HN.out.next hb) | have H' := Lib.hid (HN.out.drew.next hb)); clear hb HN F; have HN := H'; clear H'; have F := HN.out.f1))
  all_goals
    go_wp2
    go_ret
    exact ⟨rfl, HN.out.low⟩
theorem once_law (op : Int) (hw : (Lit.int .i64 op).wf = true) (x y : B) (wide : Bool) (w : World) : Calls Try.prog 5 #[.int .i64 op, .int .u64 (U x), .int .u64 (U y), .bool wide] w fun e w' => e = .returned (.bool true) ∧ Below w.heap.size w w' := by
  cases ho : isOp op with
  | false => exact once_no op hw x y wide ho w
  | true =>
    cases h1 : op == 48 with
    | true =>
      have h1 : op = 48 := by simpa using h1
      cases h2 : y &&& low32 == 0#64 with
      | true => exact once_div0 op hw x y wide ho h1 h2 w
      | false => cases h3 : y == 0#64 with
        | true => exact once_div1 op hw x y wide ho h1 h2 h3 w
        | false => exact once_div op hw x y wide ho h1 h2 h3 w
    | false =>
      cases h2 : op == 144 with
      | true => exact once_mod op hw x y wide ho (by simpa using h2) w
      | false =>
        cases h3 : op == 192 with
        | false => exact once_other op hw x y wide ho h1 h2 h3 w
        | true => cases wide with
          | true => exact once_wsar op hw x y true ho (by simpa using h3) rfl w
          | false => exact once_sar op hw x y false ho (by simpa using h3) rfl w
end Go.Proofs.Yticjhcbkkkkckaa
