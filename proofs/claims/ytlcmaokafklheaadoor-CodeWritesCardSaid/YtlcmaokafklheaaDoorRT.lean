/- Contract of the document's own Text. -/
import Derived.Test.YtlcmaokafklheaaDoorT
import Derived.Test.YtlcmaokafklheaaDoorSL
import Derived.Deep.RegionHeld3
namespace Go.Proofs.YtlcmaokafklheaaDoor
open Go.RowKit M

theorem app_string (a b : List UInt8) : (⟨a.toArray⟩ : ByteArray) ++ ⟨b.toArray⟩ = ⟨(a ++ b).toArray⟩ := by
  apply ByteArray.ext
  simp
theorem textL_eq (x : In) : textL x = if x.op = 24 then Lib.itoa x.op ++ [32] ++ Lib.itoa x.dst ++ [32] ++ Lib.itoa x.src ++ [32] ++ Lib.itoa x.off ++ [32] ++ Lib.itoa x.imm ++ [32] ++ Lib.decDigits x.wide.toNat else Lib.itoa x.op ++ [32] ++ Lib.itoa x.dst ++ [32] ++ Lib.itoa x.src ++ [32] ++ Lib.itoa x.off ++ [32] ++ Lib.itoa x.imm := by
  unfold textL
  have e : digs x 5 = [Lib.itoa x.op, Lib.itoa x.dst, Lib.itoa x.src, Lib.itoa x.off, Lib.itoa x.imm] := rfl
  rw [e]
  split <;> simp [Lib.join, List.intercalate]
theorem app32 (a : List UInt8) : (⟨a.toArray⟩ : ByteArray) ++ ⟨#[32]⟩ = ⟨(a ++ [32]).toArray⟩ := app_string a [32]
/-- an instruction's own box -/
structure BoxI (x : In) (w W : World) : Prop where
  lt : w.heap.size < W.heap.size
  c0 : W.cell? ⟨w.heap.size, 0, none⟩ = some (.int .i64 x.op)
  c1 : W.cell? ⟨w.heap.size, 1, none⟩ = some (.int .i64 x.dst)
  c2 : W.cell? ⟨w.heap.size, 2, none⟩ = some (.int .i64 x.src)
  c3 : W.cell? ⟨w.heap.size, 3, none⟩ = some (.int .i64 x.off)
  c4 : W.cell? ⟨w.heap.size, 4, none⟩ = some (.int .i64 x.imm)
  c5 : W.cell? ⟨w.heap.size, 5, none⟩ = some (.int .u64 x.wide)
theorem BoxI.next {x : In} {w W W' : World} (h : BoxI x w W) (hb : Below W.heap.size W W') : BoxI x w W' :=
  ⟨Nat.lt_of_lt_of_le h.lt hb.size, (hb.cell (p := ⟨w.heap.size, 0, none⟩) h.lt).trans h.c0, (hb.cell (p := ⟨w.heap.size, 1, none⟩) h.lt).trans h.c1, (hb.cell (p := ⟨w.heap.size, 2, none⟩) h.lt).trans h.c2, (hb.cell (p := ⟨w.heap.size, 3, none⟩) h.lt).trans h.c3, (hb.cell (p := ⟨w.heap.size, 4, none⟩) h.lt).trans h.c4, (hb.cell (p := ⟨w.heap.size, 5, none⟩) h.lt).trans h.c5⟩
theorem BoxI.first (x : In) (w : World) : BoxI x w (w.alloc (.cells #[.int .i64 x.op, .int .i64 x.dst, .int .i64 x.src, .int .i64 x.off, .int .i64 x.imm, .int .u64 x.wide] 38)).drew :=
  ⟨by simp, cell_new w rfl, cell_new w rfl, cell_new w rfl, cell_new w rfl, cell_new w rfl, cell_new w rfl⟩
theorem BoxI.all {x : In} {w W : World} (h : BoxI x w W) : W.cell? ⟨w.heap.size, 0, none⟩ = some (.int .i64 x.op) ∧ W.cell? ⟨w.heap.size, 1, none⟩ = some (.int .i64 x.dst) ∧ W.cell? ⟨w.heap.size, 2, none⟩ = some (.int .i64 x.src) ∧ W.cell? ⟨w.heap.size, 3, none⟩ = some (.int .i64 x.off) ∧ W.cell? ⟨w.heap.size, 4, none⟩ = some (.int .i64 x.imm) := ⟨h.c0, h.c1, h.c2, h.c3, h.c4⟩
set_option maxRecDepth 100000 in
set_option maxHeartbeats 4000000 in
theorem rtext_any (x : In) (hx : Bd x) (w : World) (hp : Pow w) :
    Calls Tryd.prog 19 #[.agg #[.int .i64 x.op, .int .i64 x.dst, .int .i64 x.src, .int .i64 x.off, .int .i64 x.imm, .int .u64 x.wide]] w fun e w' => e = .returned (strV (textL x)) ∧ Below w.heap.size w w' := by
  have HP0 := Lib.hid ((hp.alloc (.cells #[.int .i64 x.op, .int .i64 x.dst, .int .i64 x.src, .int .i64 x.off, .int .i64 x.imm, .int .u64 x.wide] 38)).below (Below.refl _ _).drew)
  have BX0 := Lib.hid (BoxI.first x w)
  have HB0 := Lib.hid ((Below.refl w.heap.size w).alloc (Nat.le_refl _) (.cells #[.int .i64 x.op, .int .i64 x.dst, .int .i64 x.src, .int .i64 x.off, .int .i64 x.imm, .int .u64 x.wide] 38)).drew
  clear hp
  have b0 := hx.op
  have b1 := hx.dst
  have b2 := hx.src
  have b3 := hx.off
  have b4 := hx.imm
  obtain ⟨hw0, hw1⟩ := hx.wide
  clear hx
  have I0 := Lib.hid (fun W => itoa_any x.op b0 W)
  have I1 := Lib.hid (fun W => itoa_any x.dst b1 W)
  have I2 := Lib.hid (fun W => itoa_any x.src b2 W)
  have I3 := Lib.hid (fun W => itoa_any x.off b3 W)
  have I4 := Lib.hid (fun W => itoa_any x.imm b4 W)
  have n0 := Lib.itoa_length_le x.op b0.1 b0.2
  have n1 := Lib.itoa_length_le x.dst b1.1 b1.2
  have n2 := Lib.itoa_length_le x.src b2.1 b2.2
  have n3 := Lib.itoa_length_le x.off b3.1 b3.2
  have n4 := Lib.itoa_length_le x.imm b4.1 b4.2
  have HT := Lib.hid (textL_eq x)
  generalize Lib.itoa x.op = D0 at *
  generalize Lib.itoa x.dst = D1 at *
  generalize Lib.itoa x.src = D2 at *
  generalize Lib.itoa x.off = D3 at *
  generalize Lib.itoa x.imm = D4 at *
  have tok0 : True := trivial
  have tok1 : True := trivial
  have tok2 : True := trivial
  have tok3 : True := trivial
  go_enter Tryd.func19, Tryd.ntmps19
  go_wp2_with fail
  refine wp_region_noPanic ?_
  refine wp_region_held_drew (S := (fun W => W.cell? ⟨w.heap.size, 0, none⟩ = some (.int .i64 x.op) ∧ W.cell? ⟨w.heap.size, 1, none⟩ = some (.int .i64 x.dst) ∧ W.cell? ⟨w.heap.size, 2, none⟩ = some (.int .i64 x.src) ∧ W.cell? ⟨w.heap.size, 3, none⟩ = some (.int .i64 x.off) ∧ W.cell? ⟨w.heap.size, 4, none⟩ = some (.int .i64 x.imm))) (by kernel_rfl) BX0.out.all (fun hHeld => ?_)
  refine takeYes (i := 0) (v := ?v0) (some 4) rfl rfl (by kernel_rfl) (by kernel_rfl) (by kernel_rfl) (fun _ _ _ h => h) (by rfl) ?y0 hHeld ?r0
  case y0 =>
    intro w hSw
    try dsimp only at hSw
    go_simp
    try (with_reducible rfl)
  case r0 =>
  try simp only [Act.put, List.setIfInBounds_toArray, List.set_cons_zero, List.set_cons_succ]
  refine takeYes (i := 1) (v := ?v1) (some 5) rfl rfl (by kernel_rfl) (by kernel_rfl) (by kernel_rfl) (fun _ _ _ h => h) (by rfl) ?y1 hHeld ?r1
  case y1 =>
    intro w hSw
    try dsimp only at hSw
    go_simp
    try (with_reducible rfl)
  case r1 =>
  try simp only [Act.put, List.setIfInBounds_toArray, List.set_cons_zero, List.set_cons_succ]
  refine takeYes (i := 4) (v := ?v4) (some 8) rfl rfl (by kernel_rfl) (by kernel_rfl) (by kernel_rfl) (fun _ _ _ h => h) (by rfl) ?y4 hHeld ?r4
  case y4 =>
    intro w hSw
    try dsimp only at hSw
    go_simp
    try (with_reducible rfl)
  case r4 =>
  try simp only [Act.put, List.setIfInBounds_toArray, List.set_cons_zero, List.set_cons_succ]
  refine takeYes (i := 5) (v := ?v5) (some 9) rfl rfl (by kernel_rfl) (by kernel_rfl) (by kernel_rfl) (fun _ _ _ h => h) (by rfl) ?y5 hHeld ?r5
  case y5 =>
    intro w hSw
    try dsimp only at hSw
    go_simp
    try (with_reducible rfl)
  case r5 =>
  try simp only [Act.put, List.setIfInBounds_toArray, List.set_cons_zero, List.set_cons_succ]
  refine takeYes (i := 9) (v := ?v9) (some 13) rfl rfl (by kernel_rfl) (by kernel_rfl) (by kernel_rfl) (fun _ _ _ h => h) (by rfl) ?y9 hHeld ?r9
  case y9 =>
    intro w hSw
    try dsimp only at hSw
    go_simp
    try (with_reducible rfl)
  case r9 =>
  try simp only [Act.put, List.setIfInBounds_toArray, List.set_cons_zero, List.set_cons_succ]
  refine takeYes (i := 10) (v := ?v10) (some 14) rfl rfl (by kernel_rfl) (by kernel_rfl) (by kernel_rfl) (fun _ _ _ h => h) (by rfl) ?y10 hHeld ?r10
  case y10 =>
    intro w hSw
    try dsimp only at hSw
    go_simp
    try (with_reducible rfl)
  case r10 =>
  try simp only [Act.put, List.setIfInBounds_toArray, List.set_cons_zero, List.set_cons_succ]
  refine takeYes (i := 14) (v := ?v14) (some 18) rfl rfl (by kernel_rfl) (by kernel_rfl) (by kernel_rfl) (fun _ _ _ h => h) (by rfl) ?y14 hHeld ?r14
  case y14 =>
    intro w hSw
    try dsimp only at hSw
    go_simp
    try (with_reducible rfl)
  case r14 =>
  try simp only [Act.put, List.setIfInBounds_toArray, List.set_cons_zero, List.set_cons_succ]
  refine takeYes (i := 15) (v := ?v15) (some 19) rfl rfl (by kernel_rfl) (by kernel_rfl) (by kernel_rfl) (fun _ _ _ h => h) (by rfl) ?y15 hHeld ?r15
  case y15 =>
    intro w hSw
    try dsimp only at hSw
    go_simp
    try (with_reducible rfl)
  case r15 =>
  try simp only [Act.put, List.setIfInBounds_toArray, List.set_cons_zero, List.set_cons_succ]
  refine takeYes (i := 19) (v := ?v19) (some 23) rfl rfl (by kernel_rfl) (by kernel_rfl) (by kernel_rfl) (fun _ _ _ h => h) (by rfl) ?y19 hHeld ?r19
  case y19 =>
    intro w hSw
    try dsimp only at hSw
    go_simp
    try (with_reducible rfl)
  case r19 =>
  try simp only [Act.put, List.setIfInBounds_toArray, List.set_cons_zero, List.set_cons_succ]
  refine takeYes (i := 20) (v := ?v20) (some 24) rfl rfl (by kernel_rfl) (by kernel_rfl) (by kernel_rfl) (fun _ _ _ h => h) (by rfl) ?y20 hHeld ?r20
  case y20 =>
    intro w hSw
    try dsimp only at hSw
    go_simp
    try (with_reducible rfl)
  case r20 =>
  try simp only [Act.put, List.setIfInBounds_toArray, List.set_cons_zero, List.set_cons_succ]
  refine wpAnyH_ready (rs := [2]) (by kernel_rfl) (by simp) ?_
  refine AllReadyH.cons rfl (fun K hK => ?_) AllReadyH.nil
  go_simp
  go_at_call 28
  refine (I0.out _ HP0.out).mono ?_
  rintro e w3 ⟨rfl, hb3⟩
  have HP1 := Lib.hid (HP0.out.below hb3)
  have BX1 := Lib.hid (BX0.out.next hb3)
  have HB1 := Lib.hid (below_next HB0.out hb3)
  clear hb3
  try dsimp only
  refine hK.out _ _ BX1.out.all (fun hH1 => ?_)
  clear hK K
  try simp only [Act.put, List.setIfInBounds_toArray, List.set_cons_zero, List.set_cons_succ]
  refine takeYes (i := 3) (v := .string ⟨(D0 ++ [32]).toArray⟩) (some 7) rfl rfl (by kernel_rfl) (by kernel_rfl) (by kernel_rfl) (fun _ _ _ h => h) (by rfl) ?y3 hH1 ?r3
  case y3 =>
    intro w hSw
    clear hSw
    go_simp
    rw [if_neg (by simp; omega)]
    (first | rw [app_string] | rw [app32])
    try simp
  case r3 =>
  try simp only [Act.put, List.setIfInBounds_toArray, List.set_cons_zero, List.set_cons_succ]
  refine wpAnyH_ready (rs := [6]) (by kernel_rfl) (by simp) ?_
  refine AllReadyH.cons rfl (fun K hK => ?_) AllReadyH.nil
  go_simp
  go_at_call 28
  refine (I1.out _ HP1.out).mono ?_
  rintro e w4 ⟨rfl, hb3⟩
  have HP2 := Lib.hid (HP1.out.below hb3)
  have BX2 := Lib.hid (BX1.out.next hb3)
  have HB2 := Lib.hid (below_next HB1.out hb3)
  clear hb3
  try dsimp only
  refine hK.out _ _ BX2.out.all (fun hH2 => ?_)
  clear hK K
  try simp only [Act.put, List.setIfInBounds_toArray, List.set_cons_zero, List.set_cons_succ]
  refine takeYes (i := 7) (v := .string ⟨(D0 ++ [32] ++ D1).toArray⟩) (some 11) rfl rfl (by kernel_rfl) (by kernel_rfl) (by kernel_rfl) (fun _ _ _ h => h) (by rfl) ?y7 hH2 ?r7
  case y7 =>
    intro w hSw
    clear hSw
    go_simp
    rw [if_neg (by simp; omega)]
    (first | rw [app_string] | rw [app32])
    try simp
  case r7 =>
  try simp only [Act.put, List.setIfInBounds_toArray, List.set_cons_zero, List.set_cons_succ]
  refine takeYes (i := 8) (v := .string ⟨(D0 ++ [32] ++ D1 ++ [32]).toArray⟩) (some 12) rfl rfl (by kernel_rfl) (by kernel_rfl) (by kernel_rfl) (fun _ _ _ h => h) (by rfl) ?y8 hH2 ?r8
  case y8 =>
    intro w hSw
    clear hSw
    go_simp
    rw [if_neg (by simp; omega)]
    (first | rw [app_string] | rw [app32])
    try simp
  case r8 =>
  try simp only [Act.put, List.setIfInBounds_toArray, List.set_cons_zero, List.set_cons_succ]
  refine wpAnyH_ready (rs := [11]) (by kernel_rfl) (by simp) ?_
  refine AllReadyH.cons rfl (fun K hK => ?_) AllReadyH.nil
  go_simp
  go_at_call 28
  refine (I2.out _ HP2.out).mono ?_
  rintro e w5 ⟨rfl, hb3⟩
  have HP3 := Lib.hid (HP2.out.below hb3)
  have BX3 := Lib.hid (BX2.out.next hb3)
  have HB3 := Lib.hid (below_next HB2.out hb3)
  clear hb3
  try dsimp only
  refine hK.out _ _ BX3.out.all (fun hH3 => ?_)
  clear hK K
  try simp only [Act.put, List.setIfInBounds_toArray, List.set_cons_zero, List.set_cons_succ]
  refine takeYes (i := 12) (v := .string ⟨(D0 ++ [32] ++ D1 ++ [32] ++ D2).toArray⟩) (some 16) rfl rfl (by kernel_rfl) (by kernel_rfl) (by kernel_rfl) (fun _ _ _ h => h) (by rfl) ?y12 hH3 ?r12
  case y12 =>
    intro w hSw
    clear hSw
    go_simp
    rw [if_neg (by simp; omega)]
    (first | rw [app_string] | rw [app32])
    try simp
  case r12 =>
  try simp only [Act.put, List.setIfInBounds_toArray, List.set_cons_zero, List.set_cons_succ]
  refine takeYes (i := 13) (v := .string ⟨(D0 ++ [32] ++ D1 ++ [32] ++ D2 ++ [32]).toArray⟩) (some 17) rfl rfl (by kernel_rfl) (by kernel_rfl) (by kernel_rfl) (fun _ _ _ h => h) (by rfl) ?y13 hH3 ?r13
  case y13 =>
    intro w hSw
    clear hSw
    go_simp
    rw [if_neg (by simp; omega)]
    (first | rw [app_string] | rw [app32])
    try simp
  case r13 =>
  try simp only [Act.put, List.setIfInBounds_toArray, List.set_cons_zero, List.set_cons_succ]
  refine wpAnyH_ready (rs := [16]) (by kernel_rfl) (by simp) ?_
  refine AllReadyH.cons rfl (fun K hK => ?_) AllReadyH.nil
  go_simp
  go_at_call 28
  refine (I3.out _ HP3.out).mono ?_
  rintro e w6 ⟨rfl, hb3⟩
  have HP4 := Lib.hid (HP3.out.below hb3)
  have BX4 := Lib.hid (BX3.out.next hb3)
  have HB4 := Lib.hid (below_next HB3.out hb3)
  clear hb3
  try dsimp only
  refine hK.out _ _ BX4.out.all (fun hH4 => ?_)
  clear hK K
  try simp only [Act.put, List.setIfInBounds_toArray, List.set_cons_zero, List.set_cons_succ]
  refine takeYes (i := 17) (v := .string ⟨(D0 ++ [32] ++ D1 ++ [32] ++ D2 ++ [32] ++ D3).toArray⟩) (some 21) rfl rfl (by kernel_rfl) (by kernel_rfl) (by kernel_rfl) (fun _ _ _ h => h) (by rfl) ?y17 hH4 ?r17
  case y17 =>
    intro w hSw
    clear hSw
    go_simp
    rw [if_neg (by simp; omega)]
    (first | rw [app_string] | rw [app32])
    try simp
  case r17 =>
  try simp only [Act.put, List.setIfInBounds_toArray, List.set_cons_zero, List.set_cons_succ]
  refine takeYes (i := 18) (v := .string ⟨(D0 ++ [32] ++ D1 ++ [32] ++ D2 ++ [32] ++ D3 ++ [32]).toArray⟩) (some 22) rfl rfl (by kernel_rfl) (by kernel_rfl) (by kernel_rfl) (fun _ _ _ h => h) (by rfl) ?y18 hH4 ?r18
  case y18 =>
    intro w hSw
    clear hSw
    go_simp
    rw [if_neg (by simp; omega)]
    (first | rw [app_string] | rw [app32])
    try simp
  case r18 =>
  try simp only [Act.put, List.setIfInBounds_toArray, List.set_cons_zero, List.set_cons_succ]
  refine wpAnyH_ready (rs := [21]) (by kernel_rfl) (by simp) ?_
  refine AllReadyH.cons rfl (fun K hK => ?_) AllReadyH.nil
  go_simp
  go_at_call 28
  refine (I4.out _ HP4.out).mono ?_
  rintro e w7 ⟨rfl, hb3⟩
  have HP5 := Lib.hid (HP4.out.below hb3)
  have BX5 := Lib.hid (BX4.out.next hb3)
  have HB5 := Lib.hid (below_next HB4.out hb3)
  clear hb3
  try dsimp only
  refine hK.out _ _ BX5.out.all (fun hH5 => ?_)
  clear hK K
  try simp only [Act.put, List.setIfInBounds_toArray, List.set_cons_zero, List.set_cons_succ]
  refine takeYes (i := 22) (v := .string ⟨(D0 ++ [32] ++ D1 ++ [32] ++ D2 ++ [32] ++ D3 ++ [32] ++ D4).toArray⟩) (some 26) rfl rfl (by kernel_rfl) (by kernel_rfl) (by kernel_rfl) (fun _ _ _ h => h) (by rfl) ?y22 hH5 ?r22
  case y22 =>
    intro w hSw
    clear hSw
    go_simp
    rw [if_neg (by simp; omega)]
    (first | rw [app_string] | rw [app32])
    try simp
  case r22 =>
  try simp only [Act.put, List.setIfInBounds_toArray, List.set_cons_zero, List.set_cons_succ]
  have hl : (D0 ++ [32] ++ D1 ++ [32] ++ D2 ++ [32] ++ D3 ++ [32] ++ D4).length ≤ 110 := by simp; omega
  generalize hSS : D0 ++ [32] ++ D1 ++ [32] ++ D2 ++ [32] ++ D3 ++ [32] ++ D4 = SS at *
  refine takeYes (i := 23) (v := .string ⟨SS.toArray⟩) (some 3) rfl rfl (by kernel_rfl) (by kernel_rfl) (by kernel_rfl) (fun _ _ _ h => h) (by rfl) ?y23 hH5 ?r23
  case y23 =>
    intro w hSw
    go_simp
  case r23 =>
  try simp only [Act.put, List.setIfInBounds_toArray, List.set_cons_zero, List.set_cons_succ]
  refine wpAnyH_done (by kernel_rfl) (NoPanic.normal ?_) _
  have c0 := BX5.out.c0
  have c5 := BX5.out.c5
  clear b0 b1 b2 b3 b4 n0 n1 n2 n3 n4 I0 I1 I2 I3 I4
  have hc1 : (9223372036854775807 < SS.length + 1) = False := by simp; omega
  have HF := Lib.hid (fun W => fmt_any x.wide hw0 hw1 W)
  by_cases h24 : x.op = 24
  · have e24 : (x.op == 24) = true := by simpa using h24
    have HT2 := Lib.hid (show textL x = SS ++ [32] ++ Lib.decDigits x.wide.toNat by rw [HT.out, if_pos h24])
    have nD : (Lib.decDigits x.wide.toNat).length ≤ 20 := dec_len hw0 hw1
    generalize Lib.decDigits x.wide.toNat = D at *
    have hc2 : (9223372036854775807 < SS.length + 1 + D.length) = False := by simp; omega
    clear h24 hSS HT hl nD hw0 hw1
    go_wp2_with (go_at_call 29; refine (HF.out _ HP5.out).mono ?_; rintro e w8 ⟨rfl, hb8⟩; have HB8 := Lib.hid (below_next HB5.out hb8); clear hb8)
    go_ret
    refine ⟨?_, HB8.out⟩
    rw [HT2.out, app32, app_string]
    rfl
  · have e24 : (x.op == 24) = false := by simpa using h24
    have HT2 := Lib.hid (show textL x = SS by rw [HT.out, if_neg h24])
    clear h24 hSS HT hl hw0 hw1
    go_wp2_with fail
    go_ret
    exact ⟨by rw [HT2.out]; rfl, HB5.out⟩
end Go.Proofs.YtlcmaokafklheaaDoor
