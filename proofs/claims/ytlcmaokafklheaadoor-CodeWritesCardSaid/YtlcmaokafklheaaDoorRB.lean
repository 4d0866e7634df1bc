/- The document's own bytes of an instruction. -/
import Derived.Test.YtlcmaokafklheaaDoorW
namespace Go.Proofs.YtlcmaokafklheaaDoor
open Go.RowKit M

theorem putL_pk (x : In) (h0 : 0 ≤ x.op ∧ x.op ≤ 255) (h1 : 0 ≤ x.dst ∧ x.dst ≤ 15) (h2 : 0 ≤ x.src ∧ x.src ≤ 15) (o i : Int) (ho : o % 65536 = x.off % 65536) (hi : i % 4294967296 = x.imm % 4294967296) :
    putL (pk x) 8 = [x.op, x.dst + 16 * x.src] ++ putL o 2 ++ putL i 4 := by
  simp only [putL, putB, List.range_succ, List.range_zero, List.map_cons, List.map_nil, List.nil_append, List.cons_append]
  simp only [List.cons.injEq, and_true]
  unfold pk
  refine ⟨?_, ?_, ?_, ?_, ?_, ?_, ?_, ?_⟩ <;> simp only [Nat.reduceMul, Int.reducePow] <;> omega
theorem own_two {w : World} {B : Nat} (hB : w.heap.size = B) (a b : Int) : (w.alloc (.cells #[.int .u8 a, .int .u8 b] 5)).ownsRow B 5 1 (.slice (some ⟨B, 0, none⟩) 2 2) 2 (bytesV [a, b]) := by
  subst hB
  exact ⟨rfl, .inr ⟨w.heap.size, 2, _, rfl, Nat.le_refl _, heap_alloc_new w _, Nat.le_refl _, by simp [maxLen], rfl, rfl⟩⟩
theorem srcR {w : World} {g : Nat} {xs : List Int} (h : RowAt w (some ⟨g, 0, none⟩) xs) : ∀ j v, (bytesV xs)[j]? = some v → w.cell? ((⟨g, 0, none⟩ : Addr).add j) = some v := src0 h
set_option maxRecDepth 100000 in
set_option maxHeartbeats 2000000 in
theorem rbytes_any (x : In) (h0 : 0 ≤ x.op ∧ x.op ≤ 255) (h1 : 0 ≤ x.dst ∧ x.dst ≤ 15) (h2 : 0 ≤ x.src ∧ x.src ≤ 15) (w : World) :
    Calls Tryd.prog 26 #[.agg #[.int .i64 x.op, .int .i64 x.dst, .int .i64 x.src, .int .i64 x.off, .int .i64 x.imm, .int .u64 x.wide]] w (PutPost (pk x) 8 w) := by
  have hu : IntKind.u8.wrap x.op = x.op := by rw [IntKind.wrap_u8]; omega
  have hm : IntKind.i64.wrap (16 * x.src) = 16 * x.src := by rw [IntKind.wrap_i64]; omega
  have ha : IntKind.i64.wrap (x.dst + 16 * x.src) = x.dst + 16 * x.src := by rw [IntKind.wrap_i64]; omega
  have hv : IntKind.u8.wrap (x.dst + 16 * x.src) = x.dst + 16 * x.src := by rw [IntKind.wrap_u8]; omega
  have ho : IntKind.u64.wrap x.off % 65536 = x.off % 65536 := by rw [IntKind.wrap_u64]; omega
  have hi : IntKind.u64.wrap x.imm % 4294967296 = x.imm % 4294967296 := by rw [IntKind.wrap_u64]; omega
  have HK := Lib.hid (putL_pk x h0 h1 h2 _ _ ho hi)
  have R2 := Lib.hid (fun W => rput_yes (IntKind.u64.wrap x.off) 2 W rfl (by decide) (by decide))
  have R4 := Lib.hid (fun W => rput_yes (IntKind.u64.wrap x.imm) 4 W rfl (by decide) (by decide))
  clear ho hi h0 h1 h2
  obtain ⟨i5, h5, g5, s5, b5⟩ := info_parts info5
  have A5 := Lib.hid h5
  have G5 := Lib.hid g5
  have S5 := Lib.hid s5
  have T5 := Lib.hid b5
  clear h5 g5 s5 b5
  go_enter Tryd.func26, Tryd.ntmps26
  have tok1 : True := trivial
  go_wp2_with (first
    | (go_at_call 38; have _t := tok1; refine (R2.out _).mono ?_; rintro e w1 ⟨g1, c1, rfl, hb1, hr1⟩
       have HO1 := Lib.hid (own_below (own_two (B := w.heap.size + 1) (by simp) _ _) hb1); have B1 := Lib.hid (below2 hb1); have hz1 := Nat.le_of_lt (two_in hb1).2; have P1 := Lib.hid hr1;
       have e4 : w1.cell? ⟨w.heap.size, 4, none⟩ = some (.int .i64 x.imm) := by
         rw [hb1.cell (p := ⟨w.heap.size, 4, none⟩) (by simp; omega), World.cell?_alloc_lt _ _ ⟨w.heap.size, 4, none⟩ (by simp)]
         exact cell_new w rfl
       have tok2 : True := trivial; clear tok1 hb1 hr1)
    | (at_builtin; have _t := tok2; refine wpList_append_own _ rfl (.tmp 15) (.tmp 19) 22 rfl (w.heap.size + 1) 5 i5 _ 1 1 Tryd.underlying22 A5.out G5.out S5.out T5.out rfl (by decide) _ _ _ rfl HO1.out ⟨g1, 0, none⟩ 2 c1 _ rfl (bytesV_length _) (srcR P1.out) (bytesV_one _) (by decide) (by decide) hz1 ?_
       intro v2 w2 ho2 hg2 _
       have B2 := Lib.hid (B1.out.grown hg2 B1.out.size (fun k hk => Nat.le_of_succ_le (own_ge HO1.out k hk))); have HO2 := Lib.hid ho2; have f4 : w2.cell? ⟨w.heap.size, 4, none⟩ = some (.int .i64 x.imm) := (((Below.refl (w.heap.size + 1) w1).grown hg2 hz1 (own_ge HO1.out)).cell (p := ⟨w.heap.size, 4, none⟩) (Nat.lt_succ_self _)).trans e4; have hz2 := Nat.le_trans hz1 hg2.size; have tok3 : True := trivial; clear tok2 ho2 hg2)
    | (go_at_call 38; have _t := tok3; refine (R4.out _).mono ?_; rintro e w3 ⟨g3, c3, rfl, hb3, hr3⟩
       have HO3 := Lib.hid (own_below HO2.out hb3); have B3 := Lib.hid (below_next B2.out hb3); have P3 := Lib.hid hr3; have hz3 := Nat.le_trans hz2 hb3.size; have tok4 : True := trivial; clear tok3 hb3 hr3)
    | (at_builtin; have _t := tok4; refine wpList_append_own _ rfl (.tmp 21) (.tmp 25) 22 rfl (w.heap.size + 1) 5 i5 _ 1 1 Tryd.underlying22 A5.out G5.out S5.out T5.out rfl (by decide) _ _ _ rfl HO3.out ⟨g3, 0, none⟩ 4 c3 _ rfl (bytesV_length _) (srcR P3.out) (bytesV_one _) (by decide) (by decide) hz3 ?_
       intro v4 w4 ho4 hg4 _
       have B4 := Lib.hid (B3.out.grown hg4 B3.out.size (fun k hk => Nat.le_of_succ_le (own_ge HO3.out k hk))); have HO4 := Lib.hid ho4; clear tok4 ho4 hg4))
  go_ret
  have ho : w4.ownsRow (w.heap.size + 1) 5 1 v4 8 (bytesV (putL (pk x) 8)) := by
    rw [HK.out]
    have := HO4.out
    simpa [bytesV] using this
  obtain ⟨g, cap, rfl, hrow, _⟩ := row_own (by decide) (putL_length _ _) (by decide) (fun j hj => by rw [putL_length] at hj; rw [putL_getD _ hj]; exact putB_bd _ _) ho
  exact ⟨g, cap, by simp [putL_length], B4.out, hrow⟩
end Go.Proofs.YtlcmaokafklheaaDoor
