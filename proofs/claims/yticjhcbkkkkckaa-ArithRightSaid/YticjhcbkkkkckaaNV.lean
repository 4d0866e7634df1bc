/- Known bits: package tnum's product, walked. -/
import Derived.Test.YticjhcbkkkkckaaNU
namespace Go.Proofs.Yticjhcbkkkkckaa
open Go.RowKit
attribute [local go_sem] b_and b_or b_xor b_andNot b_low b_top b_most b_signed b_unsigned b_zero b_eq s_eq b_nzero b_neq s_neq b_max b_min s_max s_min
attribute [local go_sem ↓] Go.wp_at_zero Go.wp_at_succ
attribute [local go_sem] b_add b_sub b_mul b_neg b_two sh_shl sh_shr sh_sar sh_shlN sh_oneN b_pow b_shlN

/-- the state of the loop: both operands, the answer's place, the product, what the unknown bits add -/
structure Mp (w W : World) (a b p q : Tn) (j k : Nat) : Prop where
  low : Below w.heap.size w W
  fa : Box W w.heap.size (tv a)
  fb : Box W (w.heap.size + 1) (tv b)
  fr : Box W (w.heap.size + 1 + 1) (tv tzero)
  fp : Box W j (tv p)
  fq : Box W k (tv q)
  rj : w.heap.size + 1 + 1 < j
  jk : j < k
theorem Mp.next {w W W' : World} {a b p q : Tn} {j k : Nat} (h : Mp w W a b p q j k) (hb : Below W.heap.size W W') : Mp w W' a b p q j k :=
  ⟨bnext h.low hb, h.fa.next hb, h.fb.next hb, h.fr.next hb, h.fp.next hb, h.fq.next hb, h.rj, h.jk⟩
theorem Mp.drew {w W : World} {a b p q : Tn} {j k : Nat} (h : Mp w W a b p q j k) : Mp w W.drew a b p q j k := h.next (Below.refl _ _).drew
theorem Mp.q {w W : World} {a b p q : Tn} {j k : Nat} (h : Mp w W a b p q j k) (d : Tn) : Mp w ((W.setCell ⟨k, 0, none⟩ (.int .u64 (U d.v))).setCell ⟨k, 1, none⟩ (.int .u64 (U d.m))) a b p d j k :=
  have := h.rj
  have := h.jk
  ⟨below_set2 h.low (by omega), h.fa.far2 (by omega), h.fb.far2 (by omega), h.fr.far2 (by omega), h.fp.far2 (by omega), h.fq.set2, h.rj, h.jk⟩
theorem Mp.facts {w W : World} {a b p q : Tn} {j k : Nat} (h : Mp w W a b p q j k) :
    ((W.cell? ⟨w.heap.size, 0, none⟩ = some (.int .u64 (U a.v)) ∧ W.cell? ⟨w.heap.size, 1, none⟩ = some (.int .u64 (U a.m))) ∧ (∀ i, W.frozen? ⟨w.heap.size, i, none⟩ = false) ∧ w.heap.size < W.heap.size) ∧
    ((W.cell? ⟨w.heap.size + 1, 0, none⟩ = some (.int .u64 (U b.v)) ∧ W.cell? ⟨w.heap.size + 1, 1, none⟩ = some (.int .u64 (U b.m))) ∧ (∀ i, W.frozen? ⟨w.heap.size + 1, i, none⟩ = false) ∧ w.heap.size + 1 < W.heap.size) ∧
    ((W.cell? ⟨w.heap.size + 1 + 1, 0, none⟩ = some (.int .u64 0) ∧ W.cell? ⟨w.heap.size + 1 + 1, 1, none⟩ = some (.int .u64 0)) ∧ (∀ i, W.frozen? ⟨w.heap.size + 1 + 1, i, none⟩ = false) ∧ w.heap.size + 1 + 1 < W.heap.size) ∧
    ((W.cell? ⟨j, 0, none⟩ = some (.int .u64 (U p.v)) ∧ W.cell? ⟨j, 1, none⟩ = some (.int .u64 (U p.m))) ∧ (∀ i, W.frozen? ⟨j, i, none⟩ = false) ∧ j < W.heap.size) ∧
    ((W.cell? ⟨k, 0, none⟩ = some (.int .u64 (U q.v)) ∧ W.cell? ⟨k, 1, none⟩ = some (.int .u64 (U q.m))) ∧ (∀ i, W.frozen? ⟨k, i, none⟩ = false) ∧ k < W.heap.size) :=
  ⟨h.fa.two, h.fb.two, h.fr.two, h.fp.two, h.fq.two⟩
theorem Mp.start {w w1 w2 : World} {a b : Tn} {t t' t'' u u' : TypeId} (p q : Tn)
    (h1 : Below (((w.alloc (.cells #[.int .u64 (U a.v), .int .u64 (U a.m)] t)).alloc (.cells #[.int .u64 (U b.v), .int .u64 (U b.m)] t')).alloc (.cells #[.int .u64 0, .int .u64 0] t'')).heap.size (((w.alloc (.cells #[.int .u64 (U a.v), .int .u64 (U a.m)] t)).alloc (.cells #[.int .u64 (U b.v), .int .u64 (U b.m)] t')).alloc (.cells #[.int .u64 0, .int .u64 0] t'')) w1)
    (h2 : Below (w1.alloc (.cells #[.int .u64 (U p.v), .int .u64 (U p.m)] u)).heap.size (w1.alloc (.cells #[.int .u64 (U p.v), .int .u64 (U p.m)] u)) w2) : Mp w (w2.alloc (.cells #[.int .u64 (U q.v), .int .u64 (U q.m)] u')) a b p q w1.heap.size w2.heap.size := by
  have xa := ((((Box.new w (tv a) t rfl).alloc (.cells #[.int .u64 (U b.v), .int .u64 (U b.m)] t')).alloc (.cells #[.int .u64 0, .int .u64 0] t'')).next h1)
  have xb := (((Box.new (w.alloc (.cells #[.int .u64 (U a.v), .int .u64 (U a.m)] t)) (tv b) t' (World.size_alloc _ _)).alloc (.cells #[.int .u64 0, .int .u64 0] t'')).next h1)
  have xr := ((Box.new ((w.alloc (.cells #[.int .u64 (U a.v), .int .u64 (U a.m)] t)).alloc (.cells #[.int .u64 (U b.v), .int .u64 (U b.m)] t')) (tv tzero) t'' (by rw [World.size_alloc, World.size_alloc])).next h1)
  have xp := (Box.new w1 (tv p) u rfl).next h2
  have hl := bnext (bl3 h1).1 (bl1 h2).1
  exact ⟨hl.alloc hl.size _, (xa.next (bl1 h2).1).alloc _, (xb.next (bl1 h2).1).alloc _, (xr.next (bl1 h2).1).alloc _, xp.alloc _, Box.new w2 (tv q) u' rfl, xr.lt, xp.lt⟩
theorem tzero_const (W : World) : Calls Try.prog 95 #[.int .u64 0] W fun e w' => e = .returned (.agg #[.int .u64 0, .int .u64 0]) ∧ Below W.heap.size W w' := tconst_any 0#64 W
theorem tcon (x : B) (W : World) : Calls Try.prog 95 #[.int .u64 (U x)] W fun e w' => e = .returned (.agg #[.int .u64 (U ((⟨x, 0#64⟩ : Tn)).v), .int .u64 (U ((⟨x, 0#64⟩ : Tn)).m)]) ∧ Below W.heap.size W w' := tconst_any x W
theorem tadd_m (q : Tn) (m : B) (W : World) : Calls Try.prog 61 #[.agg #[.int .u64 (U q.v), .int .u64 (U q.m)], .agg #[.int .u64 0, .int .u64 (U m)]] W fun e w' => e = .returned (.agg #[.int .u64 (U (tadd q ⟨0#64, m⟩).v), .int .u64 (U (tadd q ⟨0#64, m⟩).m)]) ∧ Below W.heap.size W w' := tadd_any q ⟨0#64, m⟩ W
set_option maxRecDepth 100000 in
set_option maxHeartbeats 2000000 in
theorem tmul_any (a b : Tn) (w : World) : Calls Try.prog 66 #[.agg #[.int .u64 (U a.v), .int .u64 (U a.m)], .agg #[.int .u64 (U b.v), .int .u64 (U b.m)]] w fun e w' => e = .returned (.agg #[.int .u64 (U (tmul a b).v), .int .u64 (U (tmul a b).m)]) ∧ Below w.heap.size w w' := by
  unfold tmul
  have HL : Hid (at_ a b tzero (tmulQ 64 a b ⟨0#64, 0#64⟩) 0) := Lib.hid (at_start a b _ rfl)
  have HZ := Lib.hid (fun W => tadd_any ⟨a.v * b.v, 0#64⟩ (tmulQ 64 a b ⟨0#64, 0#64⟩) W)
  have HC := Lib.hid (fun W => tcon (a.v * b.v) W)
  have HO := Lib.hid tzero_const
  have HN : Hid (∀ W, Calls Try.prog 96 #[.int .u64 (U (a.v ||| a.m))] W fun e w' => e = .returned (.int .i64 (lenT a : Int)) ∧ W = w') := Lib.hid (fun W => len64_any _ W)
  generalize tmulQ 64 a b ⟨0#64, 0#64⟩ = r at *
  generalize hp : (⟨a.v * b.v, 0#64⟩ : Tn) = p at *
  generalize tadd p r = z at *
  clear hp
  go_enter Try.func66, Try.ntmps66
  go_wp2_with (first
    | (go_at_call 96; (with_reducible refine (HN.out _).mono ?_); rintro e w9 ⟨rfl, rfl⟩)
    | (go_at_call 95; (with_reducible refine (HC.out _).mono ?_); rintro e w1 ⟨rfl, hb⟩; have K1 := Lib.hid hb; clear hb)
    | (go_at_call 95; (with_reducible refine (HO.out _).mono ?_); rintro e w2 ⟨rfl, hb⟩; have K2 := Lib.hid hb; have HM : Hid (Mp w (w2.alloc (.cells #[.int .u64 0, .int .u64 0] 24)) a b p tzero w1.heap.size w2.heap.size) := Lib.hid (Mp.start (u' := 24) p tzero K1.out hb); clear hb; have F := HM.out.facts))
  have hrj := HM.out.rj
  have hjk := HM.out.jk
  have HM' := Lib.hid HM.out
  have HL' := Lib.hid HL.out
  clear F K1 K2
  go_loopw [22] (fun s wr => ∃ (i : Nat) (q : Tn), s = .int .i64 (i : Int) ∧ i ≤ lenT a ∧ at_ a b q r i ∧ Mp w wr a b p q w1.heap.size w2.heap.size) (fun s _ => lenT a - (intOf s).toNat)
  case atStart => exact ⟨0, tzero, rfl, Nat.zero_le _, HL'.out, HM'.out⟩
  case round =>
    clear HM HL HM' HL'
    obtain ⟨i, q, rfl, hi, ha, hm⟩ := hrel
    by_cases hl : i < lenT a
    · have hlt : i < 64 := Nat.lt_of_lt_of_le hl (lenT_le a)
      have c0 := bit_at a.v hlt
      have c1 := bit_at a.m hlt
      have HS := Lib.hid (at_next ha hl)
      have HN' := Lib.hid hm
      have F := hm.facts
      have HA := Lib.hid (fun m W => tadd_m q m W)
      clear hm ha hi
      cases b0 : bitB a.v i with
      | true =>
        rw [b0, if_pos rfl] at HS
        rw [b0] at c0
        go_wp2_with fail
        go_region_with (first | (go_at_call 61; (with_reducible refine (HA.out _ _).mono ?_); rintro e w3 ⟨rfl, hb⟩; (first | have H' := Lib.hid (HN'.out.next hb) | have H' := Lib.hid (HN'.out.drew.next hb)); clear hb F; have F := H'.out.facts))
        all_goals
          go_wp2_with fail
          go_roundw
          case rel => exact ⟨i + 1, _, int_eq (by omega), by omega, HS.out, H'.out.q (tadd q ⟨0#64, b.m <<< i⟩)⟩
          case measure => simp [intOf]; omega
      | false =>
        rw [b0, if_neg (by simp)] at HS
        rw [b0] at c0
        cases b1 : bitB a.m i with
        | true =>
          rw [b1, if_pos rfl] at HS
          rw [b1] at c1
          go_wp2_with fail
          go_region_with (first | (go_at_call 61; (with_reducible refine (HA.out _ _).mono ?_); rintro e w3 ⟨rfl, hb⟩; (first | have H' := Lib.hid (HN'.out.next hb) | have H' := Lib.hid (HN'.out.drew.next hb)); clear hb F; have F := H'.out.facts))
          all_goals
            go_wp2_with fail
            go_roundw
            case rel => exact ⟨i + 1, _, int_eq (by omega), by omega, HS.out, H'.out.q (tadd q ⟨0#64, (b.v ||| b.m) <<< i⟩)⟩
            case measure => simp [intOf]; omega
        | false =>
          rw [b1, if_neg (by simp)] at HS
          rw [b1] at c1
          go_wp2_with fail
          go_roundw
          case rel => exact ⟨i + 1, _, int_eq (by omega), by omega, HS.out, HN'.out⟩
          case measure => simp [intOf]; omega
    · have hi' : i = lenT a := by omega
      subst hi'
      have hq := at_end ha
      subst hq
      have HN' := Lib.hid hm
      have F := hm.facts
      clear hm ha hi hl
      go_wp2_with (go_at_call 61; (with_reducible refine (HZ.out _).mono ?_); rintro e w4 ⟨rfl, hb⟩; have H' := Lib.hid (HN'.out.next hb); clear hb F; have F := H'.out.facts)
      have hlow := H'.out.low.size
      exact bodyPost_ret (v := .agg #[.int .u64 (U z.v), .int .u64 (U z.m)]) (by simp [results, Try.results66, go_sem, F]) rfl ⟨rfl, below_set2 H'.out.low (by omega)⟩
end Go.Proofs.Yticjhcbkkkkckaa
