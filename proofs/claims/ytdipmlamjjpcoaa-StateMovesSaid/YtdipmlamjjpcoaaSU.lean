/- States: the document's own comparison of two states that are the same. -/
import Derived.Test.YtdipmlamjjpcoaaST
namespace Go.Proofs.Ytdipmlamjjpcoaa
open Go.RowKit
attribute [local go_sem] b_and b_or b_xor b_andNot b_low b_top b_most b_signed b_unsigned b_zero b_eq s_eq b_nzero b_neq s_neq b_max b_min s_max s_min
attribute [local go_sem ↓] Go.wp_at_zero Go.wp_at_succ

/-- two states in their boxes -/
structure B2 (w W : World) (A B : AbA) (N1 N2 N3 : Nat) : Prop where
  low : Below w.heap.size w W
  b0 : Box W w.heap.size (sl3 A N1 N2 N3)
  b1 : Box W (w.heap.size + 1) (sl3 B N1 N2 N3)
theorem B2.drew {w W : World} {A B : AbA} {N1 N2 N3 : Nat} (h : B2 w W A B N1 N2 N3) : B2 w W.drew A B N1 N2 N3 := ⟨h.low.drew, h.b0.drew, h.b1.drew⟩
theorem B2.new (w : World) (A B : AbA) (N1 N2 N3 : Nat) (t t' : TypeId) : B2 w ((w.alloc (.cells #[.slice A.p1 N1 A.c1, .slice A.p2 N2 A.c2, .slice A.p3 N3 A.c3] t)).alloc (.cells #[.slice B.p1 N1 B.c1, .slice B.p2 N2 B.c2, .slice B.p3 N3 B.c3] t')) A B N1 N2 N3 :=
  ⟨b2, (Box.new w (sl3 A N1 N2 N3) t rfl).alloc _, Box.new (w.alloc _) (sl3 B N1 N2 N3) t' (World.size_alloc _ _)⟩
theorem B2.f {w W : World} {A B : AbA} {N1 N2 N3 : Nat} (h : B2 w W A B N1 N2 N3) :
    ((W.cell? ⟨w.heap.size, 0, none⟩ = some (.slice A.p1 N1 A.c1) ∧ W.cell? ⟨w.heap.size, 1, none⟩ = some (.slice A.p2 N2 A.c2) ∧ W.cell? ⟨w.heap.size, 2, none⟩ = some (.slice A.p3 N3 A.c3)) ∧ (∀ i, W.frozen? ⟨w.heap.size, i, none⟩ = false) ∧ w.heap.size < W.heap.size) ∧
    ((W.cell? ⟨w.heap.size + 1, 0, none⟩ = some (.slice B.p1 N1 B.c1) ∧ W.cell? ⟨w.heap.size + 1, 1, none⟩ = some (.slice B.p2 N2 B.c2) ∧ W.cell? ⟨w.heap.size + 1, 2, none⟩ = some (.slice B.p3 N3 B.c3)) ∧ (∀ i, W.frozen? ⟨w.heap.size + 1, i, none⟩ = false) ∧ w.heap.size + 1 < W.heap.size) := ⟨h.b0.three, h.b1.three⟩
set_option maxRecDepth 100000 in
set_option maxHeartbeats 2000000 in
theorem rsame_yes (A B : AbA) (s : Ab) (w : World) (hA : AbAt w A s) (hB : AbAt w B s) : Calls Try.prog 17 #[.agg #[.slice A.p1 s.regs.length A.c1, .slice A.p2 s.set.length A.c2, .slice A.p3 s.saved.length A.c3], .agg #[.slice B.p1 s.regs.length B.c1, .slice B.p2 s.set.length B.c2, .slice B.p3 s.saved.length B.c3]] w fun e w' => e = .returned (.bool true) ∧ Below w.heap.size w w' := by
  have s1 : s.regs.length ≤ 140737488351232 := by have := hA.r.small; omega
  have s2 := hA.b.small
  have s3 : s.saved.length ≤ 140737488351232 := by have := hA.v.small; omega
  have HA1 := Lib.hid (fun (i : Nat) (hi : i < s.regs.length) (W : World) (hb : Below w.heap.size w W) => (hA.below hb).r.cells i hi)
  have HB1 := Lib.hid (fun (i : Nat) (hi : i < s.regs.length) (W : World) (hb : Below w.heap.size w W) => (hB.below hb).r.cells i hi)
  have HA2 := Lib.hid (fun (i : Nat) (hi : i < s.set.length) (W : World) (hb : Below w.heap.size w W) => (hA.below hb).b.cells i hi)
  have HB2 := Lib.hid (fun (i : Nat) (hi : i < s.set.length) (W : World) (hb : Below w.heap.size w W) => (hB.below hb).b.cells i hi)
  have HA3 := Lib.hid (fun (i : Nat) (hi : i < s.saved.length) (W : World) (hb : Below w.heap.size w W) => (hA.below hb).v.cells i hi)
  have HB3 := Lib.hid (fun (i : Nat) (hi : i < s.saved.length) (W : World) (hb : Below w.heap.size w W) => (hB.below hb).v.cells i hi)
  clear hA hB
  generalize s.regs.length = N1 at *
  generalize s.set.length = N2 at *
  generalize s.saved.length = N3 at *
  have HN := Lib.hid (B2.new w A B N1 N2 N3 25 25)
  have f0 := HN.out.f
  go_enter Try.func17, Try.ntmps17
  go_wp2_with fail
  go_loopw [5] (fun i wr => ∃ k : Nat, k ≤ N1 ∧ i = .int .i64 (k : Int) ∧ B2 w wr A B N1 N2 N3) (fun i _ => N1 - (intOf i).toNat)
  case atStart => exact ⟨0, Nat.zero_le _, rfl, HN.out⟩
  case round =>
    clear HN f0
    obtain ⟨k, hk1, rfl, hn⟩ := hrel
    have HN := Lib.hid hn
    have f0 := hn.f
    by_cases hk : k < N1
    · have HD := Lib.hid hn.drew
      have f1 := hn.drew.f
      obtain ⟨ga, oa, ea, _, x0, x1, x2, x3, x4, x5, x6, x7⟩ := HA1.out k hk _ hn.drew.low
      obtain ⟨gb, ob, eb, _, y0, y1, y2, y3, y4, y5, y6, y7⟩ := HB1.out k hk _ hn.drew.low
      rw [ea] at f0 f1
      rw [eb] at f0 f1
      clear hn
      generalize rg s.regs k = x at *
      go_wp2_with fail
      go_region
      all_goals
        go_wp2_with fail
        go_roundw
      case rel => exact ⟨k + 1, by omega, rfl, HD.out⟩
      case measure => simp [intOf]; omega
    · obtain rfl : N1 = k := by omega
      clear hn hk hk1
      go_wp2_with fail
      go_loopw [6] (fun i wr => ∃ k : Nat, k ≤ N2 ∧ i = .int .i64 (k : Int) ∧ B2 w wr A B N1 N2 N3) (fun i _ => N2 - (intOf i).toNat)
      case atStart => exact ⟨0, Nat.zero_le _, rfl, HN.out⟩
      case round =>
        clear HN f0
        obtain ⟨k, hk1, rfl, hn⟩ := hrel
        have HN := Lib.hid hn
        have f0 := hn.f
        by_cases hk : k < N2
        · have HD := Lib.hid hn.drew
          have f1 := hn.drew.f
          obtain ⟨ga, oa, ea, _, x0⟩ := HA2.out k hk _ hn.drew.low
          obtain ⟨gb, ob, eb, _, y0⟩ := HB2.out k hk _ hn.drew.low
          rw [ea] at f0 f1
          rw [eb] at f0 f1
          clear hn
          generalize st s.set k = x at *
          go_wp2_with fail
          go_region
          all_goals
            go_wp2_with fail
            go_roundw
          case rel => exact ⟨k + 1, by omega, rfl, HD.out⟩
          case measure => simp [intOf]; omega
        · obtain rfl : N2 = k := by omega
          clear hn hk hk1
          go_wp2_with fail
          go_loopw [7] (fun i wr => ∃ k : Nat, k ≤ N3 ∧ i = .int .i64 (k : Int) ∧ B2 w wr A B N1 N2 N3) (fun i _ => N3 - (intOf i).toNat)
          case atStart => exact ⟨0, Nat.zero_le _, rfl, HN.out⟩
          case round =>
            clear HN f0
            obtain ⟨k, hk1, rfl, hn⟩ := hrel
            have HN := Lib.hid hn
            have f0 := hn.f
            by_cases hk : k < N3
            · have HD := Lib.hid hn.drew
              have f1 := hn.drew.f
              obtain ⟨ga, oa, ea, _, x0, x1, x2, x3, x4, x5, x6, x7⟩ := HA3.out k hk _ hn.drew.low
              obtain ⟨gb, ob, eb, _, y0, y1, y2, y3, y4, y5, y6, y7⟩ := HB3.out k hk _ hn.drew.low
              rw [ea] at f0 f1
              rw [eb] at f0 f1
              clear hn
              generalize rg s.saved k = x at *
              go_wp2_with fail
              go_region
              all_goals
                go_wp2_with fail
                go_roundw
              case rel => exact ⟨k + 1, by omega, rfl, HD.out⟩
              case measure => simp [intOf]; omega
            · obtain rfl : N3 = k := by omega
              clear hn hk hk1
              go_wp2_with fail
              go_ret
              exact ⟨rfl, HN.out.low⟩
end Go.Proofs.Ytdipmlamjjpcoaa
