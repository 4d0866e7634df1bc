/- Contracts of May, on both sides: is a memory a layout's? -/
import Derived.Test.YtgchdiocbllppaaDoorC
namespace Go.Proofs.YtgchdiocbllppaaDoor
open Go.RowKit M

/-- a memory lies in memory: its rows, of bytes -/
structure MemAt (w : World) (mp : Option Addr) (Q : Nat → Option Addr) (C : Nat → Nat) (M : List (List Int)) : Prop where
  small : M.length ≤ 140737488351232
  rsmall : ∀ i, (M.getD i []).length ≤ 140737488351232
  cells : ∀ i, i < M.length → ∃ b off, mp = some ⟨b, off, none⟩ ∧ b < w.heap.size ∧ w.cell? ⟨b, off + i, none⟩ = some (.slice (Q i) (M.getD i []).length (C i)) ∧ (M.getD i []).length ≤ C i ∧ C i ≤ 9223372036854775807
  rows : ∀ i j, i < M.length → j < (M.getD i []).length → ∃ b off, Q i = some ⟨b, off, none⟩ ∧ b < w.heap.size ∧ w.cell? ⟨b, off + j, none⟩ = some (.int .u8 ((M.getD i []).getD j 0))
  byte : ∀ i j, i < M.length → j < (M.getD i []).length → 0 ≤ (M.getD i []).getD j 0 ∧ (M.getD i []).getD j 0 < 256
theorem MemAt.below {w w' : World} {mp : Option Addr} {Q : Nat → Option Addr} {C : Nat → Nat} {M : List (List Int)} (h : MemAt w mp Q C M) (hb : Below w.heap.size w w') : MemAt w' mp Q C M :=
  ⟨h.small, h.rsmall, fun i hi => by
    obtain ⟨b, off, e, hl, hc, h2⟩ := h.cells i hi
    exact ⟨b, off, e, Nat.lt_of_lt_of_le hl hb.size, (hb.cell (p := ⟨b, off + i, none⟩) hl).trans hc, h2⟩,
   fun i j hi hj => by
    obtain ⟨b, off, e, hl, hc⟩ := h.rows i j hi hj
    exact ⟨b, off, e, Nat.lt_of_lt_of_le hl hb.size, (hb.cell (p := ⟨b, off + j, none⟩) hl).trans hc⟩, h.byte⟩
theorem MemAt.alloc {w : World} {mp : Option Addr} {Q : Nat → Option Addr} {C : Nat → Nat} {M : List (List Int)} (h : MemAt w mp Q C M) (o : Obj) : MemAt (w.alloc o) mp Q C M :=
  h.below ((Below.refl _ _).alloc (Nat.le_refl _) _)

/-- is this memory that layout's? -/
def mayB (c : Int) (ms : List Ar) (len : Nat) (M : List (List Int)) : Bool :=
  okL c ms && decide (M.length = len + 2 ∧ ∀ i, i < len + 2 → ((M.getD i []).length : Int) = szOf c ms i)
theorem mayB_true {c : Int} {ms : List Ar} {len : Nat} {M : List (List Int)} (h : mayB c ms len M = true) : okL c ms = true ∧ M.length = len + 2 ∧ ∀ i, i < len + 2 → ((M.getD i []).length : Int) = szOf c ms i := by
  simp only [mayB, Bool.and_eq_true, decide_eq_true_eq] at h
  exact ⟨h.1, h.2.1, h.2.2⟩
theorem mayB_no {c : Int} {ms : List Ar} {len : Nat} {M : List (List Int)} (i : Nat) (hi : i < len + 2) (h : ((M.getD i []).length : Int) ≠ szOf c ms i) : mayB c ms len M = false := by
  simp only [mayB, Bool.and_eq_false_iff, decide_eq_false_iff_not]
  exact .inr fun h' => h (h'.2 i hi)
theorem szOf_bd {c : Int} {ms : List Ar} {len i : Nat} (hl : len = ms.length) (ho : okL c ms = true) (hi : i < len + 2) : 0 ≤ szOf c ms i ∧ szOf c ms i ≤ 4096 :=
  areaOf_bd hl ho (hasReg_in hi)

set_option maxRecDepth 100000 in
set_option maxHeartbeats 400000 in
theorem may_any (c : Int) (cw : Bool) (p : Option Addr) (len cap : Nat) (ms : List Ar) (mp : Option Addr) (mc : Nat) (Q : Nat → Option Addr) (C : Nat → Nat) (M : List (List Int)) (w : World) (hm : MapsAt w p len ms) (hM : MemAt w mp Q C M) :
    Calls Tryd.prog 19 #[.agg #[.int .i64 c, .bool cw, .slice p len cap], .slice mp M.length mc] w fun e w' =>
      e = .returned (.bool (mayB c ms len M)) ∧ Below w.heap.size w w' := by
  have HM := Lib.hid hm
  have HMM := Lib.hid hM
  have hlen := hm.hlen
  have hsm := hM.small
  obtain ⟨K, hK⟩ : ∃ K, M.length = K := ⟨_, rfl⟩
  rw [hK] at hsm ⊢
  clear hm hM
  cases ho : okL c ms
  · have HR : mayB c ms len M = false := by simp [mayB, ho]
    rw [HR]
    have HO := Lib.hid ho
    clear HR ho hK hlen
    go_enter Tryd.func19, Tryd.ntmps19
    go_wp2_with (go_at_call 11; refine (check_is _ _ _ _ _ ms _ (HM.out.alloc _) HO.out).mono ?_; rintro e w1 ⟨rfl, hb⟩; rw [chk_false]; obtain ⟨hc, hf⟩ := bcell hb; have hz := one_in hb)
    go_ret
    exact ⟨rfl, below1 hb⟩
  · have hl8 : len ≤ 8 := by have := (okL_parts ho).2.1; omega
    have HO := Lib.hid ho
    by_cases hKL : K = len + 2
    · have HSB := Lib.hid (fun i hi => szOf_bd (i := i) hlen HO.out hi)
      have HLEN := Lib.hid hlen
      have hkl : K ≤ len + 2 := by omega
      have hkl2 : len + 2 ≤ K := by omega
      have hk1 : ((K : Int) != ((len : Int) + 2)) = false := by simp; omega
      have hk2 : ((K : Int) != ((len + 2 : Nat) : Int)) = false := by simp; omega
      have HKL := Lib.hid hKL
      have HKK := Lib.hid hK
      clear hKL hK ho hlen
      go_enter Tryd.func19, Tryd.ntmps19
      go_wp2_with (first
        | (go_at_call 11; refine (check_is _ _ _ _ _ ms _ (HM.out.alloc _) HO.out).mono ?_; rintro e w1 ⟨rfl, hb⟩; rw [chk_true]; obtain ⟨hc, hf⟩ := bcell hb; have hz := one_in hb)
        | (go_at_call 37; refine (sizes_any _ _ _ _ _ ms _ (HM.out.below (below1 hb)) hl8).mono ?_; rintro e w2 ⟨rfl, hb2, hrow⟩; have HROW := Lib.hid hrow; clear hrow))
      have hb12 := below_next (below1 hb) hb2
      clear hk1 hk2 hc hf
      go_loop [20] (fun i => ∃ k : Nat, k ≤ len + 2 ∧ i = .int .i64 k ∧ Hid (∀ i, i < k → ((M.getD i []).length : Int) = szOf c ms i)) (fun i => (len + 2) - (intOf i).toNat)
      case atStart => exact ⟨0, Nat.zero_le _, rfl, fun i hi => absurd hi (Nat.not_lt_zero _)⟩
      case round =>
        obtain ⟨k, hk, rfl, HE⟩ := hrel
        by_cases hlt : k < len + 2
        · have d1 := HROW.out.cell hlt
          obtain ⟨b, off, rfl, hbl, g1, _, _⟩ := (HMM.out.below hb12).cells k (by rw [HKK.out]; omega)
          have hkb := HMM.out.rsmall k
          have HS := Lib.hid (HSB.out k hlt)
          obtain ⟨L, hL⟩ : ∃ L, (M.getD k []).length = L := ⟨_, rfl⟩
          rw [hL] at g1 hkb
          obtain ⟨z, hz'⟩ : ∃ z, szOf c ms k = z := ⟨_, rfl⟩
          rw [hz'] at d1
          have HL := Lib.hid hL
          have HZ := Lib.hid hz'
          clear hL hz'
          by_cases heq : (L : Int) = z
          · have t1 : ((L : Int) != z) = false := by simp [heq]
            have HEQ := Lib.hid heq
            clear heq
            go_wp2
            go_round
            case rel =>
              refine ⟨k + 1, by omega, by go_num, fun i hi => ?_⟩
              by_cases h : i < k
              · exact HE.out i h
              · have : i = k := by omega
                subst this
                rw [HL.out, HZ.out]; exact HEQ.out
            case measure => simp [intOf]; omega
          · have t1 : ((L : Int) != z) = true := by simp [heq]
            have HEQ := Lib.hid heq
            clear heq
            go_wp2
            go_ret
            exact ⟨ret_bool (mayB_no k hlt (by rw [HL.out, HZ.out]; exact HEQ.out)).symm, hb12⟩
        · go_wp2
          go_ret
          refine ⟨ret_bool ?_, hb12⟩
          have : len + 2 ≤ k := by omega
          simp only [mayB, HO.out, Bool.true_and]
          exact (decide_eq_true ⟨by rw [HKK.out]; exact HKL.out, fun i hi => HE.out i (by omega)⟩).symm
    · have HR : mayB c ms len M = false := by
        simp only [mayB, Bool.and_eq_false_iff, decide_eq_false_iff_not]
        exact .inr fun h' => hKL (hK ▸ h'.1)
      rw [HR]
      have t1 : ((K : Int) != ((len : Int) + 2)) = true := by simp; omega
      clear hKL hK ho hlen HR
      go_enter Tryd.func19, Tryd.ntmps19
      go_wp2_with (first
        | (go_at_call 11; refine (check_is _ _ _ _ _ ms _ (HM.out.alloc _) HO.out).mono ?_; rintro e w1 ⟨rfl, hb⟩; rw [chk_true]; obtain ⟨hc, hf⟩ := bcell hb; have hz := one_in hb)
        | (go_at_call 37; refine (sizes_any _ _ _ _ _ ms _ (HM.out.below (below1 hb)) hl8).mono ?_; rintro e w2 ⟨rfl, hb2, hrow⟩; have HROW := Lib.hid hrow; clear hrow))
      go_ret
      exact ⟨rfl, below_next (below1 hb) hb2⟩
theorem may_is {v : Bool} (c : Int) (cw : Bool) (p : Option Addr) (len cap : Nat) (ms : List Ar) (mp : Option Addr) (mc : Nat) (Q : Nat → Option Addr) (C : Nat → Nat) (M : List (List Int)) (w : World) (hm : MapsAt w p len ms) (hM : MemAt w mp Q C M) (h : mayB c ms len M = v) :
    Calls Tryd.prog 19 #[.agg #[.int .i64 c, .bool cw, .slice p len cap], .slice mp M.length mc] w fun e w' =>
      e = .returned (.bool v) ∧ Below w.heap.size w w' := by
  rw [← h]; exact may_any c cw p len cap ms mp mc Q C M w hm hM
end Go.Proofs.YtgchdiocbllppaaDoor
