/- Contract of Store. -/
import Derived.Test.YtgchdiocbllppaaDoorK
namespace Go.Proofs.YtgchdiocbllppaaDoor
open Go.RowKit M

theorem below1d {w w1 : World} {o : Obj} (h : Below (w.alloc o).drew.heap.size (w.alloc o).drew w1) : Below w.heap.size w w1 ∧ w.heap.size < w1.heap.size := by
  have h' : Below (w.alloc o).heap.size (w.alloc o) w1 := ⟨h.os, h.tape, h.output, h.size, h.block⟩
  exact ⟨below1 h', one_in h'⟩
theorem box_in {w w1 : World} {o : Obj} (h : Below (w.alloc o).drew.heap.size (w.alloc o).drew w1) : ∀ i, w1.cell? ⟨w.heap.size, i, none⟩ = (w.alloc o).cell? ⟨w.heap.size, i, none⟩ := fun i => by
  have h' : Below (w.alloc o).heap.size (w.alloc o) w1 := ⟨h.os, h.tape, h.output, h.size, h.block⟩
  exact h'.cell (p := ⟨w.heap.size, i, none⟩) (by simp)
theorem box0 {w w1 : World} {a b c : Value} {t : TypeId} (h : Below (w.alloc (.cells #[a, b, c] t)).drew.heap.size (w.alloc (.cells #[a, b, c] t)).drew w1) :
    w1.cell? ⟨w.heap.size, 0, none⟩ = some a ∧ w1.cell? ⟨w.heap.size, 1, none⟩ = some b ∧ w1.cell? ⟨w.heap.size, 2, none⟩ = some c :=
  ⟨(box_in h 0).trans (cell_new w rfl), (box_in h 1).trans (cell_new w rfl), (box_in h 2).trans (cell_new w rfl)⟩
def WritePostR (K : Nat) (R : List (List Int)) (w : World) (e : Ending) (w' : World) : Prop :=
  ∃ g Q C, e = .returned (.tuple #[.slice (some ⟨g, 0, none⟩) K K, .nilIface]) ∧ Below w.heap.size w w' ∧ MemAt w' (some ⟨g, 0, none⟩) Q C R
set_option maxHeartbeats 2000000 in
theorem store_good (s : Nat → Addr) (c : Int) (cw : Bool) (p : Option Addr) (len cap : Nat) (ms : List Ar) (mp : Option Addr) (mc : Nat) (Q : Nat → Option Addr) (C : Nat → Nat) (M : List (List Int)) (a x : Int) (n : Nat) (w : World) (hs : Sent w s) (hm : MapsAt w p len ms) (hM : MemAt w mp Q C M)
    (ha : 0 ≤ a ∧ a < 18446744073709551616) (hz : isSize n = true) (hk : rdK c cw ms len M a n true = 4) :
    Calls Tryd.prog 31 #[.agg #[.int .i64 c, .bool cw, .slice p len cap], .slice mp M.length mc, .int .u64 a, .int .i64 n, .int .u64 x] w
      (MemPost (fillM M (regOf a - 1).toNat (offOf a).toNat (putL x n)) 0 w) := by
  have hn8 : n ≤ 8 := by have := isSize_of hz; omega
  have HM := Lib.hid hm
  have HMM := Lib.hid hM
  have HS := Lib.hid hs
  have HA := Lib.hid ha
  have HZ := Lib.hid hz
  have HB1 := Lib.hid (fun o => (Below.refl w.heap.size w).alloc (Nat.le_refl _) o)
  have hPL := putL_length x n
  have HPUT := Lib.hid (put_yes x n)
  unfold PutPost at HPUT
  generalize putL x n = B at *
  have hRl := fillM_length M (regOf a - 1).toNat (offOf a).toNat B
  have HWR : Hid (∀ bq bc w, Sent w s → MapsAt w p len ms → MemAt w mp Q C M → RowAt w bq B → Calls Tryd.prog 49 #[.agg #[.int .i64 c, .bool cw, .slice p len cap], .slice mp M.length mc, .int .u64 a, .slice bq B.length bc] w (WritePostR M.length (fillM M (regOf a - 1).toNat (offOf a).toNat B) w)) := (fun bq bc w hs hm hM hb => write_good s c cw p len cap ms mp mc Q C M a bq B bc w hs hm hM hb ha (by rw [hPL]; exact hk))
  generalize fillM M (regOf a - 1).toNat (offOf a).toNat B = R at *
  obtain ⟨K, hK⟩ : ∃ K, M.length = K := ⟨_, rfl⟩
  have HKK := Lib.hid hK
  rw [hPL] at HWR HPUT
  rw [hK] at HWR hRl ⊢
  have HRL := Lib.hid hRl
  clear hm hM hs ha hk hK hPL hz hRl
  go_enter Tryd.func31, Tryd.ntmps31
  go_wp2_with (go_at_call 45; refine (size_is _ _ HZ.out).mono ?_; rintro e w1 ⟨rfl, rfl⟩)
  go_region_with (first
    | (go_at_call 50; refine (HPUT.out _ HZ.out hn8).mono ?_; rintro e w2 ⟨g, bc, rfl, hb, hrow⟩; have HROW := Lib.hid hrow; have HBW := Lib.hid (below1d hb); obtain ⟨k0, k1, k2⟩ := box0 hb; clear hrow hb)
    | (go_at_call 49; refine (HWR.out _ _ _ (HS.out.below HBW.out.1) (HM.out.below HBW.out.1) (HMM.out.below HBW.out.1) HROW.out).mono ?_; rintro e w3 ⟨g3, Q3, C3, rfl, hb3, hmem⟩; have HMEM := Lib.hid hmem; clear hmem))
  all_goals
    go_wp2_with (go_at_call 43; refine (number_nil _).mono ?_; rintro e w4 ⟨rfl, rfl⟩)
    go_ret2
    exact ⟨_, _, _, _, by rw [HRL.out]; rfl, below_next HBW.out.1 hb3, HMEM.out⟩

set_option maxHeartbeats 2000000 in
theorem store_bad (s : Nat → Addr) (c : Int) (cw : Bool) (p : Option Addr) (len cap : Nat) (ms : List Ar) (mp : Option Addr) (mc : Nat) (Q : Nat → Option Addr) (C : Nat → Nat) (M : List (List Int)) (a x : Int) (n : Nat) (w : World) (hs : Sent w s) (hm : MapsAt w p len ms) (hM : MemAt w mp Q C M)
    (ha : 0 ≤ a ∧ a < 18446744073709551616) (hz : isSize n = true) (k : Nat) (hk : rdK c cw ms len M a n true = k) (hk4 : k < 4) :
    Calls Tryd.prog 31 #[.agg #[.int .i64 c, .bool cw, .slice p len cap], .slice mp M.length mc, .int .u64 a, .int .i64 n, .int .u64 x] w
      (MemPost [] (numOf k) w) := by
  have hn8 : n ≤ 8 := by have := isSize_of hz; omega
  have HM := Lib.hid hm
  have HMM := Lib.hid hM
  have HS := Lib.hid hs
  have HZ := Lib.hid hz
  have hPL := putL_length x n
  have HPUT := Lib.hid (put_yes x n)
  unfold PutPost at HPUT
  generalize putL x n = B at *
  have HWR := Lib.hid (fun bq bc w hs hm hM => write_bad s c cw p len cap ms mp mc Q C M a bq n bc w hs hm hM ha k hk hk4)
  obtain ⟨K, hK⟩ : ∃ K, M.length = K := ⟨_, rfl⟩
  rw [hPL] at HPUT
  rw [hK] at HWR ⊢
  clear hm hM hs ha hk hK hPL hz
  go_enter Tryd.func31, Tryd.ntmps31
  go_wp2_with (go_at_call 45; refine (size_is _ _ HZ.out).mono ?_; rintro e w1 ⟨rfl, rfl⟩)
  go_region_with (first
    | (go_at_call 50; refine (HPUT.out _ HZ.out hn8).mono ?_; rintro e w2 ⟨g, bc, rfl, hb, hrow⟩; have HROW := Lib.hid hrow; have HBW := Lib.hid (below1d hb); obtain ⟨k0, k1, k2⟩ := box0 hb; clear hrow hb)
    | (go_at_call 49; refine (HWR.out _ _ _ (HS.out.below HBW.out.1) (HM.out.below HBW.out.1) (HMM.out.below HBW.out.1)).mono ?_; rintro e w3 ⟨rfl, hb3⟩))
  all_goals
    go_wp2_with (go_at_call 43; refine (number_any s k hk4 _ _ _ (HS.out.below (below_next HBW.out.1 hb3))).mono ?_; rintro e w4 ⟨rfl, hb4⟩)
    go_ret2
    exact MemPost.none (below_next (below_next HBW.out.1 hb3) hb4)

theorem store_any (s : Nat → Addr) (c : Int) (cw : Bool) (p : Option Addr) (len cap : Nat) (ms : List Ar) (mp : Option Addr) (mc : Nat) (Q : Nat → Option Addr) (C : Nat → Nat) (M : List (List Int)) (a n x : Int) (w : World) (hs : Sent w s) (hm : MapsAt w p len ms) (hM : MemAt w mp Q C M)
    (ha : 0 ≤ a ∧ a < 18446744073709551616) :
    Calls Tryd.prog 31 #[.agg #[.int .i64 c, .bool cw, .slice p len cap], .slice mp M.length mc, .int .u64 a, .int .i64 n, .int .u64 x] w
      (MemPost (stM c cw ms len M a n x) (stE c cw ms len M a n) w) := by
  cases hz : isSize n
  · have e1 : stM c cw ms len M a n x = [] := by simp [stM, hz]
    have e2 : stE c cw ms len M a n = 2 := by simp [stE, hz]
    rw [e1, e2]
    exact store_no c cw p len cap mp M.length mc a n x w hz
  · obtain ⟨m, hm'⟩ : ∃ m : Nat, n = m := ⟨n.toNat, by simp [isSize] at hz; omega⟩
    subst hm'
    have hle := rdK_le c cw ms len M a m true
    by_cases h4 : rdK c cw ms len M a m true = 4
    · have e1 : stM c cw ms len M a m x = fillM M (regOf a - 1).toNat (offOf a).toNat (putL x m) := by
        simp [stM, hz, flM, putL_length, h4]
      have e2 : stE c cw ms len M a m = 0 := by simp [stE, hz, h4, accN_4]
      rw [e1, e2]
      exact store_good s c cw p len cap ms mp mc Q C M a x m w hs hm hM ha hz h4
    · have e1 : stM c cw ms len M a m x = [] := by
        simp [stM, hz, flM, putL_length, h4]
      have e2 : stE c cw ms len M a m = numOf (rdK c cw ms len M a m true) := by simp only [stE, hz, if_true]; exact accN_lt (by omega)
      rw [e1, e2]
      exact store_bad s c cw p len cap ms mp mc Q C M a x m w hs hm hM ha hz _ rfl (by omega)
end Go.Proofs.YtgchdiocbllppaaDoor
