/- Contracts of the document's own answer: what a memory is behind a fill and a store, all ways under one head. -/
import Derived.Test.YtgchdiocbllppaaDoorRM
namespace Go.Proofs.YtgchdiocbllppaaDoor
open Go.RowKit M

theorem rfill_any (s : Nat → Addr) (c : Int) (cw : Bool) (q : Option Addr) (len cap : Nat) (ms : List Ar) (mp : Option Addr) (mc : Nat) (Q : Nat → Option Addr) (C : Nat → Nat) (M : List (List Int)) (a : Int) (bq : Option Addr) (bs : List Int) (bc : Nat) (w : World) (hs : Sent w s) (hm : MapsAt w q len ms) (hM : MemAt w mp Q C M) (hbs : RowAt w bq bs) (ha : 0 ≤ a ∧ a < 18446744073709551616) :
    Calls Tryd.prog 34 #[.agg #[.int .i64 c, .bool cw, .slice q len cap], .slice mp M.length mc, .int .u64 a, .slice bq bs.length bc] w
      (MemPost (flM c cw ms len M a bs) (accN (rdK c cw ms len M a bs.length true)) w) := by
  have hle := rdK_le c cw ms len M a bs.length true
  by_cases h4 : rdK c cw ms len M a bs.length true = 4
  · have e1 : flM c cw ms len M a bs = fillM M (regOf a - 1).toNat (offOf a).toNat bs := by simp [flM, h4]
    rw [h4, accN_4, e1]
    exact rfill_ok s c cw q len cap ms mp mc Q C M a bq bs bc w hs hm hM hbs ha h4
  · have e1 : flM c cw ms len M a bs = [] := by simp [flM, h4]
    rw [e1, accN_lt (by omega)]
    exact rfill_bad s c cw q len cap ms mp mc Q C M a bq bs.length bc w hs hm hM hbs.small ha _ rfl (by omega)

set_option maxHeartbeats 1000000 in
theorem rstore_no (c : Int) (cw : Bool) (p : Option Addr) (len cap : Nat) (mp : Option Addr) (mn mc : Nat) (a n x : Int) (w : World) (hz : isSize n = false) :
    Calls Tryd.prog 32 #[.agg #[.int .i64 c, .bool cw, .slice p len cap], .slice mp mn mc, .int .u64 a, .int .i64 n, .int .u64 x] w
      (MemPost [] 2 w) := by
  have HZ := Lib.hid hz
  clear hz
  go_enter Tryd.func32, Tryd.ntmps32
  go_wp2_with (go_at_call 47; refine (rsize_is _ _ HZ.out).mono ?_; rintro e w1 ⟨rfl, rfl⟩)
  go_ret2
  exact MemPost.none ((Below.refl _ _).alloc (Nat.le_refl _) _)
set_option maxHeartbeats 2000000 in
theorem rstore_yes (s : Nat → Addr) (c : Int) (cw : Bool) (p : Option Addr) (len cap : Nat) (ms : List Ar) (mp : Option Addr) (mc : Nat) (Q : Nat → Option Addr) (C : Nat → Nat) (M : List (List Int)) (a x : Int) (n : Nat) (w : World) (hs : Sent w s) (hm : MapsAt w p len ms) (hM : MemAt w mp Q C M)
    (ha : 0 ≤ a ∧ a < 18446744073709551616) (hz : isSize n = true) :
    Calls Tryd.prog 32 #[.agg #[.int .i64 c, .bool cw, .slice p len cap], .slice mp M.length mc, .int .u64 a, .int .i64 n, .int .u64 x] w
      (MemPost (flM c cw ms len M a (putL x n)) (accN (rdK c cw ms len M a n true)) w) := by
  have hn8 : n ≤ 8 := by have := isSize_of hz; omega
  have hn1 : 1 ≤ n := by have := isSize_of hz; omega
  have HM := Lib.hid hm
  have HMM := Lib.hid hM
  have HS := Lib.hid hs
  have HZ := Lib.hid hz
  have hPL := putL_length x n
  have HPUT := Lib.hid (rput_yes x n)
  unfold PutPost at HPUT
  have HFL := Lib.hid (fun bq bc w hs hm hM hb => rfill_any s c cw p len cap ms mp mc Q C M a bq (putL x n) bc w hs hm hM hb ha)
  rw [hPL] at HFL HPUT
  generalize putL x n = B at *
  obtain ⟨R, hR⟩ : ∃ R, flM c cw ms len M a B = R := ⟨_, rfl⟩
  obtain ⟨E, hE⟩ : ∃ E, accN (rdK c cw ms len M a n true) = E := ⟨_, rfl⟩
  rw [hR, hE] at HFL ⊢
  unfold MemPost at HFL
  have HRL : Hid (∀ mp mc Q C w', Below w.heap.size w w' → MemAt w' mp Q C R → MemPost R E w (.returned (.tuple #[.slice mp R.length mc, .int .i64 E])) w') := fun mp mc Q C w' hb hm => ⟨mp, mc, Q, C, rfl, hb, hm⟩
  obtain ⟨RL, hRL⟩ : ∃ RL, R.length = RL := ⟨_, rfl⟩
  rw [hRL] at HFL HRL
  obtain ⟨K, hK⟩ : ∃ K, M.length = K := ⟨_, rfl⟩
  rw [hK] at HFL ⊢
  clear hm hM hs ha hK hPL hz hR hE hRL
  go_enter Tryd.func32, Tryd.ntmps32
  go_wp2_with (go_at_call 47; refine (rsize_is _ _ HZ.out).mono ?_; rintro e w1 ⟨rfl, rfl⟩)
  go_region_with (first
    | (go_at_call 36; refine (HPUT.out _ HZ.out hn8 hn1).mono ?_; rintro e w2 ⟨g, bc, rfl, hb, hrow⟩; have HROW := Lib.hid hrow; have HBW := Lib.hid (below1d hb); obtain ⟨k0, k1, k2⟩ := box0 hb; clear hrow hb)
    | (go_at_call 34; refine (HFL.out _ _ _ (HS.out.below HBW.out.1) (HM.out.below HBW.out.1) (HMM.out.below HBW.out.1) HROW.out).mono ?_; rintro e w3 ⟨mp3, mc3, Q3, C3, rfl, hb3, hmem⟩; have HMEM := Lib.hid hmem; clear hmem))
  all_goals
    go_wp2_with fail
    go_ret2
    exact HRL.out _ _ _ _ _ (below_next HBW.out.1 hb3) HMEM.out
theorem rstore_any (s : Nat → Addr) (c : Int) (cw : Bool) (p : Option Addr) (len cap : Nat) (ms : List Ar) (mp : Option Addr) (mc : Nat) (Q : Nat → Option Addr) (C : Nat → Nat) (M : List (List Int)) (a n x : Int) (w : World) (hs : Sent w s) (hm : MapsAt w p len ms) (hM : MemAt w mp Q C M)
    (ha : 0 ≤ a ∧ a < 18446744073709551616) :
    Calls Tryd.prog 32 #[.agg #[.int .i64 c, .bool cw, .slice p len cap], .slice mp M.length mc, .int .u64 a, .int .i64 n, .int .u64 x] w
      (MemPost (stM c cw ms len M a n x) (stE c cw ms len M a n) w) := by
  cases hz : isSize n
  · have e1 : stM c cw ms len M a n x = [] := by simp [stM, hz]
    have e2 : stE c cw ms len M a n = 2 := by simp [stE, hz]
    rw [e1, e2]
    exact rstore_no c cw p len cap mp M.length mc a n x w hz
  · obtain ⟨m, hm'⟩ : ∃ m : Nat, n = m := ⟨n.toNat, by simp [isSize] at hz; omega⟩
    subst hm'
    have e1 : stM c cw ms len M a m x = flM c cw ms len M a (putL x m) := by simp [stM, hz]
    have e2 : stE c cw ms len M a m = accN (rdK c cw ms len M a m true) := by simp [stE, hz]
    rw [e1, e2]
    exact rstore_yes s c cw p len cap ms mp mc Q C M a x m w hs hm hM ha hz
end Go.Proofs.YtgchdiocbllppaaDoor
