/- Contracts of Store and Fill. -/
import Derived.Test.YtgchdiocbllppaaDoorJ2
import Derived.Deep.RegionWith
namespace Go.Proofs.YtgchdiocbllppaaDoor
open Go.RowKit M

theorem write_bad (s : Nat → Addr) (c : Int) (cw : Bool) (p : Option Addr) (len cap : Nat) (ms : List Ar) (mp : Option Addr) (mc : Nat) (Q : Nat → Option Addr) (C : Nat → Nat) (M : List (List Int)) (a : Int) (bq : Option Addr) (bn bc : Nat) (w : World) (hs : Sent w s) (hm : MapsAt w p len ms) (hM : MemAt w mp Q C M)
    (ha : 0 ≤ a ∧ a < 18446744073709551616) (k : Nat) (hk : rdK c cw ms len M a bn true = k) (hk4 : k < 4) :
    Calls Tryd.prog 49 #[.agg #[.int .i64 c, .bool cw, .slice p len cap], .slice mp M.length mc, .int .u64 a, .slice bq bn bc] w fun e w' =>
      e = .returned (.tuple #[.slice none 0 0, flt s a bn k]) ∧ Below w.heap.size w w' := by
  unfold rdK at hk
  split at hk
  · exact write_err s c cw p len cap ms mp mc Q C M a bq bn bc w hs hm hM ha ‹_› k hk hk4
  · rename_i hn
    subst hk; exact write_stray s c cw p len cap ms mp mc Q C M a bq bn bc w hs hm hM (Bool.eq_false_iff.2 hn)
theorem write_good (s : Nat → Addr) (c : Int) (cw : Bool) (p : Option Addr) (len cap : Nat) (ms : List Ar) (mp : Option Addr) (mc : Nat) (Q : Nat → Option Addr) (C : Nat → Nat) (M : List (List Int)) (a : Int) (bq : Option Addr) (bs : List Int) (bc : Nat) (w : World) (hs : Sent w s) (hm : MapsAt w p len ms) (hM : MemAt w mp Q C M)
    (hbs : RowAt w bq bs) (ha : 0 ≤ a ∧ a < 18446744073709551616) (hk : rdK c cw ms len M a bs.length true = 4) :
    Calls Tryd.prog 49 #[.agg #[.int .i64 c, .bool cw, .slice p len cap], .slice mp M.length mc, .int .u64 a, .slice bq bs.length bc] w (WritePost M a bs w) :=
  write_ok s c cw p len cap ms mp mc Q C M a bq bs bc w hs hm hM hbs ha (rdK_ok hk).1 (rdK_ok hk).2
theorem MemAt.nil (w : World) : MemAt w none (fun _ => none) (fun _ => 0) [] :=
  ⟨Nat.zero_le _, fun i => by simp, fun i hi => absurd hi (Nat.not_lt_zero _), fun i j hi => absurd hi (Nat.not_lt_zero _), fun i j hi => absurd hi (Nat.not_lt_zero _)⟩
/-- a memory and a number are answered -/
def MemPost (R : List (List Int)) (E : Int) (w : World) (e : Ending) (w' : World) : Prop :=
  ∃ mp mc Q C, e = .returned (.tuple #[.slice mp R.length mc, .int .i64 E]) ∧ Below w.heap.size w w' ∧ MemAt w' mp Q C R
theorem MemPost.none {E : Int} {w w' : World} (h : Below w.heap.size w w') : MemPost [] E w (.returned (.tuple #[.slice none 0 0, .int .i64 E])) w' := ⟨_, _, _, _, rfl, h, MemAt.nil _⟩
/-- the memory behind a fill, and what is told -/
def flM (c : Int) (cw : Bool) (ms : List Ar) (len : Nat) (M : List (List Int)) (a : Int) (bs : List Int) : List (List Int) := if rdK c cw ms len M a bs.length true = 4 then fillM M (regOf a - 1).toNat (offOf a).toNat bs else []
theorem fillM_length (M : List (List Int)) (r o : Nat) (bs : List Int) : (fillM M r o bs).length = M.length := by simp [fillM]

set_option maxHeartbeats 1000000 in
theorem fill_any (s : Nat → Addr) (c : Int) (cw : Bool) (p : Option Addr) (len cap : Nat) (ms : List Ar) (mp : Option Addr) (mc : Nat) (Q : Nat → Option Addr) (C : Nat → Nat) (M : List (List Int)) (a : Int) (bq : Option Addr) (bs : List Int) (bc : Nat) (w : World) (hs : Sent w s) (hm : MapsAt w p len ms) (hM : MemAt w mp Q C M)
    (hbs : RowAt w bq bs) (ha : 0 ≤ a ∧ a < 18446744073709551616) :
    Calls Tryd.prog 33 #[.agg #[.int .i64 c, .bool cw, .slice p len cap], .slice mp M.length mc, .int .u64 a, .slice bq bs.length bc] w
      (MemPost (flM c cw ms len M a bs) (accN (rdK c cw ms len M a bs.length true)) w) := by
  have HM := Lib.hid hm
  have HMM := Lib.hid hM
  have HS := Lib.hid hs
  have HA := Lib.hid ha
  have HBS := Lib.hid hbs
  have HB1 := Lib.hid (fun o => (Below.refl w.heap.size w).alloc (Nat.le_refl _) o)
  have hle := rdK_le c cw ms len M a bs.length true
  obtain ⟨k, hk⟩ : ∃ k, rdK c cw ms len M a bs.length true = k := ⟨_, rfl⟩
  rw [hk] at hle ⊢
  by_cases h4 : k = 4
  · subst h4
    rw [accN_4]
    have e1 : flM c cw ms len M a bs = fillM M (regOf a - 1).toNat (offOf a).toNat bs := by simp [flM, hk]
    rw [e1]
    have HWR := Lib.hid (write_good s c cw p len cap ms mp mc Q C M a bq bs bc)
    have HK := Lib.hid hk
    obtain ⟨K, hK⟩ : ∃ K, M.length = K := ⟨_, rfl⟩
    have HKK := Lib.hid hK
    obtain ⟨N, hN⟩ : ∃ N, bs.length = N := ⟨_, rfl⟩
    rw [hK, hN] at HWR ⊢
    rw [hN] at HK
    clear hm hM hs ha hk hle hK hbs hN e1
    go_enter Tryd.func33, Tryd.ntmps33
    go_wp2_with (first
      | (go_at_call 49; refine (HWR.out _ (HS.out.below (HB1.out _)) (HM.out.alloc _) (HMM.out.alloc _) (HBS.out.alloc _) HA.out HK.out).mono ?_; rintro e w2 ⟨g, Q2, C2, rfl, hb, hmem⟩; have HMEM := Lib.hid hmem; clear hmem)
      | (go_at_call 43; refine (number_nil _).mono ?_; rintro e w4 ⟨rfl, rfl⟩))
    go_ret2
    exact ⟨_, _, _, _, by rw [fillM_length]; rfl, below1 hb, HMEM.out⟩
  · have hk4 : k < 4 := by omega
    have e1 : flM c cw ms len M a bs = [] := by simp [flM, hk, h4]
    rw [e1, accN_lt hk4]
    obtain ⟨N, hN⟩ : ∃ N, bs.length = N := ⟨_, rfl⟩
    rw [hN] at hk ⊢
    have HWR := Lib.hid (write_bad s c cw p len cap ms mp mc Q C M a bq N bc)
    have HK := Lib.hid hk
    obtain ⟨K, hK⟩ : ∃ K, M.length = K := ⟨_, rfl⟩
    rw [hK] at HWR ⊢
    clear hm hM hs ha hk hle hK hbs hN e1 h4
    go_enter Tryd.func33, Tryd.ntmps33
    go_wp2_with (first
      | (go_at_call 49; refine (HWR.out _ (HS.out.below (HB1.out _)) (HM.out.alloc _) (HMM.out.alloc _) HA.out k HK.out hk4).mono ?_; rintro e w2 ⟨rfl, hb⟩)
      | (go_at_call 43; refine (number_any s k hk4 _ _ _ (HS.out.below (below1 hb))).mono ?_; rintro e w4 ⟨rfl, hb4⟩))
    go_ret2
    exact MemPost.none (below_next (below1 hb) hb4)

def stE (c : Int) (cw : Bool) (ms : List Ar) (len : Nat) (M : List (List Int)) (a n : Int) : Int := if isSize n = true then accN (rdK c cw ms len M a n true) else 2
def stM (c : Int) (cw : Bool) (ms : List Ar) (len : Nat) (M : List (List Int)) (a n x : Int) : List (List Int) := if isSize n = true then flM c cw ms len M a (putL x n.toNat) else []
set_option maxHeartbeats 1000000 in
theorem store_no (c : Int) (cw : Bool) (p : Option Addr) (len cap : Nat) (mp : Option Addr) (mn mc : Nat) (a n x : Int) (w : World) (hz : isSize n = false) :
    Calls Tryd.prog 31 #[.agg #[.int .i64 c, .bool cw, .slice p len cap], .slice mp mn mc, .int .u64 a, .int .i64 n, .int .u64 x] w
      (MemPost [] 2 w) := by
  have HZ := Lib.hid hz
  clear hz
  go_enter Tryd.func31, Tryd.ntmps31
  go_wp2_with (go_at_call 45; refine (size_is _ _ HZ.out).mono ?_; rintro e w1 ⟨rfl, rfl⟩)
  go_ret2
  exact MemPost.none ((Below.refl _ _).alloc (Nat.le_refl _) _)
end Go.Proofs.YtgchdiocbllppaaDoor
