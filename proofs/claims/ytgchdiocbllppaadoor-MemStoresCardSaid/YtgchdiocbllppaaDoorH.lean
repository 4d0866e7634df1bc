/- Contracts of Load and Bytes. -/
import Derived.Test.YtgchdiocbllppaaDoorF2
import Derived.Test.YtgchdiocbllppaaDoorG
namespace Go.Proofs.YtgchdiocbllppaaDoor
open Go.RowKit M

/-- why a memory's span may not be accessed: 0: the memory is another layout's -/
def rdK (c : Int) (cw : Bool) (ms : List Ar) (len : Nat) (M : List (List Int)) (a n : Int) (write : Bool) : Nat := if mayB c ms len M = true then findK c cw ms len a n write else 0
theorem rdK_le (c : Int) (cw : Bool) (ms : List Ar) (len : Nat) (M : List (List Int)) (a n : Int) (write : Bool) : rdK c cw ms len M a n write ≤ 4 := by
  unfold rdK; split
  · exact findK_le _ _ _ _ _ _ _
  · omega
/-- what is read -/
def rdB (c : Int) (cw : Bool) (ms : List Ar) (len : Nat) (M : List (List Int)) (a n : Int) : List Int := if rdK c cw ms len M a n false = 4 then cut (M.getD (regOf a - 1).toNat []) (offOf a).toNat n.toNat else []
theorem rdK_ok {c : Int} {cw : Bool} {ms : List Ar} {len : Nat} {M : List (List Int)} {a n : Int} {write : Bool} (h : rdK c cw ms len M a n write = 4) : mayB c ms len M = true ∧ findK c cw ms len a n write = 4 := by
  unfold rdK at h
  split at h
  · exact ⟨‹_›, h⟩
  · omega
theorem read_bad (s : Nat → Addr) (c : Int) (cw : Bool) (p : Option Addr) (len cap : Nat) (ms : List Ar) (mp : Option Addr) (mc : Nat) (Q : Nat → Option Addr) (C : Nat → Nat) (M : List (List Int)) (a n : Int) (w : World) (hs : Sent w s) (hm : MapsAt w p len ms) (hM : MemAt w mp Q C M)
    (ha : 0 ≤ a ∧ a < 18446744073709551616) (k : Nat) (hk : rdK c cw ms len M a n false = k) (hk4 : k < 4) :
    Calls Tryd.prog 41 #[.agg #[.int .i64 c, .bool cw, .slice p len cap], .slice mp M.length mc, .agg #[.int .u64 a, .int .i64 n]] w fun e w' =>
      e = .returned (.tuple #[.slice none 0 0, flt s a n k]) ∧ Below w.heap.size w w' := by
  unfold rdK at hk
  split at hk
  · exact read_err s c cw p len cap ms mp mc Q C M a n w hs hm hM ha ‹_› k hk hk4
  · rename_i hn
    subst hk; exact read_stray s c cw p len cap ms mp mc Q C M a n w hs hm hM (Bool.eq_false_iff.2 hn)
theorem read_good (s : Nat → Addr) (c : Int) (cw : Bool) (p : Option Addr) (len cap : Nat) (ms : List Ar) (mp : Option Addr) (mc : Nat) (Q : Nat → Option Addr) (C : Nat → Nat) (M : List (List Int)) (a n : Int) (w : World) (hs : Sent w s) (hm : MapsAt w p len ms) (hM : MemAt w mp Q C M)
    (ha : 0 ≤ a ∧ a < 18446744073709551616) (hk : rdK c cw ms len M a n false = 4) :
    Calls Tryd.prog 41 #[.agg #[.int .i64 c, .bool cw, .slice p len cap], .slice mp M.length mc, .agg #[.int .u64 a, .int .i64 n]] w fun e w' =>
      ∃ b off qc, e = .returned (.tuple #[.slice (some ⟨b, off, none⟩) (rdB c cw ms len M a n).length qc, .nilIface]) ∧ Below w.heap.size w w' ∧ RowAt w' (some ⟨b, off, none⟩) (rdB c cw ms len M a n) := by
  obtain ⟨h1, h2⟩ := rdK_ok hk
  obtain ⟨r, o, nn, hr, ho, hn, hn1, hn2, hrM, hfit, hL⟩ := granted hm.hlen h1 h2
  have hB : rdB c cw ms len M a n = cut (M.getD (regOf a - 1).toNat []) (offOf a).toNat n.toNat := by simp [rdB, hk]
  have hlen : (rdB c cw ms len M a n).length = n.toNat := by rw [hB, hr, ho, hn]; exact cut_length (by simpa using hfit)
  rw [hlen, hB]
  exact read_ok s c cw p len cap ms mp mc Q C M a n w hs hm hM ha h1 h2

def loadE (c : Int) (cw : Bool) (ms : List Ar) (len : Nat) (M : List (List Int)) (a n : Int) : Int := if isSize n = true then accN (rdK c cw ms len M a n false) else 2
def loadV (c : Int) (cw : Bool) (ms : List Ar) (len : Nat) (M : List (List Int)) (a n : Int) : Int := if isSize n = true then getN (rdB c cw ms len M a n) else 0
theorem getN_nil : getN [] = 0 := rfl
theorem accN_4 : accN 4 = 0 := rfl
theorem accN_lt {k : Nat} (h : k < 4) : accN k = numOf k := by simp [accN]; omega

set_option maxHeartbeats 1000000 in
theorem load_any (s : Nat → Addr) (c : Int) (cw : Bool) (p : Option Addr) (len cap : Nat) (ms : List Ar) (mp : Option Addr) (mc : Nat) (Q : Nat → Option Addr) (C : Nat → Nat) (M : List (List Int)) (a n : Int) (w : World) (hs : Sent w s) (hm : MapsAt w p len ms) (hM : MemAt w mp Q C M)
    (ha : 0 ≤ a ∧ a < 18446744073709551616) :
    Calls Tryd.prog 26 #[.agg #[.int .i64 c, .bool cw, .slice p len cap], .slice mp M.length mc, .int .u64 a, .int .i64 n] w fun e w' =>
      e = .returned (.tuple #[.int .u64 (loadV c cw ms len M a n), .int .i64 (loadE c cw ms len M a n)]) ∧ Below w.heap.size w w' := by
  have HM := Lib.hid hm
  have HMM := Lib.hid hM
  have HS := Lib.hid hs
  have HA := Lib.hid ha
  have HB1 := Lib.hid (fun o => (Below.refl w.heap.size w).alloc (Nat.le_refl _) o)
  cases hz : isSize n
  · have e1 : loadV c cw ms len M a n = 0 := by simp [loadV, hz]
    have e2 : loadE c cw ms len M a n = 2 := by simp [loadE, hz]
    rw [e1, e2]
    have HZ := Lib.hid hz
    obtain ⟨K, hK⟩ : ∃ K, M.length = K := ⟨_, rfl⟩
    rw [hK]
    clear hm hM hs ha e1 e2 hz hK
    go_enter Tryd.func26, Tryd.ntmps26
    go_wp2_with (go_at_call 45; refine (size_is _ _ HZ.out).mono ?_; rintro e w1 ⟨rfl, rfl⟩)
    go_ret2
    exact ⟨rfl, HB1.out _⟩
  · have hle := rdK_le c cw ms len M a n false
    obtain ⟨k, hk⟩ : ∃ k, rdK c cw ms len M a n false = k := ⟨_, rfl⟩
    rw [hk] at hle
    have e2 : loadE c cw ms len M a n = accN k := by simp [loadE, hz, hk]
    rw [e2]
    by_cases h4 : k = 4
    · subst h4
      have e1 : loadV c cw ms len M a n = getN (rdB c cw ms len M a n) := by simp [loadV, hz]
      rw [e1, accN_4]
      have HZ := Lib.hid hz
      have HRD := Lib.hid (read_good s c cw p len cap ms mp mc Q C M a n)
      have HK := Lib.hid hk
      obtain ⟨K, hK⟩ : ∃ K, M.length = K := ⟨_, rfl⟩
      rw [hK] at HRD ⊢
      generalize rdB c cw ms len M a n = B at *
      clear hm hM hs ha e1 e2 hz hk hle hK
      go_enter Tryd.func26, Tryd.ntmps26
      go_wp2_with (first
        | (go_at_call 45; refine (size_is _ _ HZ.out).mono ?_; rintro e w1 ⟨rfl, rfl⟩)
        | (go_at_call 41; refine (HRD.out _ (HS.out.below (HB1.out _)) (HM.out.alloc _) (HMM.out.alloc _) HA.out HK.out).mono ?_; rintro e w2 ⟨b, off, qc, rfl, hb, hrow⟩; have HR := Lib.hid hrow; clear hrow)
        | (go_at_call 46; refine (get_any _ _ _ _ HR.out).mono ?_; rintro e w3 ⟨rfl, rfl⟩)
        | (go_at_call 43; refine (number_nil _).mono ?_; rintro e w4 ⟨rfl, rfl⟩))
      go_ret2
      exact ⟨rfl, below1 hb⟩
    · have hk4 : k < 4 := by omega
      have e1 : loadV c cw ms len M a n = 0 := by simp [loadV, hz, rdB, hk, h4, getN_nil]
      rw [e1, accN_lt hk4]
      have HZ := Lib.hid hz
      have HRD := Lib.hid (read_bad s c cw p len cap ms mp mc Q C M a n)
      have HK := Lib.hid hk
      obtain ⟨K, hK⟩ : ∃ K, M.length = K := ⟨_, rfl⟩
      rw [hK] at HRD ⊢
      clear hm hM hs ha e1 e2 hz hk hle hK h4
      go_enter Tryd.func26, Tryd.ntmps26
      go_wp2_with (first
        | (go_at_call 45; refine (size_is _ _ HZ.out).mono ?_; rintro e w1 ⟨rfl, rfl⟩)
        | (go_at_call 41; refine (HRD.out _ (HS.out.below (HB1.out _)) (HM.out.alloc _) (HMM.out.alloc _) HA.out k HK.out hk4).mono ?_; rintro e w2 ⟨rfl, hb⟩)
        | (go_at_call 46; refine (get_any none 0 [] _ (RowAt.nil _ _)).mono ?_; rw [getN_nil]; rintro e w3 ⟨rfl, rfl⟩)
        | (go_at_call 43; refine (number_any s k hk4 _ _ _ (HS.out.below (below1 hb))).mono ?_; rintro e w4 ⟨rfl, hb4⟩))
      go_ret2
      exact ⟨rfl, below_next (below1 hb) hb4⟩

def BytesPost (B : List Int) (r : Int) (w : World) (e : Ending) (w' : World) : Prop :=
  ∃ g, e = .returned (.tuple #[.slice (some ⟨g, 0, none⟩) B.length B.length, .int .i64 r]) ∧ Below w.heap.size w w' ∧ RowAt w' (some ⟨g, 0, none⟩) B
set_option maxHeartbeats 1000000 in
theorem bytes_any (s : Nat → Addr) (c : Int) (cw : Bool) (p : Option Addr) (len cap : Nat) (ms : List Ar) (mp : Option Addr) (mc : Nat) (Q : Nat → Option Addr) (C : Nat → Nat) (M : List (List Int)) (a n : Int) (w : World) (hs : Sent w s) (hm : MapsAt w p len ms) (hM : MemAt w mp Q C M)
    (ha : 0 ≤ a ∧ a < 18446744073709551616) :
    Calls Tryd.prog 13 #[.agg #[.int .i64 c, .bool cw, .slice p len cap], .slice mp M.length mc, .int .u64 a, .int .i64 n] w
      (BytesPost (rdB c cw ms len M a n) (accN (rdK c cw ms len M a n false)) w) := by
  have HM := Lib.hid hm
  have HMM := Lib.hid hM
  have HS := Lib.hid hs
  have HA := Lib.hid ha
  have HB1 := Lib.hid (fun o => (Below.refl w.heap.size w).alloc (Nat.le_refl _) o)
  have hle := rdK_le c cw ms len M a n false
  obtain ⟨k, hk⟩ : ∃ k, rdK c cw ms len M a n false = k := ⟨_, rfl⟩
  rw [hk] at hle ⊢
  by_cases h4 : k = 4
  · subst h4
    rw [accN_4]
    have HRD := Lib.hid (read_good s c cw p len cap ms mp mc Q C M a n)
    have HK := Lib.hid hk
    obtain ⟨K, hK⟩ : ∃ K, M.length = K := ⟨_, rfl⟩
    rw [hK] at HRD ⊢
    generalize rdB c cw ms len M a n = B at *
    clear hm hM hs ha hk hle hK
    go_enter Tryd.func13, Tryd.ntmps13
    go_wp2_with (first
      | (go_at_call 41; refine (HRD.out _ (HS.out.below (HB1.out _)) (HM.out.alloc _) (HMM.out.alloc _) HA.out HK.out).mono ?_; rintro e w2 ⟨b, off, qc, rfl, hb, hrow⟩; have HR := Lib.hid hrow; clear hrow)
      | (go_at_call 42; refine (twin_any _ _ _ _ HR.out).mono ?_; rintro e w3 ⟨rfl, hb3, hblk⟩; have HBL := Lib.hid hblk; clear hblk)
      | (go_at_call 43; refine (number_nil _).mono ?_; rintro e w4 ⟨rfl, rfl⟩))
    go_ret2
    exact ⟨_, rfl, below_next (below1 hb) hb3, RowAt.of_block HR.out.small HR.out.byte HBL.out⟩
  · have hk4 : k < 4 := by omega
    have e1 : rdB c cw ms len M a n = [] := by simp [rdB, hk, h4]
    rw [e1, accN_lt hk4]
    have HRD := Lib.hid (read_bad s c cw p len cap ms mp mc Q C M a n)
    have HK := Lib.hid hk
    obtain ⟨K, hK⟩ : ∃ K, M.length = K := ⟨_, rfl⟩
    rw [hK] at HRD ⊢
    clear hm hM hs ha e1 hk hle hK h4
    go_enter Tryd.func13, Tryd.ntmps13
    go_wp2_with (first
      | (go_at_call 41; refine (HRD.out _ (HS.out.below (HB1.out _)) (HM.out.alloc _) (HMM.out.alloc _) HA.out k HK.out hk4).mono ?_; rintro e w2 ⟨rfl, hb⟩)
      | (go_at_call 42; refine (twin_any none 0 [] _ (RowAt.nil _ _)).mono ?_; rintro e w3 ⟨rfl, hb3, _⟩)
      | (go_at_call 43; refine (number_any s k hk4 _ _ _ (HS.out.below (below_next (below1 hb) hb3))).mono ?_; rintro e w4 ⟨rfl, hb4⟩))
    go_ret2
    exact ⟨_, rfl, below_next (below_next (below1 hb) hb3) hb4, RowAt.nil _ _⟩
end Go.Proofs.YtgchdiocbllppaaDoor
