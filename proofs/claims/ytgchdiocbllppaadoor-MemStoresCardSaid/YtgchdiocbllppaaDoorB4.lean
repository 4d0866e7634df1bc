/- Contracts of find and Access, all ways under one head, and the document's own Access. -/
import Derived.Test.YtgchdiocbllppaaDoorB3
namespace Go.Proofs.YtgchdiocbllppaaDoor
open Go.RowKit M

theorem areaOf_bd {c : Int} {wr : Bool} {ms : List Ar} {len : Nat} {r : Int} (hl : len = ms.length) (h : okL c ms = true) (hr : hasReg len r = true) : 0 ≤ (areaOf c wr ms r).size ∧ (areaOf c wr ms r).size ≤ 4096 := by
  obtain ⟨hc, _, hm⟩ := okL_parts h
  obtain ⟨g1, g2⟩ : 1 ≤ r ∧ r < 3 + (len : Int) := by simpa [hasReg] using hr
  unfold areaOf
  by_cases h1 : r = 1
  · rw [if_pos h1]; exact hc
  · by_cases h2 : r = 2
    · rw [if_neg h1, if_pos h2]; exact ⟨by decide, by decide⟩
    · rw [if_neg h1, if_neg h2]
      have := hm (r - 3).toNat (by omega)
      omega
theorem areaR_bd (c : Int) (wr : Bool) (ms : List Ar) (len : Nat) (r : Int) (hl : len = ms.length) : 0 ≤ (areaR c wr ms len r).size ∧ (areaR c wr ms len r).size ≤ 4096 := by
  unfold areaR
  cases h : okL c ms && hasReg len r
  · simp [none_]
  · simp only [Bool.and_eq_true] at h
    exact areaOf_bd hl h.1 h.2

/-- why an access may not be: 3 the count, 1 the range, 2 the permission; 4: it may be -/
def findK (c : Int) (wr : Bool) (ms : List Ar) (len : Nat) (a n : Int) (write : Bool) : Nat :=
  if inB n 1 = false then 3
  else if areaB c ms len (regOf a) = false then 1
  else if (areaR c wr ms len (regOf a)).size - n < offOf a then 1
  else if write = true ∧ (areaR c wr ms len (regOf a)).write = false then 2 else 4
theorem findK_le (c : Int) (wr : Bool) (ms : List Ar) (len : Nat) (a n : Int) (write : Bool) : findK c wr ms len a n write ≤ 4 := by
  unfold findK; (repeat' split) <;> omega
theorem find_err (s : Nat → Addr) (c : Int) (wr : Bool) (p : Option Addr) (len cap : Nat) (ms : List Ar) (a n : Int) (write : Bool) (w : World) (hs : Sent w s) (hm : MapsAt w p len ms)
    (ha : 0 ≤ a ∧ a < 18446744073709551616) (k : Nat) (hk : findK c wr ms len a n write = k) (hk4 : k < 4) :
    Calls Tryd.prog 44 #[.agg #[.int .i64 c, .bool wr, .slice p len cap], .agg #[.int .u64 a, .int .i64 n], .bool write] w fun e w' =>
      e = .returned (.tuple #[.agg #[.int .i64 0, .int .i64 0], .iface 92 (.agg #[.int .u64 a, .int .i64 n, .iface 110 (.pointer (some (s k)))])]) ∧ Below w.heap.size w w' := by
  have hbd := areaR_bd c wr ms len (regOf a) hm.hlen
  unfold findK at hk
  split at hk
  · subst hk; exact find_count s c wr p len cap a n write w hs ‹_›
  · rename_i hn
    have hn : inB n 1 = true := by simpa using hn
    split at hk
    · subst hk; exact find_none s c wr p len cap ms a n write w hs hm hn ha _ rfl ‹_›
    · rename_i hB
      have hB : areaB c ms len (regOf a) = true := by simpa using hB
      split at hk
      · subst hk; exact find_far s c wr p len cap ms a n write w hs hm hn ha _ rfl hB hbd ‹_›
      · split at hk
        · rename_i h1 h2
          subst hk; exact find_perm s c wr p len cap ms a n write w hs hm hn ha _ rfl hB hbd (by omega) h2.1 h2.2
        · omega
/-- what a granted access knows -/
theorem findK_ok {c : Int} {wr : Bool} {ms : List Ar} {len : Nat} {a n : Int} {write : Bool} (h : findK c wr ms len a n write = 4) :
    (1 ≤ n ∧ n ≤ 4096) ∧ areaB c ms len (regOf a) = true ∧ offOf a ≤ (areaR c wr ms len (regOf a)).size - n ∧ (write = false ∨ (areaR c wr ms len (regOf a)).write = true) := by
  unfold findK at h
  split at h
  · omega
  · rename_i hn
    have hn : inB n 1 = true := by simpa using hn
    split at h
    · omega
    · rename_i hB
      split at h
      · omega
      · split at h
        · omega
        · rename_i h1 h2
          refine ⟨of_inB hn, by simpa using hB, by omega, ?_⟩
          cases write
          · exact .inl rfl
          · exact .inr (by simpa using h2)
theorem find_fine (s : Nat → Addr) (c : Int) (wr : Bool) (p : Option Addr) (len cap : Nat) (ms : List Ar) (a n : Int) (write : Bool) (w : World) (hs : Sent w s) (hm : MapsAt w p len ms)
    (ha : 0 ≤ a ∧ a < 18446744073709551616) (hk : findK c wr ms len a n write = 4) :
    Calls Tryd.prog 44 #[.agg #[.int .i64 c, .bool wr, .slice p len cap], .agg #[.int .u64 a, .int .i64 n], .bool write] w fun e w' =>
      e = .returned (.tuple #[.agg #[.int .i64 (regOf a - 1), .int .i64 (offOf a)], .nilIface]) ∧ Below w.heap.size w w' := by
  obtain ⟨h1, h2, h3, h4⟩ := findK_ok hk
  exact find_ok s c wr p len cap ms a n write w hs hm (inB_true h1) ha _ rfl h2 (areaR_bd c wr ms len (regOf a) hm.hlen) h3 h4

/-- an access told as a number -/
def accN (k : Nat) : Int := if k = 4 then 0 else numOf k
set_option maxHeartbeats 400000 in
theorem access_any (s : Nat → Addr) (c : Int) (wr : Bool) (p : Option Addr) (len cap : Nat) (ms : List Ar) (a n : Int) (write : Bool) (w : World) (hs : Sent w s) (hm : MapsAt w p len ms)
    (ha : 0 ≤ a ∧ a < 18446744073709551616) :
    Calls Tryd.prog 15 #[.agg #[.int .i64 c, .bool wr, .slice p len cap], .int .u64 a, .int .i64 n, .bool write] w fun e w' =>
      e = .returned (.int .i64 (accN (findK c wr ms len a n write))) ∧ Below w.heap.size w w' := by
  have hle := findK_le c wr ms len a n write
  generalize hk : findK c wr ms len a n write = k at *
  have HS := Lib.hid hs
  have HM := Lib.hid hm
  have HA := Lib.hid ha
  have HK := Lib.hid hk
  clear hs hm ha hk
  by_cases h4 : k = 4
  · subst h4
    go_enter Tryd.func15, Tryd.ntmps15
    go_wp2_with (first
      | (go_at_call 44; refine (find_fine s _ _ _ _ _ ms _ _ _ _ (HS.out.below ((Below.refl _ _).alloc (Nat.le_refl _) _)) (HM.out.alloc _) HA.out HK.out).mono ?_; rintro e w1 ⟨rfl, hb⟩; obtain ⟨hc, hf⟩ := bcell hb; have z1 := one_in hb)
      | (go_at_call 43; refine (number_nil _).mono ?_; rintro e w2 ⟨rfl, rfl⟩))
    go_ret
    exact ⟨rfl, (below1 hb).alloc (Nat.le_of_lt z1) _⟩
  · have hk4 : k < 4 := by omega
    have hN : accN k = numOf k := by simp [accN, h4]
    rw [hN]
    clear hN hle h4
    go_enter Tryd.func15, Tryd.ntmps15
    go_wp2_with (first
      | (go_at_call 44; refine (find_err s _ _ _ _ _ ms _ _ _ _ (HS.out.below ((Below.refl _ _).alloc (Nat.le_refl _) _)) (HM.out.alloc _) HA.out k HK.out hk4).mono ?_; rintro e w1 ⟨rfl, hb⟩; obtain ⟨hc, hf⟩ := bcell hb; have z1 := one_in hb)
      | (go_at_call 43; refine (number_any s k hk4 _ _ _ (HS.out.below ((below1 hb).alloc (Nat.le_of_lt z1) _))).mono ?_; rintro e w2 ⟨rfl, hb2⟩))
    go_ret
    exact ⟨rfl, ((below1 hb).alloc (Nat.le_of_lt z1) _).trans (hb2.mono (by simp; omega))⟩
end Go.Proofs.YtgchdiocbllppaaDoor
