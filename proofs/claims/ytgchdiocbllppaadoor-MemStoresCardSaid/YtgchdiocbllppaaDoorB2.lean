/- Contracts of number and find: why an access may not be, told as numbers. -/
import Derived.Test.YtgchdiocbllppaaDoorB
import Derived.RegionTactic
import Derived.ChangeAlike
namespace Go.Proofs.YtgchdiocbllppaaDoor
open Go.RowKit M

/-- the four errors lie in their variables, each at an address of its own -/
structure Sent (w : World) (s : Nat → Addr) : Prop where
  glob : ∀ g, g < 4 → w.cell? ⟨g, 0, none⟩ = some (.iface 110 (.pointer (some (s g))))
  size : 3 < w.heap.size
  blk : ∀ g, g < 4 → (s g).block < w.heap.size ∧ ∃ c t, w.heap[(s g).block]? = some (.cells c t (0, 0))
  ne : ∀ g h, g < 4 → h < 4 → g ≠ h → s g ≠ s h
theorem Sent.below {w w' : World} {s : Nat → Addr} (h : Sent w s) (hb : Below w.heap.size w w') : Sent w' s :=
  ⟨fun g hg => (hb.cell (p := ⟨g, 0, none⟩) (by have := h.size; show g < _; omega)).trans (h.glob g hg), Nat.lt_of_lt_of_le h.size hb.size,
    fun g hg => by
      obtain ⟨h1, c, t, h2⟩ := h.blk g hg
      exact ⟨Nat.lt_of_lt_of_le h1 hb.size, c, t, (hb.block _ h1).trans h2⟩, h.ne⟩
theorem Sent.is53 {w : World} {s : Nat → Addr} (h : Sent w s) (a n : Int) (j k : Nat) (hj : j < 4) (hk : k < 4) (hne : k ≠ j) :
    Hid (Calls Tryd.prog 53 #[.iface 92 (.agg #[.int .u64 a, .int .i64 n, .iface 110 (.pointer (some (s k)))]), .iface 110 (.pointer (some (s j))), .bool true] w fun e w' => e = .returned (.bool false) ∧ Below w.heap.size w w') := by
  obtain ⟨h1, c1, t1, e1⟩ := h.blk j hj
  obtain ⟨h2, c2, t2, e2⟩ := h.blk k hk
  exact is53_other a n (s j) (s k) c2 c1 t2 t1 w (h.ne k j hk hj hne) e2 e1 h2 h1

set_option maxHeartbeats 400000 in
theorem number_nil (w : World) :
    Calls Tryd.prog 43 #[.nilIface] w fun e w' => e = .returned (.int .i64 0) ∧ w = w' := by
  go_enter Tryd.func43, Tryd.ntmps43
  go_wp2
  go_ret
  exact ⟨rfl, rfl⟩

def numOf (k : Nat) : Int := if k = 1 then 20 else if k = 2 then 21 else 2
set_option maxHeartbeats 400000 in
theorem number_range (s : Nat → Addr) (a n : Int) (w : World) (hs : Sent w s) :
    Calls Tryd.prog 43 #[.iface 92 (.agg #[.int .u64 a, .int .i64 n, .iface 110 (.pointer (some (s 1)))])] w fun e w' => e = .returned (.int .i64 20) ∧ Below w.heap.size w w' := by
  have g1 := hs.glob 1 (by omega)
  have HS := Lib.hid hs
  have hz : 1 < w.heap.size := by have := hs.size; omega
  clear hs
  go_enter Tryd.func43, Tryd.ntmps43
  go_wp2_with (go_at_call 51; refine (is_fault true _ _ _ _ _ (is53_same _ _ _ _)).mono ?_; rintro e w1 ⟨rfl, hb⟩)
  go_ret
  exact ⟨rfl, hb⟩
set_option maxHeartbeats 400000 in
theorem number_perm (s : Nat → Addr) (a n : Int) (w : World) (hs : Sent w s) :
    Calls Tryd.prog 43 #[.iface 92 (.agg #[.int .u64 a, .int .i64 n, .iface 110 (.pointer (some (s 2)))])] w fun e w' => e = .returned (.int .i64 21) ∧ Below w.heap.size w w' := by
  have g1 := hs.glob 1 (by omega)
  have g2 := hs.glob 2 (by omega)
  have HS := Lib.hid hs
  have hz : 1 < w.heap.size := by have := hs.size; omega
  have hz2 : 2 < w.heap.size := by have := hs.size; omega
  clear hs
  go_enter Tryd.func43, Tryd.ntmps43
  go_wp2_with fail
  refine (is_fault false _ _ _ _ _ (HS.out.is53 _ _ 1 2 (by omega) (by omega) (by omega))).mono ?_
  rintro e w1 ⟨rfl, hb⟩
  obtain ⟨hc, hf⟩ := bcell hb
  go_wp2_with fail
  refine (is_fault true _ _ _ _ _ (is53_same _ _ _ _)).mono ?_
  rintro e w2 ⟨rfl, hb2⟩
  go_wp2_with fail
  go_ret
  exact ⟨rfl, below_next hb hb2⟩
set_option maxHeartbeats 400000 in
theorem number_arg (s : Nat → Addr) (k : Nat) (hk : k < 4) (hk1 : k ≠ 1) (hk2 : k ≠ 2) (a n : Int) (w : World) (hs : Sent w s) :
    Calls Tryd.prog 43 #[.iface 92 (.agg #[.int .u64 a, .int .i64 n, .iface 110 (.pointer (some (s k)))])] w fun e w' => e = .returned (.int .i64 2) ∧ Below w.heap.size w w' := by
  have g1 := hs.glob 1 (by omega)
  have g2 := hs.glob 2 (by omega)
  have HS := Lib.hid hs
  have hz : 1 < w.heap.size := by have := hs.size; omega
  have hz2 : 2 < w.heap.size := by have := hs.size; omega
  clear hs
  go_enter Tryd.func43, Tryd.ntmps43
  go_wp2_with fail
  refine (is_fault false _ _ _ _ _ (HS.out.is53 _ _ 1 k (by omega) hk hk1)).mono ?_
  rintro e w1 ⟨rfl, hb⟩
  obtain ⟨hc, hf⟩ := bcell hb
  go_wp2_with fail
  refine (is_fault false _ _ _ _ _ ((HS.out.below hb).is53 _ _ 2 k (by omega) hk hk2)).mono ?_
  rintro e w2 ⟨rfl, hb2⟩
  go_wp2_with fail
  go_ret
  exact ⟨rfl, below_next hb hb2⟩
theorem number_any (s : Nat → Addr) (k : Nat) (hk : k < 4) (a n : Int) (w : World) (hs : Sent w s) :
    Calls Tryd.prog 43 #[.iface 92 (.agg #[.int .u64 a, .int .i64 n, .iface 110 (.pointer (some (s k)))])] w fun e w' => e = .returned (.int .i64 (numOf k)) ∧ Below w.heap.size w w' := by
  unfold numOf
  by_cases h1 : k = 1
  · subst h1; exact number_range s a n w hs
  · by_cases h2 : k = 2
    · subst h2; exact number_perm s a n w hs
    · rw [if_neg h1, if_neg h2]; exact number_arg s k hk h1 h2 a n w hs
end Go.Proofs.YtgchdiocbllppaaDoor
