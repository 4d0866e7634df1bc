/- Contracts of find: where a span lies, or why it may not be accessed. -/
import Derived.Test.YtgchdiocbllppaaDoorB2
namespace Go.Proofs.YtgchdiocbllppaaDoor
open Go.RowKit M

theorem below3_blocks (w : World) (o1 o2 o3 : Obj) : Below w.heap.size w (((w.alloc o1).alloc o2).alloc o3) := (((Below.refl _ _).alloc (Nat.le_refl _) _).alloc (by simp) _).alloc (by simp; omega) _
theorem Sent.glob3 {w : World} {s : Nat → Addr} (h : Sent w s) (g : Nat) (hg : g < 4) : ∀ o1 o2 o3, (((w.alloc o1).alloc o2).alloc o3).cell? ⟨g, 0, none⟩ = some (.iface 110 (.pointer (some (s g)))) :=
  fun o1 o2 o3 => (h.below (below3_blocks w o1 o2 o3)).glob g hg
set_option maxHeartbeats 1000000 in
theorem find_count (s : Nat → Addr) (c : Int) (wr : Bool) (p : Option Addr) (len cap : Nat) (a n : Int) (write : Bool) (w : World) (hs : Sent w s) (hn : inB n 1 = false) :
    Calls Tryd.prog 44 #[.agg #[.int .i64 c, .bool wr, .slice p len cap], .agg #[.int .u64 a, .int .i64 n], .bool write] w fun e w' =>
      e = .returned (.tuple #[.agg #[.int .i64 0, .int .i64 0], .iface 92 (.agg #[.int .u64 a, .int .i64 n, .iface 110 (.pointer (some (s 3)))])]) ∧ Below w.heap.size w w' := by
  have g3 := hs.glob3 3 (by omega)
  have HN := Lib.hid hn
  clear hs hn
  go_enter Tryd.func44, Tryd.ntmps44
  go_wp2_with (go_at_call 40; refine (inB_is _ _ _ HN.out).mono ?_; rintro e w' ⟨rfl, rfl⟩)
  go_region
  all_goals
    go_wp2
    refine bodyPost_ret (v := .tuple #[.agg #[.int .i64 0, .int .i64 0], .iface 92 (.agg #[.int .u64 a, .int .i64 n, .iface 110 (.pointer (some (s 3)))])]) (by simp [results, Tryd.results44, go_sem]) rfl ⟨rfl, ?_⟩
    exact (below3_blocks w _ _ _).drew

theorem three_in {w w1 : World} {o1 o2 o3 : Obj} (h : Below (((w.alloc o1).alloc o2).alloc o3).heap.size (((w.alloc o1).alloc o2).alloc o3) w1) : w.heap.size < w1.heap.size ∧ w.heap.size + 1 < w1.heap.size ∧ w.heap.size + 1 + 1 < w1.heap.size := by
  have := h.size; simp at this; omega
theorem below3 {w w1 : World} {o1 o2 o3 : Obj} (h : Below (((w.alloc o1).alloc o2).alloc o3).heap.size (((w.alloc o1).alloc o2).alloc o3) w1) : Below w.heap.size w w1 :=
  (below3_blocks w o1 o2 o3).trans (h.mono (by simp; omega))
theorem area2_is {c : Int} {wr : Bool} {ms : List Ar} {len : Nat} {r : Int} {v : Ar} {b : Bool} (h : areaR c wr ms len r = v) (h' : areaB c ms len r = b) (p : Option Addr) (cap : Nat) (w : World) (hm : MapsAt w p len ms) :
    Calls Tryd.prog 10 #[.agg #[.int .i64 c, .bool wr, .slice p len cap], .int .i64 r] w fun e w' =>
      e = .returned (.tuple #[.agg #[.int .i64 v.size, .bool v.write], .bool b]) ∧ Below w.heap.size w w' := by
  rw [← h, ← h']; exact area2_any c wr p len cap ms r w hm
theorem Sent.glob1 {w : World} {s : Nat → Addr} (h : Sent w s) (g : Nat) (hg : g < 4) : ∀ o, (w.alloc o).cell? ⟨g, 0, none⟩ = some (.iface 110 (.pointer (some (s g)))) :=
  fun o => (h.below ((Below.refl _ _).alloc (Nat.le_refl _) o)).glob g hg
theorem find_end {w w4 : World} (hb : Below w.heap.size w w4) (o : Obj) (x y : Value) : Below w.heap.size w (((w4.setCell ⟨w.heap.size + 1 + 1, 0, none⟩ x).setCell ⟨w.heap.size + 1 + 1, 1, none⟩ y).alloc o) :=
  ((hb.setCell (p := ⟨w.heap.size + 1 + 1, 0, none⟩) (by show _ ≤ w.heap.size + 1 + 1; omega) x).setCell (p := ⟨w.heap.size + 1 + 1, 1, none⟩) (by show _ ≤ w.heap.size + 1 + 1; omega) y).alloc (by simp [World.setCell]; exact hb.size) o
theorem Sent.globS {w w4 : World} {s : Nat → Addr} (h : Sent w s) (hb : Below w.heap.size w w4) (g : Nat) (hg : g < 4) : ∀ o x y, (((w4.setCell ⟨w.heap.size + 1 + 1, 0, none⟩ x).setCell ⟨w.heap.size + 1 + 1, 1, none⟩ y).alloc o).cell? ⟨g, 0, none⟩ = some (.iface 110 (.pointer (some (s g)))) :=
  fun o x y => (h.below (find_end hb o x y)).glob g hg
set_option maxHeartbeats 1000000 in
theorem find_none (s : Nat → Addr) (c : Int) (wr : Bool) (p : Option Addr) (len cap : Nat) (ms : List Ar) (a n : Int) (write : Bool) (w : World) (hs : Sent w s) (hm : MapsAt w p len ms) (hn : inB n 1 = true)
    (ha : 0 ≤ a ∧ a < 18446744073709551616) (v : Ar) (hA : areaR c wr ms len (regOf a) = v) (hB : areaB c ms len (regOf a) = false) :
    Calls Tryd.prog 44 #[.agg #[.int .i64 c, .bool wr, .slice p len cap], .agg #[.int .u64 a, .int .i64 n], .bool write] w fun e w' =>
      e = .returned (.tuple #[Value.agg #[.int .i64 0, .int .i64 0], .iface 92 (.agg #[.int .u64 a, .int .i64 n, .iface 110 (.pointer (some (s 1)))])]) ∧ Below w.heap.size w w' := by
  have hn2 := of_inB hn
  have HN := Lib.hid hn
  have HA := Lib.hid (area2_is hA hB p cap)
  have HM := Lib.hid hm
  have HS := Lib.hid hs
  have HAA := Lib.hid ha
  have ho : 0 ≤ offOf a ∧ offOf a < 4294967296 := by unfold offOf; omega
  have hrr : 0 ≤ regOf a ∧ regOf a < 4294967296 := by unfold regOf; omega
  clear hs hn hA hB hm ha
  go_enter Tryd.func44, Tryd.ntmps44
  go_wp2_with (first
    | (go_at_call 40; refine (inB_is _ _ _ HN.out).mono ?_; rintro e w' ⟨rfl, rfl⟩)
    | (go_at_call 21; refine (split_any a _ HAA.out.1 HAA.out.2).mono ?_; rintro e w' ⟨rfl, rfl⟩)
    | (go_at_call 10; refine (HA.out _ (((HM.out.alloc _).alloc _).alloc _)).mono ?_; rintro e w4 ⟨rfl, hb⟩; obtain ⟨hc, hf⟩ := bcell hb; obtain ⟨z1, z2, z3⟩ := three_in hb; have G := (HS.out.below (below3 hb)).glob1 1 (by omega); have G2 := HS.out.globS (below3 hb) 1 (by omega)))
  go_region
  all_goals
    go_wp2
    refine bodyPost_ret (v := .tuple #[.agg #[.int .i64 0, .int .i64 0], .iface 92 (.agg #[.int .u64 a, .int .i64 n, .iface 110 (.pointer (some (s 1)))])]) (by simp [results, Tryd.results44, go_sem, hc, z3]) rfl ⟨rfl, ?_⟩
    exact (find_end (below3 hb) _ _ _).drew
set_option maxHeartbeats 1000000 in
theorem find_far (s : Nat → Addr) (c : Int) (wr : Bool) (p : Option Addr) (len cap : Nat) (ms : List Ar) (a n : Int) (write : Bool) (w : World) (hs : Sent w s) (hm : MapsAt w p len ms) (hn : inB n 1 = true)
    (ha : 0 ≤ a ∧ a < 18446744073709551616) (v : Ar) (hA : areaR c wr ms len (regOf a) = v) (hB : areaB c ms len (regOf a) = true) (hv : 0 ≤ v.size ∧ v.size ≤ 4096) (hr : v.size - n < offOf a) :
    Calls Tryd.prog 44 #[.agg #[.int .i64 c, .bool wr, .slice p len cap], .agg #[.int .u64 a, .int .i64 n], .bool write] w fun e w' =>
      e = .returned (.tuple #[Value.agg #[.int .i64 0, .int .i64 0], .iface 92 (.agg #[.int .u64 a, .int .i64 n, .iface 110 (.pointer (some (s 1)))])]) ∧ Below w.heap.size w w' := by
  have hn2 := of_inB hn
  have HN := Lib.hid hn
  have HA := Lib.hid (area2_is hA hB p cap)
  have HM := Lib.hid hm
  have HS := Lib.hid hs
  have HAA := Lib.hid ha
  have ho : 0 ≤ offOf a ∧ offOf a < 4294967296 := by unfold offOf; omega
  have hrr : 0 ≤ regOf a ∧ regOf a < 4294967296 := by unfold regOf; omega
  clear hs hn hA hB hm ha
  go_enter Tryd.func44, Tryd.ntmps44
  go_wp2_with (first
    | (go_at_call 40; refine (inB_is _ _ _ HN.out).mono ?_; rintro e w' ⟨rfl, rfl⟩)
    | (go_at_call 21; refine (split_any a _ HAA.out.1 HAA.out.2).mono ?_; rintro e w' ⟨rfl, rfl⟩)
    | (go_at_call 10; refine (HA.out _ (((HM.out.alloc _).alloc _).alloc _)).mono ?_; rintro e w4 ⟨rfl, hb⟩; obtain ⟨hc, hf⟩ := bcell hb; obtain ⟨z1, z2, z3⟩ := three_in hb; have G := (HS.out.below (below3 hb)).glob1 1 (by omega); have G2 := HS.out.globS (below3 hb) 1 (by omega)))
  go_region
  all_goals
    go_wp2
    refine bodyPost_ret (v := .tuple #[.agg #[.int .i64 0, .int .i64 0], .iface 92 (.agg #[.int .u64 a, .int .i64 n, .iface 110 (.pointer (some (s 1)))])]) (by simp [results, Tryd.results44, go_sem, hc, z3]) rfl ⟨rfl, ?_⟩
    exact (find_end (below3 hb) _ _ _).drew
set_option maxHeartbeats 1000000 in
theorem find_perm (s : Nat → Addr) (c : Int) (wr : Bool) (p : Option Addr) (len cap : Nat) (ms : List Ar) (a n : Int) (write : Bool) (w : World) (hs : Sent w s) (hm : MapsAt w p len ms) (hn : inB n 1 = true)
    (ha : 0 ≤ a ∧ a < 18446744073709551616) (v : Ar) (hA : areaR c wr ms len (regOf a) = v) (hB : areaB c ms len (regOf a) = true) (hv : 0 ≤ v.size ∧ v.size ≤ 4096) (hr : offOf a ≤ v.size - n) (hw : write = true) (hvw : v.write = false) :
    Calls Tryd.prog 44 #[.agg #[.int .i64 c, .bool wr, .slice p len cap], .agg #[.int .u64 a, .int .i64 n], .bool write] w fun e w' =>
      e = .returned (.tuple #[Value.agg #[.int .i64 0, .int .i64 0], .iface 92 (.agg #[.int .u64 a, .int .i64 n, .iface 110 (.pointer (some (s 2)))])]) ∧ Below w.heap.size w w' := by
  have hn2 := of_inB hn
  have HN := Lib.hid hn
  have HA := Lib.hid (area2_is hA hB p cap)
  have HM := Lib.hid hm
  have HS := Lib.hid hs
  have HAA := Lib.hid ha
  have ho : 0 ≤ offOf a ∧ offOf a < 4294967296 := by unfold offOf; omega
  have hrr : 0 ≤ regOf a ∧ regOf a < 4294967296 := by unfold regOf; omega
  clear hs hn hA hB hm ha
  subst hw
  go_enter Tryd.func44, Tryd.ntmps44
  go_wp2_with (first
    | (go_at_call 40; refine (inB_is _ _ _ HN.out).mono ?_; rintro e w' ⟨rfl, rfl⟩)
    | (go_at_call 21; refine (split_any a _ HAA.out.1 HAA.out.2).mono ?_; rintro e w' ⟨rfl, rfl⟩)
    | (go_at_call 10; refine (HA.out _ (((HM.out.alloc _).alloc _).alloc _)).mono ?_; rintro e w4 ⟨rfl, hb⟩; obtain ⟨hc, hf⟩ := bcell hb; obtain ⟨z1, z2, z3⟩ := three_in hb; have G := (HS.out.below (below3 hb)).glob1 2 (by omega); have G2 := HS.out.globS (below3 hb) 2 (by omega)))
  go_region
  all_goals
    go_wp2
    refine bodyPost_ret (v := .tuple #[.agg #[.int .i64 0, .int .i64 0], .iface 92 (.agg #[.int .u64 a, .int .i64 n, .iface 110 (.pointer (some (s 2)))])]) (by simp [results, Tryd.results44, go_sem, hc, z3]) rfl ⟨rfl, ?_⟩
    exact (find_end (below3 hb) _ _ _).drew
set_option maxHeartbeats 1000000 in
theorem find_ok (s : Nat → Addr) (c : Int) (wr : Bool) (p : Option Addr) (len cap : Nat) (ms : List Ar) (a n : Int) (write : Bool) (w : World) (hs : Sent w s) (hm : MapsAt w p len ms) (hn : inB n 1 = true)
    (ha : 0 ≤ a ∧ a < 18446744073709551616) (v : Ar) (hA : areaR c wr ms len (regOf a) = v) (hB : areaB c ms len (regOf a) = true) (hv : 0 ≤ v.size ∧ v.size ≤ 4096) (hr : offOf a ≤ v.size - n) (hw : write = false ∨ v.write = true) :
    Calls Tryd.prog 44 #[.agg #[.int .i64 c, .bool wr, .slice p len cap], .agg #[.int .u64 a, .int .i64 n], .bool write] w fun e w' =>
      e = .returned (.tuple #[Value.agg #[.int .i64 (regOf a - 1), .int .i64 (offOf a)], .nilIface]) ∧ Below w.heap.size w w' := by
  have hn2 := of_inB hn
  have HN := Lib.hid hn
  have HA := Lib.hid (area2_is hA hB p cap)
  have HM := Lib.hid hm
  have HS := Lib.hid hs
  have HAA := Lib.hid ha
  have ho : 0 ≤ offOf a ∧ offOf a < 4294967296 := by unfold offOf; omega
  have hrr : 0 ≤ regOf a ∧ regOf a < 4294967296 := by unfold regOf; omega
  clear hs hn hA hB hm ha
  go_enter Tryd.func44, Tryd.ntmps44
  rcases hw with hw | hw
  · subst hw
    go_wp2_with (first
      | (go_at_call 40; refine (inB_is _ _ _ HN.out).mono ?_; rintro e w' ⟨rfl, rfl⟩)
      | (go_at_call 21; refine (split_any a _ HAA.out.1 HAA.out.2).mono ?_; rintro e w' ⟨rfl, rfl⟩)
      | (go_at_call 10; refine (HA.out _ (((HM.out.alloc _).alloc _).alloc _)).mono ?_; rintro e w4 ⟨rfl, hb⟩; obtain ⟨hc, hf⟩ := bcell hb; obtain ⟨z1, z2, z3⟩ := three_in hb))
    refine bodyPost_ret (v := .tuple #[.agg #[.int .i64 (regOf a - 1), .int .i64 (offOf a)], .nilIface]) (by simp [results, Tryd.results44, go_sem, hc, z3]) rfl ⟨rfl, ?_⟩
    exact find_end (below3 hb) _ _ _
  · go_wp2_with (first
      | (go_at_call 40; refine (inB_is _ _ _ HN.out).mono ?_; rintro e w' ⟨rfl, rfl⟩)
      | (go_at_call 21; refine (split_any a _ HAA.out.1 HAA.out.2).mono ?_; rintro e w' ⟨rfl, rfl⟩)
      | (go_at_call 10; refine (HA.out _ (((HM.out.alloc _).alloc _).alloc _)).mono ?_; rintro e w4 ⟨rfl, hb⟩; obtain ⟨hc, hf⟩ := bcell hb; obtain ⟨z1, z2, z3⟩ := three_in hb))
    all_goals
      refine bodyPost_ret (v := .tuple #[.agg #[.int .i64 (regOf a - 1), .int .i64 (offOf a)], .nilIface]) (by simp [results, Tryd.results44, go_sem, hc, z3]) rfl ⟨rfl, ?_⟩
      exact find_end (below3 hb) _ _ _
end Go.Proofs.YtgchdiocbllppaaDoor
