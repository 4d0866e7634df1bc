/- Contracts of errors.Is, number and find: an access's faults, told as numbers. -/
import Derived.Test.YthckkdkijajadaaDoorMA
import Derived.LaidEql
import Derived.Stop.Asserts
import Derived.RowKitTokens
import Derived.RegionTactic
import Derived.ChangeAlike

/- Contracts of errors.Is, number and find: an access's faults, told as numbers. -/
namespace Go.Proofs.YthckkdkijajadaaDoor
open Go.RowKit M Go.Extern.Stop Go.Stop Go.Extern

def comparableRow : Array Value → Sem Value := Extern.ReflectliteType.method fun t => do Go.Extern.Rtype.noPackHeld "Comparable" t; pure (.bool (← typeInfo t).comparable)
theorem isTypeOf (v : Value) (w : World) : (Extern.ReflectliteType.typeOf #[.iface 146 v]).run Tryd.prog w = .ok (.iface 133 (.agg #[.pointer (some ⟨9, 146, none⟩)])) w := by kernel_rfl
theorem isComparable (w : World) : (comparableRow #[.agg #[.pointer (some ⟨9, 146, none⟩)]]).run Tryd.prog w = .ok (.bool true) w := by kernel_rfl
theorem isMethodComparable (v : Value) (w : World) : (Go.method 283 133 v "Comparable").run Tryd.prog w = .ok (91, v) w := by kernel_rfl
theorem isComp : (Tryd.prog.info? 146).map (·.comparable) = some true := by kernel_rfl
theorem isSz : (Tryd.prog.info? 171).map (·.size) = some 1 := by kernel_rfl
theorem noIsE (v : Value) (xT : TypeId) (w : World) : (Instr.typeAssert (.iface 146 v) xT 135 true).run Tryd.prog w = .ok (.tuple #[.nilIface, .bool false]) w := run_typeAssert_lacksB Tryd.underlying135 (by kernel_rfl) (by kernel_rfl) v xT w
theorem noUnwrapE (v : Value) (xT : TypeId) (w : World) : (Instr.typeAssert (.iface 146 v) xT 138 true).run Tryd.prog w = .ok (.tuple #[.nilIface, .bool false]) w := run_typeAssert_lacksB Tryd.underlying138 (by kernel_rfl) (by kernel_rfl) v xT w
theorem noUnwrapsE (v : Value) (xT : TypeId) (w : World) : (Instr.typeAssert (.iface 146 v) xT 140 true).run Tryd.prog w = .ok (.tuple #[.nilIface, .bool false]) w := run_typeAssert_lacksB Tryd.underlying140 (by kernel_rfl) (by kernel_rfl) v xT w
theorem noIsW (v : Value) (xT : TypeId) (w : World) : (Instr.typeAssert (.iface 130 v) xT 135 true).run Tryd.prog w = .ok (.tuple #[.nilIface, .bool false]) w := run_typeAssert_lacksB Tryd.underlying135 (by kernel_rfl) (by kernel_rfl) v xT w
theorem hasUnwrapW (v : Value) (xT : TypeId) (w : World) : (Instr.typeAssert (.iface 130 v) xT 138 true).run Tryd.prog w = .ok (.tuple #[.iface 130 v, .bool true]) w := run_typeAssert_hasB Tryd.underlying138 (by kernel_rfl) v xT w
theorem methodUnwrap (v : Value) (w : World) : (Go.method 283 130 v "Unwrap").run Tryd.prog w = .ok (87, v) w := by kernel_rfl

set_option maxHeartbeats 400000 in
theorem unwrap_any (a n : Int) (y : Value) (w : World) (hy : ∃ t v, y = .iface t v) :
    Calls Tryd.prog 87 #[.agg #[.int .u64 a, .int .i64 n, y]] w fun e w' => e = .returned y ∧ Below w.heap.size w w' := by
  obtain ⟨t, v, rfl⟩ := hy
  go_enter Tryd.func87, Tryd.ntmps87
  go_wp2
  go_ret
  exact ⟨rfl, (Below.refl _ _).alloc (Nat.le_refl _) _⟩

set_option maxRecDepth 100000 in
set_option maxHeartbeats 1000000 in
theorem is53_same (a n : Int) (b : Addr) (w : World) :
    Calls Tryd.prog 58 #[.iface 130 (.agg #[.int .u64 a, .int .i64 n, .iface 146 (.pointer (some b))]), .iface 146 (.pointer (some b)), .bool true] w fun e w' => e = .returned (.bool true) ∧ Below w.heap.size w w' := by
  obtain ⟨i, hi, hcmp⟩ := Option.map_eq_some_iff.1 isComp
  obtain ⟨j, hj, hjs⟩ := Option.map_eq_some_iff.1 isSz
  have nE := noIsE
  have uE := noUnwrapE
  have vE := noUnwrapsE
  have nW := noIsW
  have uW := hasUnwrapW
  have mU := methodUnwrap
  have hty := fun w' => run_eql_iface_types (P := Tryd.prog) 130 146 (.agg #[.int .u64 a, .int .i64 n, .iface 146 (.pointer (some b))]) (.pointer (some b)) Tryd.underlying76 (by decide) w'
  have heq := fun w' => run_eql_iface_ptr_same (P := Tryd.prog) w' b Tryd.underlying76 Tryd.underlying146 hi hcmp hj
  clear hi hcmp hj hjs
  go_enter Tryd.func58, Tryd.ntmps58
  go_wp2
  refine wp_loop_rounds 2 ?_
  rw [rounds_succ]
  go_wp2_with (go_at_call 87; refine (unwrap_any _ _ _ _ ⟨_, _, rfl⟩).mono ?_; rintro e w1 ⟨rfl, hb⟩)
  rw [rounds_succ]
  go_wp2
  go_ret
  exact ⟨rfl, hb⟩
set_option maxRecDepth 100000 in
set_option maxHeartbeats 1000000 in
theorem is53_other (a n : Int) (b c : Addr) (cc cb : Array Value) (tc tb : TypeId) (w : World) (hne : c ≠ b) (hc : w.heap[c.block]? = some (.cells cc tc (0, 0))) (hb : w.heap[b.block]? = some (.cells cb tb (0, 0))) (hcl : c.block < w.heap.size) (hbl : b.block < w.heap.size) :
    Calls Tryd.prog 58 #[.iface 130 (.agg #[.int .u64 a, .int .i64 n, .iface 146 (.pointer (some c))]), .iface 146 (.pointer (some b)), .bool true] w fun e w' => e = .returned (.bool false) ∧ Below w.heap.size w w' := by
  obtain ⟨i, hi, hcmp⟩ := Option.map_eq_some_iff.1 isComp
  obtain ⟨j, hj, hjs⟩ := Option.map_eq_some_iff.1 isSz
  have nE := noIsE
  have uE := noUnwrapE
  have vE := noUnwrapsE
  have nW := noIsW
  have uW := hasUnwrapW
  have mU := methodUnwrap
  have hty := fun w' => run_eql_iface_types (P := Tryd.prog) 130 146 (.agg #[.int .u64 a, .int .i64 n, .iface 146 (.pointer (some c))]) (.pointer (some b)) Tryd.underlying76 (by decide) w'
  have heq := fun w' (hc : w'.heap[c.block]? = some (.cells cc tc (0, 0))) (hb : w'.heap[b.block]? = some (.cells cb tb (0, 0))) => run_eql_iface_ptr_other (P := Tryd.prog) w' Tryd.underlying76 Tryd.underlying146 hi hcmp hj (by rw [hjs]; decide) hne hc hb
  have HE := Lib.hid heq
  clear heq
  clear hi hcmp hj hjs
  go_enter Tryd.func58, Tryd.ntmps58
  go_wp2
  refine wp_loop_rounds 2 ?_
  rw [rounds_succ]
  go_wp2_with (go_at_call 87; refine (unwrap_any _ _ _ _ ⟨_, _, rfl⟩).mono ?_; rintro e w1 ⟨rfl, hb'⟩; have heq := HE.out w1 ((hb'.block _ hcl).trans hc) ((hb'.block _ hbl).trans hb))
  rw [rounds_succ]
  go_wp2
  go_ret
  exact ⟨rfl, hb'⟩

/-- errors.Is(nil, x). -/
theorem is_nil (b : Addr) (w : World) :
    Calls Tryd.prog 47 #[.nilIface, .iface 146 (.pointer (some b))] w fun e w' => e = .returned (.bool false) ∧ w = w' := by
  have hn := run_eql_iface_nil_left (P := Tryd.prog) w 146 (.pointer (some b)) Tryd.underlying76
  go_enter Tryd.func47, Tryd.ntmps47
  go_wp2
  go_ret
  exact ⟨rfl, rfl⟩

set_option maxRecDepth 100000 in
set_option maxHeartbeats 1000000 in
theorem is_fault (v : Bool) (a n : Int) (b c : Addr) (w : World) (h : Hid (Calls Tryd.prog 58 #[.iface 130 (.agg #[.int .u64 a, .int .i64 n, .iface 146 (.pointer (some c))]), .iface 146 (.pointer (some b)), .bool true] w fun e w' => e = .returned (.bool v) ∧ Below w.heap.size w w')) :
    Calls Tryd.prog 47 #[.iface 130 (.agg #[.int .u64 a, .int .i64 n, .iface 146 (.pointer (some c))]), .iface 146 (.pointer (some b))] w fun e w' => e = .returned (.bool v) ∧ Below w.heap.size w w' := by
  have h8 := @run_callFunc_extern Tryd.prog 57 _ Extern.ReflectliteType.typeOf Tryd.func57 (by kernel_rfl) (by kernel_rfl) (by kernel_rfl) (by kernel_rfl)
  have h32 := @run_callFunc_extern Tryd.prog 91 _ comparableRow Tryd.func91 (by kernel_rfl) (by kernel_rfl) (by kernel_rfl) (by kernel_rfl)
  have tT := isTypeOf
  have cT := isComparable
  have mR := isMethodComparable
  go_enter Tryd.func47, Tryd.ntmps47
  go_wp2_with (go_at_call 58; refine h.out.mono ?_; rintro e w1 ⟨rfl, hb⟩)
  go_ret
  exact ⟨rfl, hb⟩
end Go.Proofs.YthckkdkijajadaaDoor

/- Contracts of number and find: why an access may not be, told as numbers. -/
namespace Go.Proofs.YthckkdkijajadaaDoor
open Go.RowKit M

/-- where the four errors' variables lie -/
def gN : Nat → Nat
  | 0 => 8
  | 1 => 6
  | 2 => 7
  | _ => 5
/-- the four errors lie in their variables, each at an address of its own -/
structure Sent (w : World) (s : Nat → Addr) : Prop where
  glob : ∀ g, g < 4 → w.cell? ⟨gN g, 0, none⟩ = some (.iface 146 (.pointer (some (s g))))
  size : ∀ g, gN g < w.heap.size
  blk : ∀ g, g < 4 → (s g).block < w.heap.size ∧ ∃ c t, w.heap[(s g).block]? = some (.cells c t (0, 0))
  ne : ∀ g h, g < 4 → h < 4 → g ≠ h → s g ≠ s h
theorem Sent.below {w w' : World} {s : Nat → Addr} (h : Sent w s) (hb : Below w.heap.size w w') : Sent w' s :=
  ⟨fun g hg => (hb.cell (p := ⟨gN g, 0, none⟩) (h.size g)).trans (h.glob g hg), fun g => Nat.lt_of_lt_of_le (h.size g) hb.size,
    fun g hg => by
      obtain ⟨h1, c, t, h2⟩ := h.blk g hg
      exact ⟨Nat.lt_of_lt_of_le h1 hb.size, c, t, (hb.block _ h1).trans h2⟩, h.ne⟩
theorem Sent.is53 {w : World} {s : Nat → Addr} (h : Sent w s) (a n : Int) (j k : Nat) (hj : j < 4) (hk : k < 4) (hne : k ≠ j) :
    Hid (Calls Tryd.prog 58 #[.iface 130 (.agg #[.int .u64 a, .int .i64 n, .iface 146 (.pointer (some (s k)))]), .iface 146 (.pointer (some (s j))), .bool true] w fun e w' => e = .returned (.bool false) ∧ Below w.heap.size w w') := by
  obtain ⟨h1, c1, t1, e1⟩ := h.blk j hj
  obtain ⟨h2, c2, t2, e2⟩ := h.blk k hk
  exact is53_other a n (s j) (s k) c2 c1 t2 t1 w (h.ne k j hk hj hne) e2 e1 h2 h1

set_option maxHeartbeats 400000 in
theorem number_nil (w : World) :
    Calls Tryd.prog 54 #[.nilIface] w fun e w' => e = .returned (.int .i64 0) ∧ w = w' := by
  go_enter Tryd.func54, Tryd.ntmps54
  go_wp2
  go_ret
  exact ⟨rfl, rfl⟩

def numOf (k : Nat) : Int := if k = 1 then 20 else if k = 2 then 21 else 2
set_option maxHeartbeats 400000 in
theorem number_range (s : Nat → Addr) (a n : Int) (w : World) (hs : Sent w s) :
    Calls Tryd.prog 54 #[.iface 130 (.agg #[.int .u64 a, .int .i64 n, .iface 146 (.pointer (some (s 1)))])] w fun e w' => e = .returned (.int .i64 20) ∧ Below w.heap.size w w' := by
  have g1 : w.cell? ⟨6, 0, none⟩ = _ := hs.glob 1 (by omega)
  have HS := Lib.hid hs
  have hz : 6 < w.heap.size := hs.size 1
  clear hs
  go_enter Tryd.func54, Tryd.ntmps54
  go_wp2_with (go_at_call 47; refine (is_fault true _ _ _ _ _ (is53_same _ _ _ _)).mono ?_; rintro e w1 ⟨rfl, hb⟩)
  go_ret
  exact ⟨rfl, hb⟩
set_option maxHeartbeats 400000 in
theorem number_perm (s : Nat → Addr) (a n : Int) (w : World) (hs : Sent w s) :
    Calls Tryd.prog 54 #[.iface 130 (.agg #[.int .u64 a, .int .i64 n, .iface 146 (.pointer (some (s 2)))])] w fun e w' => e = .returned (.int .i64 21) ∧ Below w.heap.size w w' := by
  have g1 : w.cell? ⟨6, 0, none⟩ = _ := hs.glob 1 (by omega)
  have g2 : w.cell? ⟨7, 0, none⟩ = _ := hs.glob 2 (by omega)
  have HS := Lib.hid hs
  have hz : 6 < w.heap.size := hs.size 1
  have hz2 : 7 < w.heap.size := hs.size 2
  clear hs
  go_enter Tryd.func54, Tryd.ntmps54
  go_wp2_with fail
  refine (is_fault false _ _ _ _ _ (HS.out.is53 _ _ 1 2 (by omega) (by omega) (by omega))).mono ?_
  rintro e w1 ⟨rfl, hb⟩
  obtain ⟨hc, hf⟩ := bcell hb
  go_wp2_with fail
  refine (is_fault true _ _ _ _ _ (is53_same _ _ _ _)).mono ?_
  rintro e w2 ⟨rfl, hb2⟩
  go_wp2_with fail
  go_ret
  exact ⟨rfl, below_next hb hb2⟩
set_option maxHeartbeats 400000 in
theorem number_arg (s : Nat → Addr) (k : Nat) (hk : k < 4) (hk1 : k ≠ 1) (hk2 : k ≠ 2) (a n : Int) (w : World) (hs : Sent w s) :
    Calls Tryd.prog 54 #[.iface 130 (.agg #[.int .u64 a, .int .i64 n, .iface 146 (.pointer (some (s k)))])] w fun e w' => e = .returned (.int .i64 2) ∧ Below w.heap.size w w' := by
  have g1 : w.cell? ⟨6, 0, none⟩ = _ := hs.glob 1 (by omega)
  have g2 : w.cell? ⟨7, 0, none⟩ = _ := hs.glob 2 (by omega)
  have HS := Lib.hid hs
  have hz : 6 < w.heap.size := hs.size 1
  have hz2 : 7 < w.heap.size := hs.size 2
  clear hs
  go_enter Tryd.func54, Tryd.ntmps54
  go_wp2_with fail
  refine (is_fault false _ _ _ _ _ (HS.out.is53 _ _ 1 k (by omega) hk hk1)).mono ?_
  rintro e w1 ⟨rfl, hb⟩
  obtain ⟨hc, hf⟩ := bcell hb
  go_wp2_with fail
  refine (is_fault false _ _ _ _ _ ((HS.out.below hb).is53 _ _ 2 k (by omega) hk hk2)).mono ?_
  rintro e w2 ⟨rfl, hb2⟩
  go_wp2_with fail
  go_ret
  exact ⟨rfl, below_next hb hb2⟩
theorem number_any (s : Nat → Addr) (k : Nat) (hk : k < 4) (a n : Int) (w : World) (hs : Sent w s) :
    Calls Tryd.prog 54 #[.iface 130 (.agg #[.int .u64 a, .int .i64 n, .iface 146 (.pointer (some (s k)))])] w fun e w' => e = .returned (.int .i64 (numOf k)) ∧ Below w.heap.size w w' := by
  unfold numOf
  by_cases h1 : k = 1
  · subst h1; exact number_range s a n w hs
  · by_cases h2 : k = 2
    · subst h2; exact number_perm s a n w hs
    · rw [if_neg h1, if_neg h2]; exact number_arg s k hk h1 h2 a n w hs
end Go.Proofs.YthckkdkijajadaaDoor

/- Contracts of find: where a span lies, or why it may not be accessed. -/
namespace Go.Proofs.YthckkdkijajadaaDoor
open Go.RowKit M

theorem below3_blocks (w : World) (o1 o2 o3 : Obj) : Below w.heap.size w (((w.alloc o1).alloc o2).alloc o3) := (((Below.refl _ _).alloc (Nat.le_refl _) _).alloc (by simp) _).alloc (by simp; omega) _
theorem Sent.glob3 {w : World} {s : Nat → Addr} (h : Sent w s) (g : Nat) {G : Nat} (hG : gN g = G) (hg : g < 4) : ∀ o1 o2 o3, (((w.alloc o1).alloc o2).alloc o3).cell? ⟨G, 0, none⟩ = some (.iface 146 (.pointer (some (s g)))) :=
  fun o1 o2 o3 => by rw [← hG]; exact (h.below (below3_blocks w o1 o2 o3)).glob g hg
set_option maxHeartbeats 1000000 in
theorem find_count (s : Nat → Addr) (c : Int) (wr : Bool) (p : Option Addr) (len cap : Nat) (a n : Int) (write : Bool) (w : World) (hs : Sent w s) (hn : inB n 1 = false) :
    Calls Tryd.prog 53 #[.agg #[.int .i64 c, .bool wr, .slice p len cap], .agg #[.int .u64 a, .int .i64 n], .bool write] w fun e w' =>
      e = .returned (.tuple #[.agg #[.int .i64 0, .int .i64 0], .iface 130 (.agg #[.int .u64 a, .int .i64 n, .iface 146 (.pointer (some (s 3)))])]) ∧ Below w.heap.size w w' := by
  have g3 := hs.glob3 3 (G := 5) rfl (by omega)
  have HN := Lib.hid hn
  clear hs hn
  go_enter Tryd.func53, Tryd.ntmps53
  go_wp2_with (go_at_call 63; refine (inB_is _ _ _ HN.out).mono ?_; rintro e w' ⟨rfl, rfl⟩)
  go_region
  all_goals
    go_wp2
    refine bodyPost_ret (v := .tuple #[.agg #[.int .i64 0, .int .i64 0], .iface 130 (.agg #[.int .u64 a, .int .i64 n, .iface 146 (.pointer (some (s 3)))])]) (by simp [results, Tryd.results53, go_sem]) rfl ⟨rfl, ?_⟩
    exact (below3_blocks w _ _ _).drew

theorem three_in {w w1 : World} {o1 o2 o3 : Obj} (h : Below (((w.alloc o1).alloc o2).alloc o3).heap.size (((w.alloc o1).alloc o2).alloc o3) w1) : w.heap.size < w1.heap.size ∧ w.heap.size + 1 < w1.heap.size ∧ w.heap.size + 1 + 1 < w1.heap.size := by
  have := h.size; simp at this; omega
theorem below3 {w w1 : World} {o1 o2 o3 : Obj} (h : Below (((w.alloc o1).alloc o2).alloc o3).heap.size (((w.alloc o1).alloc o2).alloc o3) w1) : Below w.heap.size w w1 :=
  (below3_blocks w o1 o2 o3).trans (h.mono (by simp; omega))
theorem area2_is {c : Int} {wr : Bool} {ms : List Ar} {len : Nat} {r : Int} {v : Ar} {b : Bool} (h : areaR c wr ms len r = v) (h' : areaB c ms len r = b) (p : Option Addr) (cap : Nat) (w : World) (hm : MapsAt w p len ms) :
    Calls Tryd.prog 65 #[.agg #[.int .i64 c, .bool wr, .slice p len cap], .int .i64 r] w fun e w' =>
      e = .returned (.tuple #[.agg #[.int .i64 v.size, .bool v.write], .bool b]) ∧ Below w.heap.size w w' := by
  rw [← h, ← h']; exact area2_any c wr p len cap ms r w hm
theorem Sent.glob1 {w : World} {s : Nat → Addr} (h : Sent w s) (g : Nat) {G : Nat} (hG : gN g = G) (hg : g < 4) : ∀ o, (w.alloc o).cell? ⟨G, 0, none⟩ = some (.iface 146 (.pointer (some (s g)))) :=
  fun o => by rw [← hG]; exact (h.below ((Below.refl _ _).alloc (Nat.le_refl _) o)).glob g hg
theorem find_end {w w4 : World} (hb : Below w.heap.size w w4) (o : Obj) (x y : Value) : Below w.heap.size w (((w4.setCell ⟨w.heap.size + 1 + 1, 0, none⟩ x).setCell ⟨w.heap.size + 1 + 1, 1, none⟩ y).alloc o) :=
  ((hb.setCell (p := ⟨w.heap.size + 1 + 1, 0, none⟩) (by show _ ≤ w.heap.size + 1 + 1; omega) x).setCell (p := ⟨w.heap.size + 1 + 1, 1, none⟩) (by show _ ≤ w.heap.size + 1 + 1; omega) y).alloc (by simp [World.setCell]; exact hb.size) o
theorem Sent.globS {w w4 : World} {s : Nat → Addr} (h : Sent w s) (hb : Below w.heap.size w w4) (g : Nat) {G : Nat} (hG : gN g = G) (hg : g < 4) : ∀ o x y, (((w4.setCell ⟨w.heap.size + 1 + 1, 0, none⟩ x).setCell ⟨w.heap.size + 1 + 1, 1, none⟩ y).alloc o).cell? ⟨G, 0, none⟩ = some (.iface 146 (.pointer (some (s g)))) :=
  fun o x y => by rw [← hG]; exact (h.below (find_end hb o x y)).glob g hg
set_option maxHeartbeats 1000000 in
theorem find_none (s : Nat → Addr) (c : Int) (wr : Bool) (p : Option Addr) (len cap : Nat) (ms : List Ar) (a n : Int) (write : Bool) (w : World) (hs : Sent w s) (hm : MapsAt w p len ms) (hn : inB n 1 = true)
    (ha : 0 ≤ a ∧ a < 18446744073709551616) (v : Ar) (hA : areaR c wr ms len (regOf a) = v) (hB : areaB c ms len (regOf a) = false) :
    Calls Tryd.prog 53 #[.agg #[.int .i64 c, .bool wr, .slice p len cap], .agg #[.int .u64 a, .int .i64 n], .bool write] w fun e w' =>
      e = .returned (.tuple #[Value.agg #[.int .i64 0, .int .i64 0], .iface 130 (.agg #[.int .u64 a, .int .i64 n, .iface 146 (.pointer (some (s 1)))])]) ∧ Below w.heap.size w w' := by
  have hn2 := of_inB hn
  have HN := Lib.hid hn
  have HA := Lib.hid (area2_is hA hB p cap)
  have HM := Lib.hid hm
  have HS := Lib.hid hs
  have HAA := Lib.hid ha
  have ho : 0 ≤ offOf a ∧ offOf a < 4294967296 := by unfold offOf; omega
  have hrr : 0 ≤ regOf a ∧ regOf a < 4294967296 := by unfold regOf; omega
  clear hs hn hA hB hm ha
  go_enter Tryd.func53, Tryd.ntmps53
  go_wp2_with (first
    | (go_at_call 63; refine (inB_is _ _ _ HN.out).mono ?_; rintro e w' ⟨rfl, rfl⟩)
    | (go_at_call 64; refine (split_any a _ HAA.out.1 HAA.out.2).mono ?_; rintro e w' ⟨rfl, rfl⟩)
    | (go_at_call 65; refine (HA.out _ (((HM.out.alloc _).alloc _).alloc _)).mono ?_; rintro e w4 ⟨rfl, hb⟩; obtain ⟨hc, hf⟩ := bcell hb; obtain ⟨z1, z2, z3⟩ := three_in hb; have G := (HS.out.below (below3 hb)).glob1 1 (G := 6) rfl (by omega); have G2 := HS.out.globS (below3 hb) 1 (G := 6) rfl (by omega)))
  go_region
  all_goals
    go_wp2
    refine bodyPost_ret (v := .tuple #[.agg #[.int .i64 0, .int .i64 0], .iface 130 (.agg #[.int .u64 a, .int .i64 n, .iface 146 (.pointer (some (s 1)))])]) (by simp [results, Tryd.results53, go_sem, hc, z3]) rfl ⟨rfl, ?_⟩
    exact (find_end (below3 hb) _ _ _).drew
set_option maxHeartbeats 1000000 in
theorem find_far (s : Nat → Addr) (c : Int) (wr : Bool) (p : Option Addr) (len cap : Nat) (ms : List Ar) (a n : Int) (write : Bool) (w : World) (hs : Sent w s) (hm : MapsAt w p len ms) (hn : inB n 1 = true)
    (ha : 0 ≤ a ∧ a < 18446744073709551616) (v : Ar) (hA : areaR c wr ms len (regOf a) = v) (hB : areaB c ms len (regOf a) = true) (hv : 0 ≤ v.size ∧ v.size ≤ 4096) (hr : v.size - n < offOf a) :
    Calls Tryd.prog 53 #[.agg #[.int .i64 c, .bool wr, .slice p len cap], .agg #[.int .u64 a, .int .i64 n], .bool write] w fun e w' =>
      e = .returned (.tuple #[Value.agg #[.int .i64 0, .int .i64 0], .iface 130 (.agg #[.int .u64 a, .int .i64 n, .iface 146 (.pointer (some (s 1)))])]) ∧ Below w.heap.size w w' := by
  have hn2 := of_inB hn
  have HN := Lib.hid hn
  have HA := Lib.hid (area2_is hA hB p cap)
  have HM := Lib.hid hm
  have HS := Lib.hid hs
  have HAA := Lib.hid ha
  have ho : 0 ≤ offOf a ∧ offOf a < 4294967296 := by unfold offOf; omega
  have hrr : 0 ≤ regOf a ∧ regOf a < 4294967296 := by unfold regOf; omega
  clear hs hn hA hB hm ha
  go_enter Tryd.func53, Tryd.ntmps53
  go_wp2_with (first
    | (go_at_call 63; refine (inB_is _ _ _ HN.out).mono ?_; rintro e w' ⟨rfl, rfl⟩)
    | (go_at_call 64; refine (split_any a _ HAA.out.1 HAA.out.2).mono ?_; rintro e w' ⟨rfl, rfl⟩)
    | (go_at_call 65; refine (HA.out _ (((HM.out.alloc _).alloc _).alloc _)).mono ?_; rintro e w4 ⟨rfl, hb⟩; obtain ⟨hc, hf⟩ := bcell hb; obtain ⟨z1, z2, z3⟩ := three_in hb; have G := (HS.out.below (below3 hb)).glob1 1 (G := 6) rfl (by omega); have G2 := HS.out.globS (below3 hb) 1 (G := 6) rfl (by omega)))
  go_region
  all_goals
    go_wp2
    refine bodyPost_ret (v := .tuple #[.agg #[.int .i64 0, .int .i64 0], .iface 130 (.agg #[.int .u64 a, .int .i64 n, .iface 146 (.pointer (some (s 1)))])]) (by simp [results, Tryd.results53, go_sem, hc, z3]) rfl ⟨rfl, ?_⟩
    exact (find_end (below3 hb) _ _ _).drew
set_option maxHeartbeats 1000000 in
theorem find_perm (s : Nat → Addr) (c : Int) (wr : Bool) (p : Option Addr) (len cap : Nat) (ms : List Ar) (a n : Int) (write : Bool) (w : World) (hs : Sent w s) (hm : MapsAt w p len ms) (hn : inB n 1 = true)
    (ha : 0 ≤ a ∧ a < 18446744073709551616) (v : Ar) (hA : areaR c wr ms len (regOf a) = v) (hB : areaB c ms len (regOf a) = true) (hv : 0 ≤ v.size ∧ v.size ≤ 4096) (hr : offOf a ≤ v.size - n) (hw : write = true) (hvw : v.write = false) :
    Calls Tryd.prog 53 #[.agg #[.int .i64 c, .bool wr, .slice p len cap], .agg #[.int .u64 a, .int .i64 n], .bool write] w fun e w' =>
      e = .returned (.tuple #[Value.agg #[.int .i64 0, .int .i64 0], .iface 130 (.agg #[.int .u64 a, .int .i64 n, .iface 146 (.pointer (some (s 2)))])]) ∧ Below w.heap.size w w' := by
  have hn2 := of_inB hn
  have HN := Lib.hid hn
  have HA := Lib.hid (area2_is hA hB p cap)
  have HM := Lib.hid hm
  have HS := Lib.hid hs
  have HAA := Lib.hid ha
  have ho : 0 ≤ offOf a ∧ offOf a < 4294967296 := by unfold offOf; omega
  have hrr : 0 ≤ regOf a ∧ regOf a < 4294967296 := by unfold regOf; omega
  clear hs hn hA hB hm ha
  subst hw
  go_enter Tryd.func53, Tryd.ntmps53
  go_wp2_with (first
    | (go_at_call 63; refine (inB_is _ _ _ HN.out).mono ?_; rintro e w' ⟨rfl, rfl⟩)
    | (go_at_call 64; refine (split_any a _ HAA.out.1 HAA.out.2).mono ?_; rintro e w' ⟨rfl, rfl⟩)
    | (go_at_call 65; refine (HA.out _ (((HM.out.alloc _).alloc _).alloc _)).mono ?_; rintro e w4 ⟨rfl, hb⟩; obtain ⟨hc, hf⟩ := bcell hb; obtain ⟨z1, z2, z3⟩ := three_in hb; have G := (HS.out.below (below3 hb)).glob1 2 (G := 7) rfl (by omega); have G2 := HS.out.globS (below3 hb) 2 (G := 7) rfl (by omega)))
  go_region
  all_goals
    go_wp2
    refine bodyPost_ret (v := .tuple #[.agg #[.int .i64 0, .int .i64 0], .iface 130 (.agg #[.int .u64 a, .int .i64 n, .iface 146 (.pointer (some (s 2)))])]) (by simp [results, Tryd.results53, go_sem, hc, z3]) rfl ⟨rfl, ?_⟩
    exact (find_end (below3 hb) _ _ _).drew
set_option maxHeartbeats 1000000 in
theorem find_ok (s : Nat → Addr) (c : Int) (wr : Bool) (p : Option Addr) (len cap : Nat) (ms : List Ar) (a n : Int) (write : Bool) (w : World) (hs : Sent w s) (hm : MapsAt w p len ms) (hn : inB n 1 = true)
    (ha : 0 ≤ a ∧ a < 18446744073709551616) (v : Ar) (hA : areaR c wr ms len (regOf a) = v) (hB : areaB c ms len (regOf a) = true) (hv : 0 ≤ v.size ∧ v.size ≤ 4096) (hr : offOf a ≤ v.size - n) (hw : write = false ∨ v.write = true) :
    Calls Tryd.prog 53 #[.agg #[.int .i64 c, .bool wr, .slice p len cap], .agg #[.int .u64 a, .int .i64 n], .bool write] w fun e w' =>
      e = .returned (.tuple #[Value.agg #[.int .i64 (regOf a - 1), .int .i64 (offOf a)], .nilIface]) ∧ Below w.heap.size w w' := by
  have hn2 := of_inB hn
  have HN := Lib.hid hn
  have HA := Lib.hid (area2_is hA hB p cap)
  have HM := Lib.hid hm
  have HS := Lib.hid hs
  have HAA := Lib.hid ha
  have ho : 0 ≤ offOf a ∧ offOf a < 4294967296 := by unfold offOf; omega
  have hrr : 0 ≤ regOf a ∧ regOf a < 4294967296 := by unfold regOf; omega
  clear hs hn hA hB hm ha
  go_enter Tryd.func53, Tryd.ntmps53
  rcases hw with hw | hw
  · subst hw
    go_wp2_with (first
      | (go_at_call 63; refine (inB_is _ _ _ HN.out).mono ?_; rintro e w' ⟨rfl, rfl⟩)
      | (go_at_call 64; refine (split_any a _ HAA.out.1 HAA.out.2).mono ?_; rintro e w' ⟨rfl, rfl⟩)
      | (go_at_call 65; refine (HA.out _ (((HM.out.alloc _).alloc _).alloc _)).mono ?_; rintro e w4 ⟨rfl, hb⟩; obtain ⟨hc, hf⟩ := bcell hb; obtain ⟨z1, z2, z3⟩ := three_in hb))
    refine bodyPost_ret (v := .tuple #[.agg #[.int .i64 (regOf a - 1), .int .i64 (offOf a)], .nilIface]) (by simp [results, Tryd.results53, go_sem, hc, z3]) rfl ⟨rfl, ?_⟩
    exact find_end (below3 hb) _ _ _
  · go_wp2_with (first
      | (go_at_call 63; refine (inB_is _ _ _ HN.out).mono ?_; rintro e w' ⟨rfl, rfl⟩)
      | (go_at_call 64; refine (split_any a _ HAA.out.1 HAA.out.2).mono ?_; rintro e w' ⟨rfl, rfl⟩)
      | (go_at_call 65; refine (HA.out _ (((HM.out.alloc _).alloc _).alloc _)).mono ?_; rintro e w4 ⟨rfl, hb⟩; obtain ⟨hc, hf⟩ := bcell hb; obtain ⟨z1, z2, z3⟩ := three_in hb))
    all_goals
      refine bodyPost_ret (v := .tuple #[.agg #[.int .i64 (regOf a - 1), .int .i64 (offOf a)], .nilIface]) (by simp [results, Tryd.results53, go_sem, hc, z3]) rfl ⟨rfl, ?_⟩
      exact find_end (below3 hb) _ _ _
end Go.Proofs.YthckkdkijajadaaDoor

/- Contracts of find and Access, all ways under one head, and the document's own Access. -/
namespace Go.Proofs.YthckkdkijajadaaDoor
open Go.RowKit M

theorem areaOf_bd {c : Int} {wr : Bool} {ms : List Ar} {len : Nat} {r : Int} (hl : len = ms.length) (h : okL c ms = true) (hr : hasReg len r = true) : 0 ≤ (areaOf c wr ms r).size ∧ (areaOf c wr ms r).size ≤ 4096 := by
  obtain ⟨hc, _, hm⟩ := okL_parts h
  obtain ⟨g1, g2⟩ : 1 ≤ r ∧ r < 3 + (len : Int) := by simpa [hasReg] using hr
  unfold areaOf
  by_cases h1 : r = 1
  · rw [if_pos h1]; exact hc
  · by_cases h2 : r = 2
    · rw [if_neg h1, if_pos h2]; exact ⟨by decide, by decide⟩
    · rw [if_neg h1, if_neg h2]
      have := hm (r - 3).toNat (by omega)
      omega
theorem areaR_bd (c : Int) (wr : Bool) (ms : List Ar) (len : Nat) (r : Int) (hl : len = ms.length) : 0 ≤ (areaR c wr ms len r).size ∧ (areaR c wr ms len r).size ≤ 4096 := by
  unfold areaR
  cases h : okL c ms && hasReg len r
  · simp [none_]
  · simp only [Bool.and_eq_true] at h
    exact areaOf_bd hl h.1 h.2

/-- why an access may not be: 3 the count, 1 the range, 2 the permission; 4: it may be -/
def findK (c : Int) (wr : Bool) (ms : List Ar) (len : Nat) (a n : Int) (write : Bool) : Nat :=
  if inB n 1 = false then 3
  else if areaB c ms len (regOf a) = false then 1
  else if (areaR c wr ms len (regOf a)).size - n < offOf a then 1
  else if write = true ∧ (areaR c wr ms len (regOf a)).write = false then 2 else 4
theorem findK_le (c : Int) (wr : Bool) (ms : List Ar) (len : Nat) (a n : Int) (write : Bool) : findK c wr ms len a n write ≤ 4 := by
  unfold findK; (repeat' split) <;> omega
theorem find_err (s : Nat → Addr) (c : Int) (wr : Bool) (p : Option Addr) (len cap : Nat) (ms : List Ar) (a n : Int) (write : Bool) (w : World) (hs : Sent w s) (hm : MapsAt w p len ms)
    (ha : 0 ≤ a ∧ a < 18446744073709551616) (k : Nat) (hk : findK c wr ms len a n write = k) (hk4 : k < 4) :
    Calls Tryd.prog 53 #[.agg #[.int .i64 c, .bool wr, .slice p len cap], .agg #[.int .u64 a, .int .i64 n], .bool write] w fun e w' =>
      e = .returned (.tuple #[.agg #[.int .i64 0, .int .i64 0], .iface 130 (.agg #[.int .u64 a, .int .i64 n, .iface 146 (.pointer (some (s k)))])]) ∧ Below w.heap.size w w' := by
  have hbd := areaR_bd c wr ms len (regOf a) hm.hlen
  unfold findK at hk
  split at hk
  · subst hk; exact find_count s c wr p len cap a n write w hs ‹_›
  · rename_i hn
    have hn : inB n 1 = true := by simpa using hn
    split at hk
    · subst hk; exact find_none s c wr p len cap ms a n write w hs hm hn ha _ rfl ‹_›
    · rename_i hB
      have hB : areaB c ms len (regOf a) = true := by simpa using hB
      split at hk
      · subst hk; exact find_far s c wr p len cap ms a n write w hs hm hn ha _ rfl hB hbd ‹_›
      · split at hk
        · rename_i h1 h2
          subst hk; exact find_perm s c wr p len cap ms a n write w hs hm hn ha _ rfl hB hbd (by omega) h2.1 h2.2
        · omega
/-- what a granted access knows -/
theorem findK_ok {c : Int} {wr : Bool} {ms : List Ar} {len : Nat} {a n : Int} {write : Bool} (h : findK c wr ms len a n write = 4) :
    (1 ≤ n ∧ n ≤ 4096) ∧ areaB c ms len (regOf a) = true ∧ offOf a ≤ (areaR c wr ms len (regOf a)).size - n ∧ (write = false ∨ (areaR c wr ms len (regOf a)).write = true) := by
  unfold findK at h
  split at h
  · omega
  · rename_i hn
    have hn : inB n 1 = true := by simpa using hn
    split at h
    · omega
    · rename_i hB
      split at h
      · omega
      · split at h
        · omega
        · rename_i h1 h2
          refine ⟨of_inB hn, by simpa using hB, by omega, ?_⟩
          cases write
          · exact .inl rfl
          · exact .inr (by simpa using h2)
theorem find_fine (s : Nat → Addr) (c : Int) (wr : Bool) (p : Option Addr) (len cap : Nat) (ms : List Ar) (a n : Int) (write : Bool) (w : World) (hs : Sent w s) (hm : MapsAt w p len ms)
    (ha : 0 ≤ a ∧ a < 18446744073709551616) (hk : findK c wr ms len a n write = 4) :
    Calls Tryd.prog 53 #[.agg #[.int .i64 c, .bool wr, .slice p len cap], .agg #[.int .u64 a, .int .i64 n], .bool write] w fun e w' =>
      e = .returned (.tuple #[.agg #[.int .i64 (regOf a - 1), .int .i64 (offOf a)], .nilIface]) ∧ Below w.heap.size w w' := by
  obtain ⟨h1, h2, h3, h4⟩ := findK_ok hk
  exact find_ok s c wr p len cap ms a n write w hs hm (inB_true h1) ha _ rfl h2 (areaR_bd c wr ms len (regOf a) hm.hlen) h3 h4

/-- an access told as a number -/
def accN (k : Nat) : Int := if k = 4 then 0 else numOf k
set_option maxHeartbeats 400000 in
theorem access_any (s : Nat → Addr) (c : Int) (wr : Bool) (p : Option Addr) (len cap : Nat) (ms : List Ar) (a n : Int) (write : Bool) (w : World) (hs : Sent w s) (hm : MapsAt w p len ms)
    (ha : 0 ≤ a ∧ a < 18446744073709551616) :
    Calls Tryd.prog 45 #[.agg #[.int .i64 c, .bool wr, .slice p len cap], .int .u64 a, .int .i64 n, .bool write] w fun e w' =>
      e = .returned (.int .i64 (accN (findK c wr ms len a n write))) ∧ Below w.heap.size w w' := by
  have hle := findK_le c wr ms len a n write
  generalize hk : findK c wr ms len a n write = k at *
  have HS := Lib.hid hs
  have HM := Lib.hid hm
  have HA := Lib.hid ha
  have HK := Lib.hid hk
  clear hs hm ha hk
  by_cases h4 : k = 4
  · subst h4
    go_enter Tryd.func45, Tryd.ntmps45
    go_wp2_with (first
      | (go_at_call 53; refine (find_fine s _ _ _ _ _ ms _ _ _ _ (HS.out.below ((Below.refl _ _).alloc (Nat.le_refl _) _)) (HM.out.alloc _) HA.out HK.out).mono ?_; rintro e w1 ⟨rfl, hb⟩; obtain ⟨hc, hf⟩ := bcell hb; have z1 := one_in hb)
      | (go_at_call 54; refine (number_nil _).mono ?_; rintro e w2 ⟨rfl, rfl⟩))
    go_ret
    exact ⟨rfl, (below1 hb).alloc (Nat.le_of_lt z1) _⟩
  · have hk4 : k < 4 := by omega
    have hN : accN k = numOf k := by simp [accN, h4]
    rw [hN]
    clear hN hle h4
    go_enter Tryd.func45, Tryd.ntmps45
    go_wp2_with (first
      | (go_at_call 53; refine (find_err s _ _ _ _ _ ms _ _ _ _ (HS.out.below ((Below.refl _ _).alloc (Nat.le_refl _) _)) (HM.out.alloc _) HA.out k HK.out hk4).mono ?_; rintro e w1 ⟨rfl, hb⟩; obtain ⟨hc, hf⟩ := bcell hb; have z1 := one_in hb)
      | (go_at_call 54; refine (number_any s k hk4 _ _ _ (HS.out.below ((below1 hb).alloc (Nat.le_of_lt z1) _))).mono ?_; rintro e w2 ⟨rfl, hb2⟩))
    go_ret
    exact ⟨rfl, ((below1 hb).alloc (Nat.le_of_lt z1) _).trans (hb2.mono (by simp; omega))⟩
end Go.Proofs.YthckkdkijajadaaDoor
