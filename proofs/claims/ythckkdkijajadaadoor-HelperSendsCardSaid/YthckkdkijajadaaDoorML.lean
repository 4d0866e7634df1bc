/- Plain facts on helpers: their names, kinds, sizes; words that lie in memory. -/
import Derived.Test.YthckkdkijajadaaDoorMJ
import Derived.Maps.OwnSet

/- Plain facts on helpers: their names, kinds, sizes; words that lie in memory. -/
namespace Go.Proofs.YthckkdkijajadaaDoor
open Go.RowKit M

/-- is there a helper of that number? -/
def isH (n : Int) : Bool := decide (1 ≤ n ∧ n ≤ 5)
theorem isH_cases {n : Int} (h : isH n = true) : n = 1 ∨ n = 2 ∨ n = 3 ∨ n = 4 ∨ n = 5 := by
  simp [isH] at h; omega
/-- how many arguments a helper has -/
def cnt (n : Int) : Nat := if n = 2 then 1 else if n = 3 then 2 else if n = 4 then 2 else if n = 5 then 3 else 0
/-- the kinds of a helper -/
def kd (n : Int) (i : Nat) : Int := if n = 2 then (if i = 0 then 1 else 0) else if n = 3 then (if i = 0 then 2 else if i = 1 then 4 else 0) else if n = 4 then (if i = 0 then 3 else if i = 1 then 4 else 0) else if n = 5 then 1 else 0
/-- a helper's name -/
def nmB (n : Int) : ByteArray := if n = 1 then ⟨#[110, 111, 119]⟩ else if n = 2 then ⟨#[112, 117, 116]⟩ else if n = 3 then ⟨#[115, 101, 110, 100]⟩ else if n = 4 then ⟨#[114, 101, 99, 118]⟩ else if n = 5 then ⟨#[109, 105, 120]⟩ else ⟨#[]⟩
/-- the greatest size that a helper takes -/
def most (n : Int) : Int := if n = 3 then 64 else if n = 4 then 64 else 0
def kinds (n : Int) : List Int := (List.range (cnt n)).map (kd n)

/-- a slice of words lies in memory -/
structure WordsAt (w : World) (q : Option Addr) (xs : List Int) : Prop where
  small : xs.length ≤ 17592186044154
  cells : ∀ j, j < xs.length → ∃ b off, q = some ⟨b, off, none⟩ ∧ b < w.heap.size ∧ w.cell? ⟨b, off + j, none⟩ = some (.int .u64 (xs.getD j 0))
  bd : ∀ j, j < xs.length → 0 ≤ xs.getD j 0 ∧ xs.getD j 0 < 18446744073709551616
theorem WordsAt.below {w w' : World} {q : Option Addr} {xs : List Int} (h : WordsAt w q xs) (hb : Below w.heap.size w w') : WordsAt w' q xs :=
  ⟨h.small, fun j hj => by
    obtain ⟨b, off, e, hl, hc⟩ := h.cells j hj
    exact ⟨b, off, e, Nat.lt_of_lt_of_le hl hb.size, (hb.cell (p := ⟨b, off + j, none⟩) hl).trans hc⟩, h.bd⟩
theorem WordsAt.alloc {w : World} {q : Option Addr} {xs : List Int} (h : WordsAt w q xs) (o : Obj) : WordsAt (w.alloc o) q xs := h.below ((Below.refl _ _).alloc (Nat.le_refl _) _)
theorem WordsAt.drew {w : World} {q : Option Addr} {xs : List Int} (h : WordsAt w q xs) : WordsAt w.drew q xs := h.below (Below.refl _ _).drew
theorem WordsAt.nil (w : World) (q : Option Addr) : WordsAt w q [] := ⟨Nat.zero_le _, fun _ hj => absurd hj (Nat.not_lt_zero _), fun _ hj => absurd hj (Nat.not_lt_zero _)⟩
theorem WordsAt.take {w : World} {q : Option Addr} {xs : List Int} (h : WordsAt w q xs) (n : Nat) : WordsAt w q (xs.take n) := by
  have e : ∀ j, j < (xs.take n).length → (xs.take n).getD j 0 = xs.getD j 0 := fun j hj => by
    have : j < n ∧ j < xs.length := by simp at hj; omega
    simp [List.getD, this.1]
  refine ⟨by have := h.small; simp; omega, fun j hj => ?_, fun j hj => ?_⟩
  · rw [e j hj]; exact h.cells j (by simp at hj; omega)
  · rw [e j hj]; exact h.bd j (by simp at hj; omega)
end Go.Proofs.YthckkdkijajadaaDoor

/- Contract of signatures: a new map, and what is looked up in it. -/
namespace Go.Proofs.YthckkdkijajadaaDoor
open Go.RowKit M Go.Maps

/-- a helper's signature as a value -/
def sgV (nm : ByteArray) (k0 k1 k2 m : Int) : Value := .agg #[.string nm, .int .i64 k0, .int .i64 k1, .int .i64 k2, .int .i64 m]
def sgOf (n : Int) : Value := sgV (nmB n) (kd n 0) (kd n 1) (kd n 2) (most n)
/-- an element reads as itself -/
def selfR : Value → Option (DataW Value × List MemPlace) := fun v => some (.held v, [])
def lit (n : Int) : Lit := .int .i64 n
def sgMap : DataW Value := (((((DataW.map []).put (lit 1) (.held (sgOf 1))).put (lit 2) (.held (sgOf 2))).put (lit 3) (.held (sgOf 3))).put (lit 4) (.held (sgOf 4))).put (lit 5) (.held (sgOf 5))
theorem keyLaw : Keyed Tryd.prog 3 := int_keyed Tryd.underlying3
theorem keyIs {n : Int} (h : (Lit.int .i64 n).wf = true) : keyOf Tryd.prog 3 (.int .i64 n) = some (lit n) := keyOf_int_mk Tryd.underlying3 h

theorem sg_store {w : World} {b n : Nat} {D : DataW Value} (h : w.ownsMap Tryd.prog 3 selfR b n D) (hn : n < 100) (k : Int) (hk : (Lit.int .i64 k).wf = true) (v : Value) :
    ∃ w', (Instr.mapUpdate 87 (.map (some b)) (.int .i64 k) v).run Tryd.prog w = .ok () w' ∧ w'.ownsMap Tryd.prog 3 selfR b (n + 1) (D.put (lit k) (.held v)) ∧ w.mapTurned w' b :=
  h.store keyLaw Tryd.underlying87 (by unfold maxLen; omega) (keyIs hk) rfl
theorem below_turned {B b : Nat} {a w w' : World} (h : Below B a w) (ht : w.mapTurned w' b) (hs : B ≤ w.heap.size) (hb : B ≤ b) : Below B a w' :=
  h.grown ht.grown hs (fun k hk => by cases hk; exact hb)
set_option maxRecDepth 100000 in
set_option maxHeartbeats 1000000 in
theorem signatures_any (w : World) :
    Calls Tryd.prog 33 #[] w fun e w' => e = .returned (.map (some w.heap.size)) ∧ Below w.heap.size w w' ∧ w'.ownsMap Tryd.prog 3 selfR w.heap.size 5 sgMap := by
  have hmm := @run_makeMap Tryd.prog
  have h0 : (w.alloc (.map #[] 0)).ownsMap Tryd.prog 3 selfR w.heap.size 0 (.map []) := World.ownsMap_made w Tryd.prog 3 selfR
  obtain ⟨w1, r1, o1, t1⟩ := sg_store h0 (by decide) 1 (by decide) (sgOf 1)
  obtain ⟨w2, r2, o2, t2⟩ := sg_store o1 (by decide) 2 (by decide) (sgOf 2)
  obtain ⟨w3, r3, o3, t3⟩ := sg_store o2 (by decide) 3 (by decide) (sgOf 3)
  obtain ⟨w4, r4, o4, t4⟩ := sg_store o3 (by decide) 4 (by decide) (sgOf 4)
  obtain ⟨w5, r5, o5, t5⟩ := sg_store o4 (by decide) 5 (by decide) (sgOf 5)
  have b0 : Below w.heap.size w (w.alloc (.map #[] 0)) := (Below.refl _ _).alloc (Nat.le_refl _) _
  have b1 := below_turned b0 t1 b0.size (Nat.le_refl _)
  have b2 := below_turned b1 t2 b1.size (Nat.le_refl _)
  have b3 := below_turned b2 t3 b2.size (Nat.le_refl _)
  have b4 := below_turned b3 t4 b3.size (Nat.le_refl _)
  have b5 := below_turned b4 t5 b4.size (Nat.le_refl _)
  have H := Lib.hid (And.intro b5 o5)
  replace r1 : _ = Result.ok () w1 := r1
  rw [show sgOf 1 = .agg #[.string ⟨#[110, 111, 119]⟩, .int .i64 0, .int .i64 0, .int .i64 0, .int .i64 0] from rfl] at r1
  rw [show sgOf 2 = .agg #[.string ⟨#[112, 117, 116]⟩, .int .i64 1, .int .i64 0, .int .i64 0, .int .i64 0] from rfl] at r2
  rw [show sgOf 3 = .agg #[.string ⟨#[115, 101, 110, 100]⟩, .int .i64 2, .int .i64 4, .int .i64 0, .int .i64 64] from rfl] at r3
  rw [show sgOf 4 = .agg #[.string ⟨#[114, 101, 99, 118]⟩, .int .i64 3, .int .i64 4, .int .i64 0, .int .i64 64] from rfl] at r4
  rw [show sgOf 5 = .agg #[.string ⟨#[109, 105, 120]⟩, .int .i64 1, .int .i64 1, .int .i64 1, .int .i64 0] from rfl] at r5
  clear h0 o1 o2 o3 o4 o5 t1 t2 t3 t4 t5 b0 b1 b2 b3 b4 b5
  go_enter Tryd.func33, Tryd.ntmps33
  go_wp2
  go_ret
  exact ⟨rfl, H.out⟩
theorem lit_ne {n k : Int} (h : n ≠ k) : lit n ≠ lit k := fun e => h (by injection e)
theorem zero72 (w : World) : (zeroValue 72).run Tryd.prog w = .ok (sgV ⟨#[]⟩ 0 0 0 0) w := by kernel_rfl
theorem sg_at (n : Int) : sgMap.atKey (lit n) (.held (sgV ⟨#[]⟩ 0 0 0 0)) = .held (sgOf n) ∧ Maps.has sgMap (lit n) = isH n := by
  have m0 : IsMap (DataW.map ([] : List (Lit × DataW Value))) := ⟨_, rfl⟩
  have kl : ∀ k, WideAt.IsKeyLit (lit k) := fun k => by simp [WideAt.IsKeyLit, lit]
  have m1 := m0.put (lit 1) (.held (sgOf 1))
  have m2 := m1.put (lit 2) (.held (sgOf 2))
  have m3 := m2.put (lit 3) (.held (sgOf 3))
  have m4 := m3.put (lit 4) (.held (sgOf 4))
  unfold sgMap
  by_cases h5 : n = 5
  · subst h5; exact ⟨atKey_put_same m4 (kl 5) _ _, has_put_same m4 (kl 5) _⟩
  rw [atKey_put_other (lit_ne h5), has_put_other (lit_ne h5)]
  by_cases h4 : n = 4
  · subst h4; exact ⟨atKey_put_same m3 (kl 4) _ _, has_put_same m3 (kl 4) _⟩
  rw [atKey_put_other (lit_ne h4), has_put_other (lit_ne h4)]
  by_cases h3 : n = 3
  · subst h3; exact ⟨atKey_put_same m2 (kl 3) _ _, has_put_same m2 (kl 3) _⟩
  rw [atKey_put_other (lit_ne h3), has_put_other (lit_ne h3)]
  by_cases h2 : n = 2
  · subst h2; exact ⟨atKey_put_same m1 (kl 2) _ _, has_put_same m1 (kl 2) _⟩
  rw [atKey_put_other (lit_ne h2), has_put_other (lit_ne h2)]
  by_cases h1 : n = 1
  · subst h1; exact ⟨atKey_put_same m0 (kl 1) _ _, has_put_same m0 (kl 1) _⟩
  rw [atKey_put_other (lit_ne h1), has_put_other (lit_ne h1)]
  have e0 : isH n = false := decide_eq_false (by omega)
  refine ⟨?_, by rw [e0]; rfl⟩
  show DataW.held _ = _
  simp [sgOf, nmB, kd, most, h1, h2, h3, h4, h5]
theorem sg_look {w : World} {b : Nat} (h : w.ownsMap Tryd.prog 3 selfR b 5 sgMap) (n : Int) (hn : (Lit.int .i64 n).wf = true) :
    (Instr.lookup 87 (.map (some b)) (.int .i64 n) true).run Tryd.prog w = .ok (.tuple #[sgOf n, .bool (isH n)]) w := by
  obtain ⟨v, ps, hr, hv⟩ := h.look_ok keyLaw Tryd.underlying87 (zero72 w) (rfl : selfR _ = _) (keyIs hn)
  rw [(sg_at n).1] at hv
  rw [(sg_at n).2] at hr
  have e : v = sgOf n := (by simpa [selfR] using hv : v = sgOf n ∧ _).1
  rw [hr, e]
end Go.Proofs.YthckkdkijajadaaDoor

/- Contracts of errors.Is and number, of a helper's refusals. -/
namespace Go.Proofs.YthckkdkijajadaaDoor
open Go.RowKit M Go.Extern.Stop Go.Stop Go.Extern

/-- where the five errors' variables lie -/
def hN : Nat → Nat
  | 0 => 0
  | 1 => 1
  | 2 => 2
  | 3 => 3
  | _ => 4
/-- the five errors lie in their variables, each at an address of its own -/
structure HSent (w : World) (s : Nat → Addr) : Prop where
  glob : ∀ g, g < 5 → w.cell? ⟨hN g, 0, none⟩ = some (.iface 146 (.pointer (some (s g))))
  size : ∀ g, hN g < w.heap.size
  blk : ∀ g, g < 5 → (s g).block < w.heap.size ∧ ∃ c t, w.heap[(s g).block]? = some (.cells c t (0, 0))
  ne : ∀ g h, g < 5 → h < 5 → g ≠ h → s g ≠ s h
theorem HSent.below {w w' : World} {s : Nat → Addr} (h : HSent w s) (hb : Below w.heap.size w w') : HSent w' s :=
  ⟨fun g hg => (hb.cell (p := ⟨hN g, 0, none⟩) (h.size g)).trans (h.glob g hg), fun g => Nat.lt_of_lt_of_le (h.size g) hb.size,
    fun g hg => by
      obtain ⟨h1, c, t, h2⟩ := h.blk g hg
      exact ⟨Nat.lt_of_lt_of_le h1 hb.size, c, t, (hb.block _ h1).trans h2⟩, h.ne⟩
theorem HSent.alloc {w : World} {s : Nat → Addr} (h : HSent w s) (o : Obj) : HSent (w.alloc o) s := h.below ((Below.refl _ _).alloc (Nat.le_refl _) _)
theorem HSent.drew {w : World} {s : Nat → Addr} (h : HSent w s) : HSent w.drew s := h.below (Below.refl _ _).drew
theorem HSent.at {w : World} {s : Nat → Addr} (h : HSent w s) (g : Nat) {G : Nat} (hG : hN g = G) (hg : g < 5) : w.cell? ⟨G, 0, none⟩ = some (.iface 146 (.pointer (some (s g)))) := by
  rw [← hG]; exact h.glob g hg
/-- a refusal as a value -/
def rfV (s : Nat → Addr) (n : Int) (k : Nat) : Value := .iface 102 (.agg #[.int .i64 n, .iface 146 (.pointer (some (s k)))])

theorem noIsR (v : Value) (xT : TypeId) (w : World) : (Instr.typeAssert (.iface 102 v) xT 135 true).run Tryd.prog w = .ok (.tuple #[.nilIface, .bool false]) w := run_typeAssert_lacksB Tryd.underlying135 (by kernel_rfl) (by kernel_rfl) v xT w
theorem hasUnwrapR (v : Value) (xT : TypeId) (w : World) : (Instr.typeAssert (.iface 102 v) xT 138 true).run Tryd.prog w = .ok (.tuple #[.iface 102 v, .bool true]) w := run_typeAssert_hasB Tryd.underlying138 (by kernel_rfl) v xT w
theorem methodUnwrapR (v : Value) (w : World) : (Go.method 283 102 v "Unwrap").run Tryd.prog w = .ok (85, v) w := by kernel_rfl

set_option maxHeartbeats 400000 in
theorem unwrapR_any (n : Int) (y : Value) (w : World) (hy : ∃ t v, y = .iface t v) :
    Calls Tryd.prog 85 #[.agg #[.int .i64 n, y]] w fun e w' => e = .returned y ∧ Below w.heap.size w w' := by
  obtain ⟨t, v, rfl⟩ := hy
  go_enter Tryd.func85, Tryd.ntmps85
  go_wp2
  go_ret
  exact ⟨rfl, (Below.refl _ _).alloc (Nat.le_refl _) _⟩

set_option maxRecDepth 100000 in
set_option maxHeartbeats 1000000 in
theorem isR_same (n : Int) (b : Addr) (w : World) :
    Calls Tryd.prog 58 #[.iface 102 (.agg #[.int .i64 n, .iface 146 (.pointer (some b))]), .iface 146 (.pointer (some b)), .bool true] w fun e w' => e = .returned (.bool true) ∧ Below w.heap.size w w' := by
  obtain ⟨i, hi, hcmp⟩ := Option.map_eq_some_iff.1 isComp
  obtain ⟨j, hj, hjs⟩ := Option.map_eq_some_iff.1 isSz
  have nE := noIsE
  have uE := noUnwrapE
  have vE := noUnwrapsE
  have nW := noIsR
  have uW := hasUnwrapR
  have mU := methodUnwrapR
  have hty := fun w' => run_eql_iface_types (P := Tryd.prog) 102 146 (.agg #[.int .i64 n, .iface 146 (.pointer (some b))]) (.pointer (some b)) Tryd.underlying76 (by decide) w'
  have heq := fun w' => run_eql_iface_ptr_same (P := Tryd.prog) w' b Tryd.underlying76 Tryd.underlying146 hi hcmp hj
  clear hi hcmp hj hjs
  go_enter Tryd.func58, Tryd.ntmps58
  go_wp2
  refine wp_loop_rounds 2 ?_
  rw [rounds_succ]
  go_wp2_with (go_at_call 85; refine (unwrapR_any _ _ _ ⟨_, _, rfl⟩).mono ?_; rintro e w1 ⟨rfl, hb⟩)
  rw [rounds_succ]
  go_wp2
  go_ret
  exact ⟨rfl, hb⟩
set_option maxRecDepth 100000 in
set_option maxHeartbeats 1000000 in
theorem isR_other (n : Int) (b c : Addr) (cc cb : Array Value) (tc tb : TypeId) (w : World) (hne : c ≠ b) (hc : w.heap[c.block]? = some (.cells cc tc (0, 0))) (hb : w.heap[b.block]? = some (.cells cb tb (0, 0))) (hcl : c.block < w.heap.size) (hbl : b.block < w.heap.size) :
    Calls Tryd.prog 58 #[.iface 102 (.agg #[.int .i64 n, .iface 146 (.pointer (some c))]), .iface 146 (.pointer (some b)), .bool true] w fun e w' => e = .returned (.bool false) ∧ Below w.heap.size w w' := by
  obtain ⟨i, hi, hcmp⟩ := Option.map_eq_some_iff.1 isComp
  obtain ⟨j, hj, hjs⟩ := Option.map_eq_some_iff.1 isSz
  have nE := noIsE
  have uE := noUnwrapE
  have vE := noUnwrapsE
  have nW := noIsR
  have uW := hasUnwrapR
  have mU := methodUnwrapR
  have hty := fun w' => run_eql_iface_types (P := Tryd.prog) 102 146 (.agg #[.int .i64 n, .iface 146 (.pointer (some c))]) (.pointer (some b)) Tryd.underlying76 (by decide) w'
  have heq := fun w' (hc : w'.heap[c.block]? = some (.cells cc tc (0, 0))) (hb : w'.heap[b.block]? = some (.cells cb tb (0, 0))) => run_eql_iface_ptr_other (P := Tryd.prog) w' Tryd.underlying76 Tryd.underlying146 hi hcmp hj (by rw [hjs]; decide) hne hc hb
  have HE := Lib.hid heq
  clear heq
  clear hi hcmp hj hjs
  go_enter Tryd.func58, Tryd.ntmps58
  go_wp2
  refine wp_loop_rounds 2 ?_
  rw [rounds_succ]
  go_wp2_with (go_at_call 85; refine (unwrapR_any _ _ _ ⟨_, _, rfl⟩).mono ?_; rintro e w1 ⟨rfl, hb'⟩; have heq := HE.out w1 ((hb'.block _ hcl).trans hc) ((hb'.block _ hbl).trans hb))
  rw [rounds_succ]
  go_wp2
  go_ret
  exact ⟨rfl, hb'⟩
set_option maxRecDepth 100000 in
set_option maxHeartbeats 1000000 in
theorem is_refusal (v : Bool) (n : Int) (b c : Addr) (w : World) (h : Hid (Calls Tryd.prog 58 #[.iface 102 (.agg #[.int .i64 n, .iface 146 (.pointer (some c))]), .iface 146 (.pointer (some b)), .bool true] w fun e w' => e = .returned (.bool v) ∧ Below w.heap.size w w')) :
    Calls Tryd.prog 47 #[.iface 102 (.agg #[.int .i64 n, .iface 146 (.pointer (some c))]), .iface 146 (.pointer (some b))] w fun e w' => e = .returned (.bool v) ∧ Below w.heap.size w w' := by
  have h8 := @run_callFunc_extern Tryd.prog 57 _ Extern.ReflectliteType.typeOf Tryd.func57 (by kernel_rfl) (by kernel_rfl) (by kernel_rfl) (by kernel_rfl)
  have h32 := @run_callFunc_extern Tryd.prog 91 _ comparableRow Tryd.func91 (by kernel_rfl) (by kernel_rfl) (by kernel_rfl) (by kernel_rfl)
  have tT := isTypeOf
  have cT := isComparable
  have mR := isMethodComparable
  go_enter Tryd.func47, Tryd.ntmps47
  go_wp2_with (go_at_call 58; refine h.out.mono ?_; rintro e w1 ⟨rfl, hb⟩)
  go_ret
  exact ⟨rfl, hb⟩

theorem HSent.isR {w : World} {s : Nat → Addr} (h : HSent w s) (n : Int) (k : Nat) (hk : k < 5) :
    Hid (Calls Tryd.prog 58 #[.iface 102 (.agg #[.int .i64 n, .iface 146 (.pointer (some (s k)))]), .iface 146 (.pointer (some (s 4))), .bool true] w fun e w' => e = .returned (.bool (k == 4)) ∧ Below w.heap.size w w') := by
  by_cases h4 : k = 4
  · subst h4; exact isR_same n (s 4) w
  · have e : (k == 4) = false := by simp [h4]
    rw [e]
    obtain ⟨h1, c1, t1, e1⟩ := h.blk 4 (by omega)
    obtain ⟨h2, c2, t2, e2⟩ := h.blk k hk
    exact isR_other n (s 4) (s k) c2 c1 t2 t1 w (h.ne k 4 hk (by omega) h4) e2 e1 h2 h1
set_option maxHeartbeats 400000 in
theorem hnumber_nil (w : World) :
    Calls Tryd.prog 27 #[.nilIface] w fun e w' => e = .returned (.int .i64 0) ∧ w = w' := by
  go_enter Tryd.func27, Tryd.ntmps27
  go_wp2
  go_ret
  exact ⟨rfl, rfl⟩
/-- a refusal told as a number -/
def hnum (k : Nat) : Int := if k = 4 then 2 else 50
set_option maxHeartbeats 400000 in
theorem hnumber_any (s : Nat → Addr) (k : Nat) (hk : k < 5) (n : Int) (w : World) (hs : HSent w s) :
    Calls Tryd.prog 27 #[rfV s n k] w fun e w' => e = .returned (.int .i64 (hnum k)) ∧ Below w.heap.size w w' := by
  have g4 : w.cell? ⟨4, 0, none⟩ = _ := hs.glob 4 (by omega)
  have hz : 4 < w.heap.size := hs.size 4
  have HI := hs.isR n k hk
  unfold rfV hnum
  by_cases h4 : k = 4
  · subst h4
    clear hs
    go_enter Tryd.func27, Tryd.ntmps27
    go_wp2_with (go_at_call 47; refine (is_refusal _ _ _ _ _ HI).mono ?_; rintro e w1 ⟨rfl, hb⟩)
    go_ret
    exact ⟨rfl, hb⟩
  · have e : (k == 4) = false := by simp [h4]
    rw [e] at HI
    rw [if_neg h4]
    clear hs
    go_enter Tryd.func27, Tryd.ntmps27
    go_wp2_with (go_at_call 47; refine (is_refusal _ _ _ _ _ HI).mono ?_; rintro e w1 ⟨rfl, hb⟩)
    go_ret
    exact ⟨rfl, hb⟩
end Go.Proofs.YthckkdkijajadaaDoor
