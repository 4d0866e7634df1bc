/- Package arith's table: a new map, and what is looked up in it. -/
import Derived.Test.YticjhcbkkkkckaaGB
import Derived.Maps.OwnSet
namespace Go.Proofs.Yticjhcbkkkkckaa
open Go.RowKit Go.Maps

/-- an element reads as itself -/
def selfR : Value → Option (DataW Value × List MemPlace) := fun v => some (.held v, [])
def lit (n : Int) : Lit := .int .i64 n
theorem keyLaw : Keyed Try.prog 3 := int_keyed Try.underlying3
theorem keyIs {n : Int} (h : (Lit.int .i64 n).wf = true) : keyOf Try.prog 3 (.int .i64 n) = some (lit n) := keyOf_int_mk Try.underlying3 h
theorem tb_store {w : World} {b n : Nat} {D : DataW Value} (h : w.ownsMap Try.prog 3 selfR b n D) (hn : n < 100) (k : Int) (hk : (Lit.int .i64 k).wf = true) (v : Value) :
    ∃ w', (Instr.mapUpdate 42 (.map (some b)) (.int .i64 k) v).run Try.prog w = .ok () w' ∧ w'.ownsMap Try.prog 3 selfR b (n + 1) (D.put (lit k) (.held v)) ∧ w.mapTurned w' b :=
  h.store keyLaw Try.underlying42 (by unfold maxLen; omega) (keyIs hk) rfl
theorem below_turned {B b : Nat} {a w w' : World} (h : Below B a w) (ht : w.mapTurned w' b) (hs : B ≤ w.heap.size) (hb : B ≤ b) : Below B a w' :=
  h.grown ht.grown hs (fun k hk => by cases hk; exact hb)
def tbMap : DataW Value := ((((((((((((((DataW.map [] : DataW Value).put (lit 0) (.held (.func (.func 30) #[] #[] : Value))).put (lit 16) (.held (.func (.func 31) #[] #[] : Value))).put (lit 32) (.held (.func (.func 32) #[] #[] : Value))).put (lit 48) (.held (.func (.func 33) #[] #[] : Value))).put (lit 144) (.held (.func (.func 34) #[] #[] : Value))).put (lit 80) (.held (.func (.func 35) #[] #[] : Value))).put (lit 64) (.held (.func (.func 36) #[] #[] : Value))).put (lit 160) (.held (.func (.func 37) #[] #[] : Value))).put (lit 96) (.held (.func (.func 38) #[] #[] : Value))).put (lit 112) (.held (.func (.func 39) #[] #[] : Value))).put (lit 192) (.held (.func (.func 40) #[] #[] : Value))).put (lit 128) (.held (.func (.func 41) #[] #[] : Value))).put (lit 176) (.held (.func (.func 42) #[] #[] : Value)))
set_option maxRecDepth 100000 in
set_option maxHeartbeats 1000000 in
theorem table_any (w : World) :
    Calls Try.prog 16 #[] w fun e w' => e = .returned (.map (some w.heap.size)) ∧ Below w.heap.size w w' ∧ w'.ownsMap Try.prog 3 selfR w.heap.size 13 tbMap := by
  have hmm := @run_makeMap Try.prog
  have o0 : (w.alloc (.map #[] 0)).ownsMap Try.prog 3 selfR w.heap.size 0 (.map []) := World.ownsMap_made w Try.prog 3 selfR
  have b0 : Below w.heap.size w (w.alloc (.map #[] 0)) := (Below.refl _ _).alloc (Nat.le_refl _) _
  obtain ⟨w1, r1, o1, t1⟩ := tb_store o0 (by decide) 0 (by decide) (.func (.func 30) #[] #[] : Value)
  have b1 := below_turned b0 t1 b0.size (Nat.le_refl _)
  obtain ⟨w2, r2, o2, t2⟩ := tb_store o1 (by decide) 16 (by decide) (.func (.func 31) #[] #[] : Value)
  have b2 := below_turned b1 t2 b1.size (Nat.le_refl _)
  obtain ⟨w3, r3, o3, t3⟩ := tb_store o2 (by decide) 32 (by decide) (.func (.func 32) #[] #[] : Value)
  have b3 := below_turned b2 t3 b2.size (Nat.le_refl _)
  obtain ⟨w4, r4, o4, t4⟩ := tb_store o3 (by decide) 48 (by decide) (.func (.func 33) #[] #[] : Value)
  have b4 := below_turned b3 t4 b3.size (Nat.le_refl _)
  obtain ⟨w5, r5, o5, t5⟩ := tb_store o4 (by decide) 144 (by decide) (.func (.func 34) #[] #[] : Value)
  have b5 := below_turned b4 t5 b4.size (Nat.le_refl _)
  obtain ⟨w6, r6, o6, t6⟩ := tb_store o5 (by decide) 80 (by decide) (.func (.func 35) #[] #[] : Value)
  have b6 := below_turned b5 t6 b5.size (Nat.le_refl _)
  obtain ⟨w7, r7, o7, t7⟩ := tb_store o6 (by decide) 64 (by decide) (.func (.func 36) #[] #[] : Value)
  have b7 := below_turned b6 t7 b6.size (Nat.le_refl _)
  obtain ⟨w8, r8, o8, t8⟩ := tb_store o7 (by decide) 160 (by decide) (.func (.func 37) #[] #[] : Value)
  have b8 := below_turned b7 t8 b7.size (Nat.le_refl _)
  obtain ⟨w9, r9, o9, t9⟩ := tb_store o8 (by decide) 96 (by decide) (.func (.func 38) #[] #[] : Value)
  have b9 := below_turned b8 t9 b8.size (Nat.le_refl _)
  obtain ⟨w10, r10, o10, t10⟩ := tb_store o9 (by decide) 112 (by decide) (.func (.func 39) #[] #[] : Value)
  have b10 := below_turned b9 t10 b9.size (Nat.le_refl _)
  obtain ⟨w11, r11, o11, t11⟩ := tb_store o10 (by decide) 192 (by decide) (.func (.func 40) #[] #[] : Value)
  have b11 := below_turned b10 t11 b10.size (Nat.le_refl _)
  obtain ⟨w12, r12, o12, t12⟩ := tb_store o11 (by decide) 128 (by decide) (.func (.func 41) #[] #[] : Value)
  have b12 := below_turned b11 t12 b11.size (Nat.le_refl _)
  obtain ⟨w13, r13, o13, t13⟩ := tb_store o12 (by decide) 176 (by decide) (.func (.func 42) #[] #[] : Value)
  have b13 := below_turned b12 t13 b12.size (Nat.le_refl _)
  have H := Lib.hid (And.intro b13 o13)
  replace r1 : _ = Result.ok () w1 := r1
  clear o0 b0 o1 b1 o2 b2 o3 b3 o4 b4 o5 b5 o6 b6 o7 b7 o8 b8 o9 b9 o10 b10 o11 b11 o12 b12 o13 b13 t1 t2 t3 t4 t5 t6 t7 t8 t9 t10 t11 t12 t13
  go_enter Try.func16, Try.ntmps16
  go_wp2
  go_ret
  exact ⟨rfl, H.out⟩
theorem lit_ne {n k : Int} (h : n ≠ k) : lit n ≠ lit k := fun e => h (by injection e)
def wayV (n : Int) : Value := if n = 0 then (.func (.func 30) #[] #[] : Value) else if n = 16 then (.func (.func 31) #[] #[] : Value) else if n = 32 then (.func (.func 32) #[] #[] : Value) else if n = 48 then (.func (.func 33) #[] #[] : Value) else if n = 144 then (.func (.func 34) #[] #[] : Value) else if n = 80 then (.func (.func 35) #[] #[] : Value) else if n = 64 then (.func (.func 36) #[] #[] : Value) else if n = 160 then (.func (.func 37) #[] #[] : Value) else if n = 96 then (.func (.func 38) #[] #[] : Value) else if n = 112 then (.func (.func 39) #[] #[] : Value) else if n = 192 then (.func (.func 40) #[] #[] : Value) else if n = 128 then (.func (.func 41) #[] #[] : Value) else if n = 176 then (.func (.func 42) #[] #[] : Value) else .nilFunc
theorem zeroF (w : World) : (zeroValue 40).run Try.prog w = .ok .nilFunc w := by kernel_rfl
theorem tb_at (n : Int) : tbMap.atKey (lit n) (.held .nilFunc) = .held (wayV n) ∧ Maps.has tbMap (lit n) = isOp n := by
  have m0 : IsMap (DataW.map ([] : List (Lit × DataW Value))) := ⟨_, rfl⟩
  have kl : ∀ k, WideAt.IsKeyLit (lit k) := fun k => by simp [WideAt.IsKeyLit, lit]
  have m1 := m0.put (lit 0) (.held (.func (.func 30) #[] #[] : Value))
  have m2 := m1.put (lit 16) (.held (.func (.func 31) #[] #[] : Value))
  have m3 := m2.put (lit 32) (.held (.func (.func 32) #[] #[] : Value))
  have m4 := m3.put (lit 48) (.held (.func (.func 33) #[] #[] : Value))
  have m5 := m4.put (lit 144) (.held (.func (.func 34) #[] #[] : Value))
  have m6 := m5.put (lit 80) (.held (.func (.func 35) #[] #[] : Value))
  have m7 := m6.put (lit 64) (.held (.func (.func 36) #[] #[] : Value))
  have m8 := m7.put (lit 160) (.held (.func (.func 37) #[] #[] : Value))
  have m9 := m8.put (lit 96) (.held (.func (.func 38) #[] #[] : Value))
  have m10 := m9.put (lit 112) (.held (.func (.func 39) #[] #[] : Value))
  have m11 := m10.put (lit 192) (.held (.func (.func 40) #[] #[] : Value))
  have m12 := m11.put (lit 128) (.held (.func (.func 41) #[] #[] : Value))
  have m13 := m12.put (lit 176) (.held (.func (.func 42) #[] #[] : Value))
  unfold tbMap
  by_cases h176 : n = 176
  · subst h176; exact ⟨atKey_put_same m12 (kl 176) _ _, has_put_same m12 (kl 176) _⟩
  rw [atKey_put_other (lit_ne h176), has_put_other (lit_ne h176)]
  by_cases h128 : n = 128
  · subst h128; exact ⟨atKey_put_same m11 (kl 128) _ _, has_put_same m11 (kl 128) _⟩
  rw [atKey_put_other (lit_ne h128), has_put_other (lit_ne h128)]
  by_cases h192 : n = 192
  · subst h192; exact ⟨atKey_put_same m10 (kl 192) _ _, has_put_same m10 (kl 192) _⟩
  rw [atKey_put_other (lit_ne h192), has_put_other (lit_ne h192)]
  by_cases h112 : n = 112
  · subst h112; exact ⟨atKey_put_same m9 (kl 112) _ _, has_put_same m9 (kl 112) _⟩
  rw [atKey_put_other (lit_ne h112), has_put_other (lit_ne h112)]
  by_cases h96 : n = 96
  · subst h96; exact ⟨atKey_put_same m8 (kl 96) _ _, has_put_same m8 (kl 96) _⟩
  rw [atKey_put_other (lit_ne h96), has_put_other (lit_ne h96)]
  by_cases h160 : n = 160
  · subst h160; exact ⟨atKey_put_same m7 (kl 160) _ _, has_put_same m7 (kl 160) _⟩
  rw [atKey_put_other (lit_ne h160), has_put_other (lit_ne h160)]
  by_cases h64 : n = 64
  · subst h64; exact ⟨atKey_put_same m6 (kl 64) _ _, has_put_same m6 (kl 64) _⟩
  rw [atKey_put_other (lit_ne h64), has_put_other (lit_ne h64)]
  by_cases h80 : n = 80
  · subst h80; exact ⟨atKey_put_same m5 (kl 80) _ _, has_put_same m5 (kl 80) _⟩
  rw [atKey_put_other (lit_ne h80), has_put_other (lit_ne h80)]
  by_cases h144 : n = 144
  · subst h144; exact ⟨atKey_put_same m4 (kl 144) _ _, has_put_same m4 (kl 144) _⟩
  rw [atKey_put_other (lit_ne h144), has_put_other (lit_ne h144)]
  by_cases h48 : n = 48
  · subst h48; exact ⟨atKey_put_same m3 (kl 48) _ _, has_put_same m3 (kl 48) _⟩
  rw [atKey_put_other (lit_ne h48), has_put_other (lit_ne h48)]
  by_cases h32 : n = 32
  · subst h32; exact ⟨atKey_put_same m2 (kl 32) _ _, has_put_same m2 (kl 32) _⟩
  rw [atKey_put_other (lit_ne h32), has_put_other (lit_ne h32)]
  by_cases h16 : n = 16
  · subst h16; exact ⟨atKey_put_same m1 (kl 16) _ _, has_put_same m1 (kl 16) _⟩
  rw [atKey_put_other (lit_ne h16), has_put_other (lit_ne h16)]
  by_cases h0 : n = 0
  · subst h0; exact ⟨atKey_put_same m0 (kl 0) _ _, has_put_same m0 (kl 0) _⟩
  rw [atKey_put_other (lit_ne h0), has_put_other (lit_ne h0)]
  have e0 : isOp n = false := by simp [isOp, h0, h16, h32, h48, h64, h80, h96, h112, h128, h144, h160, h176, h192]
  refine ⟨?_, by rw [e0]; rfl⟩
  show DataW.held _ = _
  simp [wayV, h0, h16, h32, h48, h64, h80, h96, h112, h128, h144, h160, h176, h192]
theorem tb_look {w : World} {b : Nat} (h : w.ownsMap Try.prog 3 selfR b 13 tbMap) (n : Int) (hn : (Lit.int .i64 n).wf = true) :
    (Instr.lookup 42 (.map (some b)) (.int .i64 n) true).run Try.prog w = .ok (.tuple #[wayV n, .bool (isOp n)]) w := by
  obtain ⟨v, ps, hr, hv⟩ := h.look_ok keyLaw Try.underlying42 (zeroF w) (rfl : selfR _ = _) (keyIs hn)
  rw [(tb_at n).1] at hv
  rw [(tb_at n).2] at hr
  have e : v = wayV n := (by simpa [selfR] using hv : v = wayV n ∧ _).1
  rw [hr, e]
end Go.Proofs.Yticjhcbkkkkckaa
