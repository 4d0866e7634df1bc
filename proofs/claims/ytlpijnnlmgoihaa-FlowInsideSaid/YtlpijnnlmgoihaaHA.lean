/- Flow: a map of numbers of one's own; its keys, sorted. -/
import Derived.Test.YtlpijnnlmgoihaaFO
import Derived.Test.YtlpijnnlmgoihaaShelf
import Derived.Maps.OwnSet
import Derived.Maps.OwnOps
namespace Go.Proofs.Ytlpijnnlmgoihaa
open Go.RowKit M

def lit (n : Int) : Lit := .int .i64 n
theorem lit_ne {n k : Int} (h : n ≠ k) : lit n ≠ lit k := fun e => h (by injection e)
theorem lit_key (n : Int) : WideAt.IsKeyLit (lit n) := by simp [WideAt.IsKeyLit, lit]
theorem keyLaw : Maps.Keyed Try.prog 3 := Maps.int_keyed Try.underlying3
set_option maxRecDepth 100000 in
theorem zeroI (w : World) : (zeroValue 3).run Try.prog w = .ok (.int .i64 0) w := by kernel_rfl
theorem lit_wf {k : Int} (h0 : -1048576 ≤ k) (h1 : k ≤ 1048576) : (lit k).wf = true := by
  show (decide (IntKind.i64.min ≤ k) && decide (k ≤ IntKind.i64.max)) = true
  rw [show IntKind.i64.min = -9223372036854775808 from rfl, show IntKind.i64.max = 9223372036854775807 from rfl]
  simp
  omega
/-- a map in block b: at k stands what m says -/
def Mp (W : World) (b n : Nat) (m : Int → Option Int) : Prop :=
  ∃ D : DataW Unit, W.ownsMap Try.prog 3 (plainElem Try.prog 3) b n D ∧ (∀ k, Maps.has D (lit k) = (m k).isSome) ∧ ∀ k x z, m k = some x → D.atKey (lit k) z = .lit (lit x)
def mput (m : Int → Option Int) (k x : Int) : Int → Option Int := fun j => if j = k then some x else m j
theorem Mp.made (W : World) : Mp (W.alloc (.map #[] 0)) W.heap.size 0 (fun _ => none) :=
  ⟨.map [], World.ownsMap_made _ _ _ _, fun _ => rfl, fun _ _ _ h => by cases h⟩
theorem Mp.lt {W : World} {b n : Nat} {m : Int → Option Int} (h : Mp W b n m) : b < W.heap.size := by
  obtain ⟨D, h, _⟩ := h; exact h.lt
theorem Mp.mono {W : World} {b n k : Nat} {m : Int → Option Int} (h : Mp W b n m) (hn : n ≤ k) : Mp W b k m := by
  obtain ⟨D, h, r⟩ := h; exact ⟨D, h.mono hn, r⟩
theorem Mp.kept {W W' : World} {b n : Nat} {m : Int → Option Int} {row : Option Nat} (h : Mp W b n m) (hg : W.grownBy W' row) (hb : some b ≠ row) : Mp W' b n m := by
  obtain ⟨D, h, r⟩ := h; exact ⟨D, h.kept hg hb, r⟩
theorem Mp.next {W W' : World} {b n : Nat} {m : Int → Option Int} (h : Mp W b n m) (hb : Below W.heap.size W W') : Mp W' b n m := by
  obtain ⟨D, h, r⟩ := h
  have hl := h.lt
  obtain ⟨es, clock, he, F, hs, hD⟩ := h
  exact ⟨D, ⟨es, clock, (hb.block b hl).trans he, F, hs, hD⟩, r⟩
theorem Mp.other {W : World} {b n : Nat} {m : Int → Option Int} (h : Mp W b n m) {a : Addr} (ha : a.block ≠ b) (v : Value) : Mp (W.setCell a v) b n m := by
  obtain ⟨D, h, r⟩ := h
  exact ⟨D, h.setCell (fun e => ha e.symm) v, r⟩
theorem Mp.update {W : World} {b n : Nat} {m : Int → Option Int} (h : Mp W b n m) (hn : n < 1048576) {k x : Int} (hk : (lit k).wf = true) (hx : (lit x).wf = true) :
    ∃ W', (Instr.mapUpdate 43 (.map (some b)) (.int .i64 k) (.int .i64 x)).run Try.prog W = .ok () W' ∧ Mp W' b (n + 1) (mput m k x) ∧ W.grownBy W' (some b) := by
  obtain ⟨D, h, h1, h2⟩ := h
  obtain ⟨W', r, o, g⟩ := h.update keyLaw Try.underlying43 (by unfold maxLen; omega) (Maps.keyOf_int_mk Try.underlying3 hk) (plainElem_int Try.underlying3 hx)
  refine ⟨W', r, ⟨_, o, fun j => ?_, fun j y z hj => ?_⟩, g⟩
  · unfold mput
    by_cases e : j = k
    · subst e; rw [if_pos rfl]; exact Maps.has_put_same h.isMap (lit_key j) _
    · rw [if_neg e]; exact (Maps.has_put_other (lit_ne e) _).trans (h1 j)
  · unfold mput at hj
    by_cases e : j = k
    · subst e; rw [if_pos rfl] at hj; cases hj; exact Maps.atKey_put_same h.isMap (lit_key j) _ _
    · rw [if_neg e] at hj; exact (Maps.atKey_put_other (lit_ne e) _ _).trans (h2 j y z hj)
theorem wpList_mp_put {w : World} {ops : Array Oper} {rest : List Oper} {o : Oper} {a : Act} {Q : Exit → Act → World → Prop} (hg : o.guard = none) (m x v : Operand) (hop : o.op = Op.mapUpdate 43 m x v)
    (b n : Nat) (f : Int → Option Int) (k y : Int) (hm : a.eval m = .map (some b)) (hx : a.eval x = .int .i64 k) (hv : a.eval v = .int .i64 y) (h : Mp w b n f) (hn : n < 1048576) (hk : (lit k).wf = true) (hy : (lit y).wf = true)
    (hK : ∀ w', Mp w' b (n + 1) (mput f k y) → w.grownBy w' (some b) → wpList Try.prog ops Q rest (a.put o.dst undef) w') : wpList Try.prog ops Q (o :: rest) a w := by
  refine wpList_plain hg fun K' hK' => ?_
  obtain ⟨w', hrun, r1, r2⟩ := h.update hn hk hy
  unfold Oper.wp
  simp [execOp, hop, hm, hx, hv, hrun, Result.andThen]
  exact hK' _ _ (hK w' r1 r2)
/-- looked up where something stands -/
theorem wpList_mp_look {w : World} {ops : Array Oper} {rest : List Oper} {o : Oper} {a : Act} {Q : Exit → Act → World → Prop} (hg : o.guard = none) (m x : Operand) (hop : o.op = Op.lookup 43 m x false)
    (b n : Nat) (f : Int → Option Int) (k y : Int) (hm : a.eval m = .map (some b)) (hx : a.eval x = .int .i64 k) (h : Mp w b n f) (hk : (lit k).wf = true) (hy : f k = some y)
    (hK : wpList Try.prog ops Q rest (a.put o.dst (.int .i64 y)) w) : wpList Try.prog ops Q (o :: rest) a w := by
  obtain ⟨D, h, h1, h2⟩ := h
  refine wpList_lookup_own_int w hg m x 43 hop 3 3 .i64 keyLaw Try.underlying43 Try.underlying3 (zeroI w) b n D hm h (.int .i64 k) (lit k) hx (Maps.keyOf_int_mk Try.underlying3 hk) (fun c hat _ => ?_)
  have e := (h2 k y _ hy).symm.trans hat
  have e2 : y = c := by injection e with e; injection e
  rw [← e2]; exact hK
theorem wpList_mp_look_ok {w : World} {ops : Array Oper} {rest : List Oper} {o : Oper} {a : Act} {Q : Exit → Act → World → Prop} (hg : o.guard = none) (m x : Operand) (hop : o.op = Op.lookup 43 m x true)
    (b n : Nat) (f : Int → Option Int) (k y : Int) (hm : a.eval m = .map (some b)) (hx : a.eval x = .int .i64 k) (h : Mp w b n f) (hk : (lit k).wf = true) (hy : f k = some y)
    (hK : wpList Try.prog ops Q rest (a.put o.dst (.tuple #[.int .i64 y, .bool true])) w) : wpList Try.prog ops Q (o :: rest) a w := by
  obtain ⟨D, h, h1, h2⟩ := h
  refine wpList_lookup_own_ok_int w hg m x 43 hop 3 3 .i64 keyLaw Try.underlying43 Try.underlying3 (zeroI w) b n D hm h (.int .i64 k) (lit k) hx (Maps.keyOf_int_mk Try.underlying3 hk) (fun c hat _ => ?_)
  have e := (h2 k y _ hy).symm.trans hat
  have e2 : y = c := by injection e with e; injection e
  have e3 : Maps.has D (lit k) = true := by rw [h1 k, hy]; rfl
  rw [← e2, e3]; exact hK
theorem wpList_mp_look_no {w : World} {ops : Array Oper} {rest : List Oper} {o : Oper} {a : Act} {Q : Exit → Act → World → Prop} (hg : o.guard = none) (m x : Operand) (hop : o.op = Op.lookup 43 m x true)
    (b n : Nat) (f : Int → Option Int) (k : Int) (hm : a.eval m = .map (some b)) (hx : a.eval x = .int .i64 k) (h : Mp w b n f) (hk : (lit k).wf = true) (hy : f k = none)
    (hK : ∀ c : Int, wpList Try.prog ops Q rest (a.put o.dst (.tuple #[.int .i64 c, .bool false])) w) : wpList Try.prog ops Q (o :: rest) a w := by
  obtain ⟨D, h, h1, h2⟩ := h
  refine wpList_lookup_own_ok_int w hg m x 43 hop 3 3 .i64 keyLaw Try.underlying43 Try.underlying3 (zeroI w) b n D hm h (.int .i64 k) (lit k) hx (Maps.keyOf_int_mk Try.underlying3 hk) (fun c hat _ => ?_)
  have e3 : Maps.has D (lit k) = false := by rw [h1 k, hy]; rfl
  rw [e3]; exact hK c
theorem Mp.perm {W : World} {b n : Nat} {m : Int → Option Int} {D : DataW Unit} (h : W.ownsMap Try.prog 3 (plainElem Try.prog 3) b n D) (h1 : ∀ k, Maps.has D (lit k) = (m k).isSome) {l : List Int} (hnd : l.Nodup) (hm : ∀ k, k ∈ l ↔ (m k).isSome = true) : l.Perm (intKeys D) := by
  obtain ⟨es, hD, hpw, _⟩ := h.entries keyLaw
  obtain ⟨es', hD', hko⟩ := h.keysOf
  obtain rfl : es = es' := by rw [hD] at hD'; simpa using hD'
  subst hD
  exact perm_intKeys hpw (fun p hp => by obtain ⟨v, hv⟩ := hko p hp; obtain ⟨x, _, hx, _⟩ := Maps.keyOf_i64 Try.underlying3 hv; exact ⟨x, hx⟩) hnd (fun x => by rw [hm x, ← h1 x]; rfl)
theorem intKeys_size {W : World} {b n : Nat} {D : DataW Unit} (h : W.ownsMap Try.prog 3 (plainElem Try.prog 3) b n D) : (intKeys D).length = Maps.size D := by
  obtain ⟨es, rfl⟩ := h.isMap
  simp [intKeys, Maps.size]
theorem Mp.size {W : World} {b n : Nat} {m : Int → Option Int} (h : Mp W b n m) {l : List Int} (hnd : l.Nodup) (hm : ∀ k, k ∈ l ↔ (m k).isSome = true) (ty : TypeId) :
    (Builtin.len_ #[43] ty #[.map (some b)]).run Try.prog W = .ok (.int .i64 (l.length : Int)) W := by
  obtain ⟨D, h, h1, h2⟩ := h
  have hp := Mp.perm h h1 hnd hm
  rw [h.len Try.underlying43 ty, ← intKeys_size h, hp.length_eq]
theorem maps_keys (mb : Option Nat) (W : World) : Calls Try.prog 38 #[.map mb] W fun e w' => e = .returned (.func (.func 48) #[] #[.pointer (some ⟨W.heap.size, 0, none⟩)]) ∧ w' = W.alloc (.cells #[.map mb] 43) :=
  callsIn_wide.1 (AnyZI.keys_in Try.keysA Fence.wide 5 trivial rfl mb W)
theorem sortsA (m : Nat) : AnyZI.SortsIn Try.prog Try.sortedA_ren Fence.wide m :=
  ⟨fun blk off cap ss W hH hblk hsz => callsIn_wide.2 (AnyM.slices_Sort_int Try.laysSlM5_f47 blk off cap ss W hH hblk hsz),
   fun p cap W => callsIn_wide.2 (AnyM.slices_Sort_int_none Try.laysSlM5_f47 p cap W)⟩
theorem sort_same {ss l : List Int} (hp : ss.Perm l) (hs : l.Pairwise (· < ·)) : ss.mergeSort leI = l := by
  rw [mergeSort_of_perm_i hp]
  exact List.mergeSort_of_pairwise (hs.imp (fun h => by simp only [leI, decide_eq_true_eq]; omega))
theorem nodup_lt {l : List Int} (hs : l.Pairwise (· < ·)) : l.Nodup := hs.imp (fun h => by omega)
set_option maxHeartbeats 1000000 in
theorem sorted_keys {w : World} {b n : Nat} {m : Int → Option Int} (h : Mp w b n m) {l : List Int} (hs : l.Pairwise (· < ·)) (hm : ∀ k, k ∈ l ↔ (m k).isSome = true) (hl : l.length ≤ 8192) :
    Calls Try.prog 37 #[.func (.func 48) #[] #[.pointer (some ⟨w.heap.size, 0, none⟩)]] (w.alloc (.cells #[.map (some b)] 43)) fun e w' => ∃ q c, e = .returned (.slice q l.length c) ∧ NumsAt .i64 w' q l ∧ Below w.heap.size w w' ∧ ∀ ad, q = some ad → w.heap.size < ad.block := by
  obtain ⟨D, hown, h1, h2⟩ := h
  have hp := Mp.perm hown h1 (nodup_lt hs) hm
  have hsz : Maps.size D = l.length := by rw [← intKeys_size hown, hp.length_eq]
  have hbl := hown.lt
  have hmax : Maps.size D ≤ maxLen := by unfold maxLen; omega
  have hbytes : Maps.size D * 8 ≤ 140737488355328 := by omega
  have hseq : SeqGives Fence.wide 2 Try.prog 48 #[.pointer (some ⟨w.heap.size, 0, none⟩)] encZ (fun ss => ss.Perm (intKeys D)) (Maps.size D) (w.alloc (.cells #[.map (some b)] 43)) :=
    AnyZI.keys_gives (ρ := Try.keysA_ren) { Try.keysA with } Fence.wide _ trivial rfl (by omega) w.heap.size b n D _ (by simp) (by simp) (by
      obtain ⟨es, clock, hb, Ft, hs, hD⟩ := hown
      exact ⟨es, clock, (Below.heap_alloc _ _ b hbl).trans hb, Ft, hs, hD⟩)
  have cS := AnyZI.sorted_in Try.sortedA Fence.wide 5 trivial trivial trivial trivial rfl (by omega) (sortsA _) (enters_of Try.func47 (by kernel_rfl) rfl) 48 #[.pointer (some ⟨w.heap.size, 0, none⟩)] trivial (enters_of Try.func48 (by kernel_rfl) rfl) _ _ hmax hbytes _ hseq
  refine (callsIn_wide.1 cS).mono ?_
  rintro e w' ⟨v, ss, rfl, hS, hrow, hnil, hb⟩
  have hss : ss.mergeSort leI = l := sort_same (hS.trans hp.symm) hs
  have hlen : ss.length = l.length := (hS.trans hp.symm).length_eq
  have hrow' : w'.ownsRow (w.alloc (.cells #[.map (some b)] 43)).heap.size 3 1 v l.length (intsV l) := by
    have := hrow
    rw [show (fun x y => decide (x ≤ y) : Int → Int → Bool) = leI from rfl, hss, hlen] at this
    exact this
  obtain ⟨q, c, rfl⟩ := own_form hrow'
  refine ⟨q, c, rfl, own_nums hrow' (by omega), ((Below.refl _ w).alloc (Nat.le_refl _) _).trans (hb.mono (by simp)), fun ad e => ?_⟩
  have := (hrow'.lt ad.block (by rw [own_blk, e]; rfl)).1
  simp at this
  omega
end Go.Proofs.Ytlpijnnlmgoihaa
