/- Regions that draw their order, inside a round: where all only reads, or all but the last, which is a store. -/
import Derived.Sort.QuietIn
import Derived.RangeFuncCalls
namespace Go.Proofs.Ytgaacdnljkildaa
open Go.RowKit

section
variable {F : Fence} {n : Nat} {P : Program} {ops : Array Oper} {C : World → Prop}
def noDef (o : Oper) : Bool := match o.op with | .defer _ => false | _ => true
theorem noDef_out {o : Oper} (h : noDef o = true) : ∀ c, o.op ≠ .defer c := fun c e => by unfold noDef at h; rw [e] at h; cases h
theorem wpIn_quiet_r {o : Oper} {a : Act} {K : Act → Prop} {K' : Act → World → Prop} {Q' : Exit → Act → World → Prop} {w : World} (hd : noDef o = true) (hw : C w) (h : ∀ a w', C w' → K a → K' a w')
    (ha : o.askedIn F P a C) (hh : o.quietIn F n P a C K) : o.wpIn F n P a w K' Q' := by
  obtain ⟨v, h1, h2⟩ := hh
  have h3 := h1 w hw
  unfold Oper.quietAtIn at h3
  unfold Oper.wpIn
  refine ⟨ha w hw, ?_⟩
  rw [Oper.semAt_eq F.round a.eval o (noDef_out hd)]
  generalize (execOp a.eval o).run P w = r at *
  cases r with
  | ok x w' =>
    cases x <;> simp only [Oper.quietUponIn] at h3 <;> simp only [Oper.uponIn]
    case value u =>
      obtain ⟨e1, e2⟩ := h3
      rw [e1, e2]
      exact h _ _ hw h2
    case skip =>
      obtain ⟨e1, e2⟩ := h3
      rw [e1, ← e2]
      exact h _ _ hw h2
    case enter f args =>
      obtain ⟨e1, hd, hc⟩ := h3
      rw [e1]
      exact ⟨hd, hc.mono fun e w'' ⟨he, hw''⟩ => by subst he; exact h _ _ hw'' h2⟩
  | halt x w' => simp only [Oper.quietUponIn] at h3
theorem wpOpIn_quiet_r {ops' : Array Oper} {i : Nat} {a : Act} {K : Act → Prop} {K' : Act → World → Prop} {Q' : Exit → Act → World → Prop} {w : World} {o : Oper} (hi : ops[i]? = some o) (hi' : ops'[i]? = some o) (hg : o.guard = none) (hd : noDef o = true) (hC : C w) (h : ∀ a w', C w' → K a → K' a w')
    (hh : qOpIn F n P ops C i K a) : wpOpIn F n P ops' Q' i K' a w := by
  unfold qOpIn at hh
  unfold wpOpIn
  simp only [hi, hi', Region.wanted, hg, if_true] at hh ⊢
  exact wpIn_quiet_r hd hC h hh.1 hh.2
theorem wpQuietIn_ops {ops' : Array Oper} {Q : Act → Prop} : ∀ (l : List Oper) (a : Act), (∀ o ∈ l, o.guard = none) → wpQuietIn F n P ops C Q l a → wpQuietIn F n P ops' C Q l a
  | [], _, _, h => h
  | o :: rest, a, hg, h => by
    have g := hg o (List.mem_cons_self ..)
    simp only [wpQuietIn, Region.wanted, g, if_true] at h ⊢
    exact ⟨h.1, Oper.quietIn_mono (fun a h => wpQuietIn_ops rest a (fun o ho => hg o (List.mem_cons_of_mem _ ho)) h) h.2⟩
/-- all only reads -/
theorem region_quiet_r {id : Nat} {Q : Exit → Act → World → Prop} {a : Act} {w : World} {l : List Oper} (hm : P.follows .mixedOrders = true) (hB : Region.lexB .any l.toArray = true) (hg : l.all (fun o => o.guard.isNone) = true) (hd : l.all noDef = true)
    (h : wpQuietIn F n P l.toArray (fun w' => ∃ n, w' = w.drewN n) (fun a' => ∀ w', (∃ n, w' = w.drewN n) → Q .normal a' w') l a) : (Code.region id l.toArray true).wpIn F n P Q a w := by
  simp only [Region.lexB, Bool.and_eq_true] at hB
  have key : ∀ (fuel : Nat) (listed : Array Bool) (a : Act) (w' : World), (∃ n, w' = w.drewN n) → wpAnyQIn F n P .any l.toArray (fun w' => ∃ n, w' = w.drewN n) (fun a' => ∀ w', (∃ n, w' = w.drewN n) → Q .normal a' w') fuel listed a → wpAnyIn F n P .any l.toArray Q fuel listed a w' := by
    intro fuel
    induction fuel with
    | zero => intro listed a w' hw h; exact ⟨h.1, h.2 _ hw⟩
    | succ k ih =>
      intro listed a w' hw h
      refine ⟨fun h0 => h.1 h0 _ hw, fun i hi => ?_⟩
      obtain ⟨_, o, ho, _⟩ := mem_ready.1 hi
      have hm : o ∈ l := List.mem_of_getElem? (by simpa using ho)
      exact wpOpIn_quiet_r ho ho (by simpa using List.all_eq_true.1 hg o hm) (List.all_eq_true.1 hd o hm) hw (fun a w2 hw2 hh => ih _ a w2 hw2 hh) (h.2 i hi)
  refine wpIn_region_any hm (key _ _ _ _ ⟨1, rfl⟩ ?_)
  have := wpAnyQIn_lex (F := F) (n := n) (P := P) (C := fun w' => ∃ n, w' = w.drewN n) (Q := fun a' => ∀ w', (∃ n, w' = w.drewN n) → Q .normal a' w') (md := .any) hB.1 l 0 (Array.replicate l.length false) a (by simp) (by simpa using hB.2) h
  simpa using this
/-- all but the last only reads, and the last waits for all -/
def lastOk (l : List Oper) (N : Nat) : Bool :=
  (List.range N).all (fun j => ((l[N]?).map (fun o => o.after.any (fun e => Region.binds .any e && e.on == j))).getD false)
def lowOk (l : List Oper) (N : Nat) : Bool := (List.range N).all (fun i => ((l[i]?).map (fun o => o.after.all (fun e => decide (e.on < i)))).getD true)
theorem region_store_r {id N : Nat} {Q : Exit → Act → World → Prop} {a : Act} {w : World} {l : List Oper} {z : Oper} (hm : P.follows .mixedOrders = true) (hz : l[N]? = some z) (hN : l.length = N + 1) (hB : Region.lexB .any (l.take N).toArray = true) (hg : l.all (fun o => o.guard.isNone) = true) (hd : l.all noDef = true)
    (hlow : lowOk l N = true) (hlast : lastOk l N = true) (hzl : z.after.all (fun e => decide (e.on < N)) = true)
    (h : wpQuietIn F n P l.toArray (fun w' => ∃ n, w' = w.drewN n) (fun a' => ∀ w', (∃ n, w' = w.drewN n) → wpListIn F n P l.toArray Q [z] a' w') (l.take N) a) : (Code.region id l.toArray true).wpIn F n P Q a w := by
  have gd : ∀ o ∈ l, o.guard = none := fun o ho => by simpa using List.all_eq_true.1 hg o ho
  have low : ∀ i o, l[i]? = some o → ∀ e ∈ o.after, i ≤ N → e.on < i := fun i o ho e he hi => by
    rcases Nat.lt_or_ge i N with c | c
    · have := List.all_eq_true.1 hlow i (List.mem_range.2 c)
      rw [ho] at this
      simp only [Option.map_some, Option.getD_some, Array.all_eq_true'] at this
      simpa using this e he
    · obtain rfl : i = N := by omega
      rw [hz] at ho
      injection ho with ho
      subst ho
      simp only [Array.all_eq_true'] at hzl
      simpa using hzl e he
  have cov : ∀ j, j < N → ∃ e ∈ z.after, Region.binds .any e = true ∧ e.on = j := fun j hj => by
    have := List.all_eq_true.1 hlast j (List.mem_range.2 hj)
    rw [hz] at this
    simp only [Option.map_some, Option.getD_some, Array.any_eq_true', Bool.and_eq_true, beq_iff_eq] at this
    exact this
  simp only [Region.lexB, Bool.and_eq_true] at hB
  have key : ∀ (fuel : Nat) (l1 l2 : Array Bool) (a : Act) (w' : World), l1.size = N → l2.size = N + 1 → (∀ i, i < N → l2.getD i true = l1.getD i true) → l2.getD N true = false → (∃ n, w' = w.drewN n) →
      wpAnyQIn F n P .any (l.take N).toArray (fun w' => ∃ n, w' = w.drewN n) (fun a' => ∀ w', (∃ n, w' = w.drewN n) → wpListIn F n P l.toArray Q [z] a' w') fuel l1 a → wpAnyIn F n P .any l.toArray Q (fuel + 1) l2 a w' := by
    have fin : ∀ (fuel : Nat) (l2 : Array Bool) (a : Act) (w' : World), l2.size = N + 1 → (∀ i, i < N → l2.getD i true = true) → (∃ n, w' = w.drewN n) → (∀ w', (∃ n, w' = w.drewN n) → wpListIn F n P l.toArray Q [z] a w') →
        wpOpIn F n P l.toArray Q N (wpAnyIn F n P .any l.toArray Q fuel (l2.setIfInBounds N true)) a w' := by
      intro fuel l2 a w' hs hall hw hq
      have h1 := hq w' hw
      have gz : z.guard = none := gd z (List.mem_of_getElem? hz)
      have hz' : l.toArray[N]? = some z := by simpa using hz
      unfold wpOpIn
      simp only [hz', wpListIn, Region.wanted, gz, if_true] at h1 ⊢
      refine Oper.wpIn_mono (fun a w h => wpAnyIn_done ?_ h fuel) h1
      refine List.eq_nil_iff_forall_not_mem.2 fun i hi => ?_
      have h2 := (mem_ready.1 hi).1
      by_cases e : i = N
      · subst e
        rw [Array.getD_eq_getD_getElem?] at h2
        simp [hs] at h2
      · rw [getD_set_ne true (Ne.symm e)] at h2
        rcases Nat.lt_or_ge i N with c | c
        · rw [hall i c] at h2; cases h2
        · rw [Array.getD_eq_getD_getElem?, Array.getElem?_eq_none (by omega)] at h2
          cases h2
    have tr : ∀ (b : Array Bool) (i : Nat), b.getD i true = false → i < b.size := fun b i h => by
      rcases Nat.lt_or_ge i b.size with c | c
      · exact c
      · rw [Array.getD_eq_getD_getElem?, Array.getElem?_eq_none (by omega)] at h
        cases h
    have gf : ∀ (b : Array Bool) (i : Nat), i < b.size → b.getD i false = b.getD i true := fun b i h => by
      rw [Array.getD_eq_getD_getElem?, Array.getD_eq_getD_getElem?, Array.getElem?_eq_getElem h]; rfl
    have nil1 : ∀ l1 : Array Bool, l1.size = N → (∀ i, i < N → l1.getD i true = true) → Region.ready .any (l.take N).toArray l1 = [] := fun l1 hs hall => by
      refine List.eq_nil_iff_forall_not_mem.2 fun i hi => ?_
      have h2 := (mem_ready.1 hi).1
      have := tr _ _ h2
      rw [hall i (by omega)] at h2
      cases h2
    have prog : ∀ (l2 : Array Bool), l2.size = N + 1 → ∀ m, m ≤ N → l2.getD m true = false → ∃ i, i ∈ Region.ready .any l.toArray l2 := fun l2 hs m => by
      induction m using Nat.strongRecOn with
      | _ m ih =>
        intro hm2 hl
        have hmz : m < l.length := by omega
        by_cases c : ∀ e ∈ l[m].after, Region.binds .any e = true → l2.getD e.on false = true
        · exact ⟨m, mem_ready.2 ⟨hl, l[m], by simp [hmz], c⟩⟩
        · simp only [Classical.not_forall] at c
          obtain ⟨e, he, _, hb⟩ := c
          have lt := low m l[m] (by simp [hmz]) e he hm2
          rw [gf _ _ (by omega)] at hb
          exact ih e.on lt (by omega) (by simpa using hb)
    have sub : ∀ (l1 l2 : Array Bool) (i : Nat), l1.size = N → l2.size = N + 1 → (∀ i, i < N → l2.getD i true = l1.getD i true) → i < N → i ∈ Region.ready .any l.toArray l2 → i ∈ Region.ready .any (l.take N).toArray l1 := fun l1 l2 i h1 h2 he hi hr => by
      obtain ⟨a1, o, ho, a2⟩ := mem_ready.1 hr
      have ho' : l[i]? = some o := by simpa using ho
      refine mem_ready.2 ⟨by rw [← he i hi]; exact a1, o, ?_, fun e hee hb => ?_⟩
      · rw [List.getElem?_toArray, List.getElem?_take, if_pos hi]
        exact ho'
      · have lt := low i o ho' e hee (by omega)
        have := a2 e hee hb
        rw [gf _ _ (by omega)] at this ⊢
        rw [← he _ (by omega)]
        exact this
    have last : ∀ (l1 l2 : Array Bool), l2.size = N + 1 → (∀ i, i < N → l2.getD i true = l1.getD i true) → N ∈ Region.ready .any l.toArray l2 → ∀ i, i < N → l2.getD i true = true := fun l1 l2 h2 he hr i hi => by
      obtain ⟨a1, o, ho, a2⟩ := mem_ready.1 hr
      have ho' : l[N]? = some o := by simpa using ho
      rw [hz] at ho'
      injection ho' with ho'
      subst ho'
      obtain ⟨e, hee, hb, rfl⟩ := cov i hi
      have := a2 e hee hb
      rwa [gf _ _ (by omega)] at this
    intro fuel
    induction fuel with
    | zero =>
      intro l1 l2 a w' h1 h2 he hN2 hw hq
      refine ⟨fun h0 => ?_, fun i hi => ?_⟩
      · obtain ⟨i, hi⟩ := prog l2 h2 N (Nat.le_refl _) hN2
        rw [h0] at hi
        cases hi
      · rcases Nat.lt_or_ge i N with c | c
        · have := sub l1 l2 i h1 h2 he c hi
          rw [hq.1] at this
          cases this
        · have := tr _ _ (mem_ready.1 hi).1
          obtain rfl : i = N := by omega
          exact fin 0 l2 a w' h2 (last l1 l2 h2 he hi) hw hq.2
    | succ k ih =>
      intro l1 l2 a w' h1 h2 he hN2 hw hq
      refine ⟨fun h0 => ?_, fun i hi => ?_⟩
      · obtain ⟨i, hi⟩ := prog l2 h2 N (Nat.le_refl _) hN2
        rw [h0] at hi
        cases hi
      · rcases Nat.lt_or_ge i N with c | c
        · have hr := sub l1 l2 i h1 h2 he c hi
          obtain ⟨_, o, ho, _⟩ := mem_ready.1 hi
          obtain ⟨_, o1, ho1, _⟩ := mem_ready.1 hr
          have ho2 : l[i]? = some o := by simpa using ho
          have ho3 : (l.take N).toArray[i]? = some o := by rw [List.getElem?_toArray, List.getElem?_take, if_pos c]; exact ho2
          have hmem : o ∈ l := List.mem_of_getElem? ho2
          refine wpOpIn_quiet_r ho3 ho (gd o hmem) (List.all_eq_true.1 hd o hmem) hw (fun a w2 hw2 hh => ih (l1.setIfInBounds i true) (l2.setIfInBounds i true) a w2 (by simpa using h1) (by simpa using h2) (fun j hj => ?_) ?_ hw2 hh) (hq.2 i hr)
          · by_cases e : i = j
            · subst e
              rw [Array.getD_eq_getD_getElem?, Array.getD_eq_getD_getElem?]
              simp [h1, h2, c]
            · rw [getD_set_ne true e, getD_set_ne true e]
              exact he j hj
          · rw [getD_set_ne true (by omega)]
            exact hN2
        · have := tr _ _ (mem_ready.1 hi).1
          obtain rfl : i = N := by omega
          have hall := last l1 l2 h2 he hi
          exact fin (k + 1) l2 a w' h2 hall hw (hq.1 (nil1 l1 h1 (fun j hj => by rw [← he j hj]; exact hall j hj)))
  refine wpIn_region_any hm ?_
  have hlt : (l.take N).length = N := by simp; omega
  have h2 := wpQuietIn_ops (ops' := (l.take N).toArray) (l.take N) a (fun o ho => gd o (List.mem_of_mem_take ho)) h
  have h3 := wpAnyQIn_lex (md := .any) hB.1 (l.take N) 0 (Array.replicate N false) a (by simp) (by have := hB.2; simp only [List.size_toArray, hlt] at this; rw [hlt]; exact this) h2
  rw [hlt] at h3
  have h4 := key N (Array.replicate N false) (Array.replicate (N + 1) false) a { w with drawn := w.drawn + 1 } (by simp) (by simp) (fun i hi => by
    rw [Array.getD_eq_getD_getElem?, Array.getD_eq_getD_getElem?]
    simp [hi, Nat.lt_succ_of_lt hi]) (by rw [Array.getD_eq_getD_getElem?]; simp) ⟨1, rfl⟩ h3
  have hs : l.toArray.size = N + 1 := by simpa using hN
  rw [hs]
  exact h4
end
end Go.Proofs.Ytgaacdnljkildaa
