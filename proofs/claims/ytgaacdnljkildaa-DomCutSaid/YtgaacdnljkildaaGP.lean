/- Plain facts on dominance (no program): what one may come to, who cannot be left out, in which order. -/
import Derived.Below

/- Plain facts on dominance (no program): what one may come to, who cannot be left out, in which order. -/
namespace Go.Proofs.Ytgaacdnljkildaa
namespace Dm

/-- nodes, and where each leads to -/
structure Dg where
  N : Nat
  e : Nat → Nat → Prop
  lt : ∀ i j, e i j → j < N
variable {G : Dg}
/-- one may come to it from 0, not by way of S -/
inductive Dg.Av (G : Dg) (S : Nat → Prop) : Nat → Prop
  | zero : 0 < G.N → ¬ S 0 → Dg.Av G S 0
  | step {i j : Nat} : Dg.Av G S i → G.e i j → ¬ S j → Dg.Av G S j
/-- one may come to it from s, not by way of S behind s -/
inductive Dg.Fr (G : Dg) (S : Nat → Prop) (s : Nat) : Nat → Prop
  | here : Dg.Fr G S s s
  | step {i j : Nat} : Dg.Fr G S s i → G.e i j → ¬ S j → Dg.Fr G S s j
def Dg.R (G : Dg) (b : Nat) : Prop := G.Av (fun _ => False) b
def Dg.W (G : Dg) (a b : Nat) : Prop := G.Av (fun x => x = a) b
theorem Dg.Av.lt {S : Nat → Prop} {b : Nat} (h : G.Av S b) : b < G.N := by
  cases h with
  | zero h _ => exact h
  | step _ h _ => exact G.lt _ _ h
theorem Dg.Av.no {S : Nat → Prop} {b : Nat} (h : G.Av S b) : ¬ S b := by
  cases h with
  | zero _ h => exact h
  | step _ _ h => exact h
theorem Dg.Av.mono {S T : Nat → Prop} (h : ∀ x, T x → S x) {b : Nat} (hb : G.Av S b) : G.Av T b := by
  induction hb with
  | zero h0 h1 => exact .zero h0 (fun c => h1 (h _ c))
  | step _ he h1 ih => exact .step ih he (fun c => h1 (h _ c))
theorem Dg.Av.on {S : Nat → Prop} {s b : Nat} (hs : G.Av S s) (h : G.Fr S s b) : G.Av S b := by
  induction h with
  | here => exact hs
  | step _ he h1 ih => exact .step ih he h1
theorem Dg.W.r {a b : Nat} (h : G.W a b) : G.R b := Dg.Av.mono (fun _ c => c.elim) h
theorem Dg.R.lt {b : Nat} (h : G.R b) : b < G.N := Dg.Av.lt h
/-- a dominates b -/
def Dg.D (G : Dg) (a b : Nat) : Prop := G.R a ∧ G.R b ∧ (a = b ∨ ¬ G.W a b)
theorem Dg.D.self {a : Nat} (h : G.R a) : G.D a a := ⟨h, h, .inl rfl⟩
/-- on the way to c, one may leave b out, or comes to b -/
theorem Dg.out_or {S : Nat → Prop} {c : Nat} (h : G.Av S c) (b : Nat) : G.W b c ∨ G.Av S b := by
  induction h with
  | zero h0 h1 =>
    by_cases e : 0 = b
    · subst e; exact .inr (.zero h0 h1)
    · exact .inl (.zero h0 e)
  | @step i j hi he h1 ih =>
    rcases ih with ih | ih
    · by_cases e : j = b
      · subst e; exact .inr (.step hi he h1)
      · exact .inl (.step ih he e)
    · exact .inr ih
theorem Dg.D.trans {a b c : Nat} (h1 : G.D a b) (h2 : G.D b c) : G.D a c := by
  obtain ⟨ha, hb, h1⟩ := h1
  obtain ⟨_, hc, h2⟩ := h2
  refine ⟨ha, hc, ?_⟩
  rcases h1 with rfl | h1
  · exact h2
  · rcases h2 with rfl | h2
    · exact .inr h1
    · right
      intro h
      rcases Dg.out_or h b with k | k
      · exact h2 k
      · exact h1 k
/-- the first of two nodes that one comes to -/
theorem Dg.first {a b c : Nat} (hc : G.R c) (hab : a ≠ b) : G.W a b ∨ G.W b a ∨ G.Av (fun x => x = a ∨ x = b) c := by
  induction hc with
  | zero h0 _ =>
    by_cases ea : 0 = a
    · subst ea; exact .inr (.inl (.zero h0 (fun e => hab e)))
    · by_cases eb : 0 = b
      · subst eb; exact .inl (.zero h0 (fun e => hab e.symm))
      · exact .inr (.inr (.zero h0 (fun c => c.elim ea eb)))
  | @step i j hi he _ ih =>
    rcases ih with ih | ih | ih
    · exact .inl ih
    · exact .inr (.inl ih)
    · by_cases ea : j = a
      · subst ea
        exact .inr (.inl (.step (Dg.Av.mono (fun _ c => .inr c) ih) he (fun e => hab e)))
      · by_cases eb : j = b
        · subst eb
          exact .inl (.step (Dg.Av.mono (fun _ c => .inl c) ih) he (fun e => hab e.symm))
        · exact .inr (.inr (.step ih he (fun c => c.elim ea eb)))
theorem Dg.D.anti {a b : Nat} (h1 : G.D a b) (h2 : G.D b a) : a = b := by
  obtain ⟨ha, hb, h1⟩ := h1
  obtain ⟨_, _, h2⟩ := h2
  rcases h1 with e | h1
  · exact e
  · rcases h2 with e | h2
    · exact e.symm
    · exact Classical.byContradiction fun hab => by
        rcases Dg.first ha hab with k | k | k
        · exact h1 k
        · exact h2 k
        · exact k.no (.inl rfl)
/-- the last of two nodes that one was at -/
theorem Dg.latest {a b c : Nat} (hc : G.R c) : G.Av (fun x => x = a ∨ x = b) c ∨ G.Fr (fun x => x = b) a c ∨ G.Fr (fun x => x = a) b c := by
  induction hc with
  | zero h0 _ =>
    by_cases ea : 0 = a
    · subst ea; exact .inr (.inl .here)
    · by_cases eb : 0 = b
      · subst eb; exact .inr (.inr .here)
      · exact .inl (.zero h0 (fun c => c.elim ea eb))
  | @step i j hi he _ ih =>
    by_cases ea : j = a
    · subst ea; exact .inr (.inl .here)
    · by_cases eb : j = b
      · subst eb; exact .inr (.inr .here)
      · rcases ih with ih | ih | ih
        · exact .inl (.step ih he (fun c => c.elim ea eb))
        · exact .inr (.inl (.step ih he eb))
        · exact .inr (.inr (.step ih he ea))
/-- the dominators of a node are in a row -/
theorem Dg.D.row {a b c : Nat} (h1 : G.D a c) (h2 : G.D b c) : G.D a b ∨ G.D b a := by
  obtain ⟨ha, hc, h1⟩ := h1
  obtain ⟨hb, _, h2⟩ := h2
  rcases h1 with rfl | h1
  · exact .inr ⟨hb, ha, h2⟩
  · rcases h2 with rfl | h2
    · exact .inl ⟨ha, hb, .inr h1⟩
    · by_cases w1 : G.W a b
      · by_cases w2 : G.W b a
        · exfalso
          rcases Dg.latest (a := a) (b := b) hc with k | k | k
          · exact h1 (Dg.Av.mono (fun _ e => .inl e) k)
          · exact h2 (Dg.Av.on w2 k)
          · exact h1 (Dg.Av.on w1 k)
        · exact .inr ⟨hb, ha, .inr w2⟩
      · exact .inl ⟨ha, hb, .inr w1⟩
/-- the first node dominates all that one may come to -/
theorem Dg.w0 {b : Nat} : ¬ G.W 0 b := by
  intro h
  induction h with
  | zero _ h => exact h rfl
  | step _ _ _ ih => exact ih
theorem Dg.r0 {b : Nat} (h : G.R b) : G.R 0 := by
  induction h with
  | zero h0 h1 => exact .zero h0 h1
  | step _ _ _ ih => exact ih
theorem Dg.d0 {b : Nat} (h : G.R b) : G.D 0 b := ⟨Dg.r0 h, h, .inr Dg.w0⟩
/-- the immediate dominator -/
structure Dg.I (G : Dg) (b a : Nat) : Prop where
  ne : a ≠ b
  d : G.D a b
  top : ∀ x, x ≠ b → G.D x b → G.D x a
theorem Dg.I.one {b a a' : Nat} (h : G.I b a) (h' : G.I b a') : a = a' := (h'.top a h.ne h.d).anti (h.top a' h'.ne h'.d)
/-- of the first k nodes the one that all others dominate -/
def Dg.Best (G : Dg) (b k : Nat) (best : Int) : Prop :=
  (best = -1 ∧ ∀ x, x < k → x ≠ b → ¬ G.D x b) ∨ ∃ a : Nat, best = (a : Int) ∧ a < k ∧ a ≠ b ∧ G.D a b ∧ ∀ x, x < k → x ≠ b → G.D x b → G.D x a
theorem Dg.Best.start (b : Nat) : G.Best b 0 (-1) := .inl ⟨rfl, fun _ h => absurd h (Nat.not_lt_zero _)⟩
/-- one more node, that is no dominator, or does not stand behind the best -/
theorem Dg.Best.no {b k : Nat} {best : Int} (h : G.Best b k best) (hk : ¬ (k ≠ b ∧ G.D k b)) : G.Best b (k + 1) best := by
  rcases h with ⟨e, h⟩ | ⟨a, e, h1, h2, h3, h4⟩
  · refine .inl ⟨e, fun x hx hb hd => ?_⟩
    by_cases c : x = k
    · subst c; exact hk ⟨hb, hd⟩
    · exact h x (by omega) hb hd
  · refine .inr ⟨a, e, by omega, h2, h3, fun x hx hb hd => ?_⟩
    by_cases c : x = k
    · subst c; exact absurd ⟨hb, hd⟩ hk
    · exact h4 x (by omega) hb hd
theorem Dg.Best.keep {b k a : Nat} (h : G.Best b k (a : Int)) (hn : ¬ G.D a k) : G.Best b (k + 1) (a : Int) := by
  rcases h with ⟨e, _⟩ | ⟨a', e, h1, h2, h3, h4⟩
  · omega
  · obtain rfl : a = a' := by omega
    refine .inr ⟨a, rfl, by omega, h2, h3, fun x hx hb hd => ?_⟩
    by_cases c : x = k
    · subst c
      rcases Dg.D.row h3 hd with r | r
      · exact absurd r hn
      · exact r
    · exact h4 x (by omega) hb hd
theorem Dg.Best.first {b k : Nat} (h : G.Best b k (-1)) (hb : k ≠ b) (hd : G.D k b) : G.Best b (k + 1) (k : Int) := by
  rcases h with ⟨_, h⟩ | ⟨a, e, _⟩
  · refine .inr ⟨k, rfl, by omega, hb, hd, fun x hx hxb hxd => ?_⟩
    by_cases c : x = k
    · subst c; exact Dg.D.self hxd.1
    · exact absurd hxd (h x (by omega) hxb)
  · omega
theorem Dg.Best.new {b k a : Nat} (h : G.Best b k (a : Int)) (hb : k ≠ b) (hd : G.D k b) (hk : G.D a k) : G.Best b (k + 1) (k : Int) := by
  rcases h with ⟨e, _⟩ | ⟨a', e, h1, h2, h3, h4⟩
  · omega
  · obtain rfl : a = a' := by omega
    refine .inr ⟨k, rfl, by omega, hb, hd, fun x hx hxb hxd => ?_⟩
    by_cases c : x = k
    · subst c; exact Dg.D.self hxd.1
    · exact (h4 x (by omega) hxb hxd).trans hk
/-- what a table of immediate dominators says -/
def Dg.Up (G : Dg) (b : Nat) (v : Int) : Prop := (v = -1 ∧ ∀ x, x ≠ b → ¬ G.D x b) ∨ ∃ a : Nat, v = (a : Int) ∧ G.I b a
theorem Dg.Best.done {b : Nat} {v : Int} (h : G.Best b G.N v) : G.Up b v := by
  rcases h with ⟨e, h⟩ | ⟨a, e, _, h2, h3, h4⟩
  · exact .inl ⟨e, fun x hx hd => h x hd.1.lt hx hd⟩
  · exact .inr ⟨a, e, h2, h3, fun x hx hd => h4 x hd.1.lt hx hd⟩
theorem Dg.Up.one {b : Nat} {v v' : Int} (h : G.Up b v) (h' : G.Up b v') : v = v' := by
  rcases h with ⟨e, h⟩ | ⟨a, e, h⟩
  · rcases h' with ⟨e', _⟩ | ⟨a', _, h'⟩
    · rw [e, e']
    · exact absurd h'.d (h _ h'.ne)
  · rcases h' with ⟨_, h'⟩ | ⟨a', e', h'⟩
    · exact absurd h.d (h' _ h.ne)
    · rw [e, e', h.one h']
theorem Dg.Up.range {b : Nat} {v : Int} (h : G.Up b v) : -1 ≤ v ∧ v < (G.N : Int) := by
  rcases h with ⟨rfl, _⟩ | ⟨a, rfl, h⟩
  · omega
  · have := h.d.1.lt; omega
/-- who stands above: Dom a b, a not b, is Dom a of the one above b -/
theorem Dg.above {b u : Nat} (h : G.I b u) {a : Nat} : G.D a b ↔ (a = b ∧ G.R b) ∨ G.D a u := by
  constructor
  · intro hd
    by_cases e : a = b
    · exact .inl ⟨e, hd.2.1⟩
    · exact .inr (h.top a e hd)
  · rintro (⟨rfl, hr⟩ | hd)
    · exact Dg.D.self hr
    · exact hd.trans h.d
theorem Dg.alone {b : Nat} (h : ∀ x, x ≠ b → ¬ G.D x b) {a : Nat} : G.D a b ↔ a = b ∧ G.R b := by
  constructor
  · intro hd
    by_cases e : a = b
    · exact ⟨e, hd.2.1⟩
    · exact absurd hd (h a e)
  · rintro ⟨rfl, hr⟩; exact Dg.D.self hr
/-- a row of numbers that go up -/
def Dg.chain (up : Nat → Int) : Nat → Int → List Int
  | 0, _ => []
  | f + 1, x => if 0 ≤ x then x :: Dg.chain up f (up x.toNat) else []
open Classical in
/-- how many dominators a node has -/
noncomputable def Dg.dn (G : Dg) (b : Nat) : Nat := ((List.range G.N).filter fun a => decide (G.D a b)).length
theorem Dg.dn_le (b : Nat) : G.dn b ≤ G.N := by
  classical
  unfold Dg.dn
  have := List.length_filter_le (fun a => decide (G.D a b)) (List.range G.N)
  rw [List.length_range] at this
  exact this
theorem filter_lt {p q : Nat → Bool} : ∀ {l : List Nat}, (∀ x ∈ l, p x = true → q x = true) → (∃ x ∈ l, q x = true ∧ p x = false) → (l.filter p).length < (l.filter q).length
  | [], _, ⟨x, hx, _⟩ => by cases hx
  | y :: l, h, ⟨x, hx, hq, hp⟩ => by
    have hle : (l.filter p).length ≤ (l.filter q).length := by
      have : ∀ m : List Nat, (∀ x ∈ m, p x = true → q x = true) → (m.filter p).length ≤ (m.filter q).length := by
        intro m
        induction m with
        | nil => intro _; exact Nat.le_refl _
        | cons z m ih =>
          intro hm
          have ih' := ih (fun x hx => hm x (List.mem_cons_of_mem _ hx))
          cases hz : p z with
          | true =>
            rw [List.filter_cons_of_pos hz, List.filter_cons_of_pos (hm z (List.mem_cons_self ..) hz)]
            simp only [List.length_cons]; omega
          | false =>
            rw [List.filter_cons_of_neg (by rw [hz]; simp)]
            cases hq : q z with
            | true => rw [List.filter_cons_of_pos hq]; simp only [List.length_cons]; omega
            | false => rw [List.filter_cons_of_neg (by rw [hq]; simp)]; exact ih'
      exact this l (fun x hx => h x (List.mem_cons_of_mem _ hx))
    rcases List.mem_cons.1 hx with e | hx'
    · subst e
      rw [List.filter_cons_of_neg (by rw [hp]; simp), List.filter_cons_of_pos hq]
      simp only [List.length_cons]; omega
    · have ih := filter_lt (l := l) (fun x hx => h x (List.mem_cons_of_mem _ hx)) ⟨x, hx', hq, hp⟩
      cases hz : p y with
      | true =>
        rw [List.filter_cons_of_pos hz, List.filter_cons_of_pos (h y (List.mem_cons_self ..) hz)]
        simp only [List.length_cons]; omega
      | false =>
        rw [List.filter_cons_of_neg (by rw [hz]; simp)]
        cases hq : q y with
        | true => rw [List.filter_cons_of_pos hq]; simp only [List.length_cons]; omega
        | false => rw [List.filter_cons_of_neg (by rw [hq]; simp)]; exact ih
theorem Dg.dn_lt {b a : Nat} (h : G.I b a) : G.dn a < G.dn b := by
  classical
  unfold Dg.dn
  refine filter_lt (fun x _ hx => ?_) ⟨b, List.mem_range.2 h.d.2.1.lt, ?_, ?_⟩
  · exact decide_eq_true ((of_decide_eq_true hx).trans h.d)
  · exact decide_eq_true (Dg.D.self h.d.2.1)
  · refine decide_eq_false (fun c => h.ne (h.d.anti c))
theorem Dg.dn_pos {b : Nat} (h : G.R b) : 0 < G.dn b := by
  classical
  unfold Dg.dn
  refine List.length_pos_of_mem (List.mem_filter.2 ⟨List.mem_range.2 h.lt, decide_eq_true (Dg.D.self h)⟩)
/-- a walk upward from x: who was met, and what is left -/
structure Dg.Climb (G : Dg) (b a : Nat) (inn : Bool) (x : Int) (n : Nat) : Prop where
  to : x = -1 ∨ ∃ y : Nat, x = (y : Int) ∧ y < G.N ∧ (G.R b → G.R y)
  left : ∀ y : Nat, x = (y : Int) → G.R b → G.dn y + n ≤ G.dn b
  stop : ¬ G.R b → x = -1 ∨ n = 0
  is : G.R b → (G.D a b ↔ inn = true ∨ ∃ y : Nat, x = (y : Int) ∧ G.D a y)
theorem Dg.Climb.start {b a : Nat} (hb : b < G.N) : G.Climb b a false (b : Int) 0 :=
  ⟨.inr ⟨b, rfl, hb, id⟩, fun y e hr => by have : b = y := by omega
                                           rw [this]; omega, fun _ => .inr rfl, fun _ => ⟨fun h => .inr ⟨b, rfl, h⟩, fun h => by
    rcases h with h | ⟨y, e, h⟩
    · cases h
    · have : b = y := by omega
      rw [this]; exact h⟩⟩
theorem Dg.Climb.step {b a n y : Nat} {inn : Bool} {v : Int} (h : G.Climb b a inn (y : Int) n) (hv : G.Up y v) (hu : ¬ G.R y → v = -1) (hb : n = 0 → y = b) : G.Climb b a (inn || decide (y = a)) v (n + 1) := by
  have hy : G.R b → G.R y := fun hr => by
    rcases h.to with e | ⟨y', e, _, h2⟩
    · omega
    · have : y = y' := by omega
      rw [this]; exact h2 hr
  refine ⟨?_, fun z e hr => ?_, fun hr => ?_, fun hr => ?_⟩
  · rcases hv with ⟨e, _⟩ | ⟨u, e, hi⟩
    · exact .inl e
    · exact .inr ⟨u, e, hi.d.1.lt, fun _ => hi.d.1⟩
  · have := h.left y rfl hr
    rcases hv with ⟨e', _⟩ | ⟨u, e', hi⟩
    · omega
    · have hz : z = u := by omega
      have := Dg.dn_lt hi
      rw [hz]; omega
  · left
    rcases h.stop hr with e | e
    · omega
    · exact hu (by rw [hb e]; exact hr)
  · rw [h.is hr]
    have hyr := hy hr
    have key : (∃ y' : Nat, (y : Int) = (y' : Int) ∧ G.D a y') ↔ G.D a y := ⟨fun ⟨y', e, hd⟩ => by
      have : y = y' := by omega
      rw [this]; exact hd, fun hd => ⟨y, rfl, hd⟩⟩
    rw [key, Bool.or_eq_true, decide_eq_true_eq]
    rcases hv with ⟨e', hal⟩ | ⟨u, e', hi⟩
    · rw [Dg.alone hal]
      constructor
      · rintro (c | ⟨c, _⟩)
        · exact .inl (.inl c)
        · exact .inl (.inr c.symm)
      · rintro ((c | c) | ⟨z, e, _⟩)
        · exact .inl c
        · exact .inr ⟨c.symm, hyr⟩
        · omega
    · rw [Dg.above hi]
      constructor
      · rintro (c | ⟨c, _⟩ | c)
        · exact .inl (.inl c)
        · exact .inl (.inr c.symm)
        · exact .inr ⟨u, e', c⟩
      · rintro ((c | c) | ⟨z, e, c⟩)
        · exact .inl c
        · exact .inr (.inl ⟨c.symm, hyr⟩)
        · have : z = u := by omega
          rw [this] at c
          exact .inr (.inr c)
/-- at the end -/
theorem Dg.Climb.done {b a n : Nat} {inn : Bool} (h : G.Climb b a inn (-1) n) (hr : G.R b) : G.D a b ↔ inn = true := by
  rw [h.is hr]
  constructor
  · rintro (c | ⟨y, e, _⟩)
    · exact c
    · omega
  · exact .inl
/-- it ends -/
theorem Dg.Climb.ends {b a n : Nat} {inn : Bool} {x : Int} (h : G.Climb b a inn x n) (hn : G.N < n) : x = -1 := by
  rcases h.to with e | ⟨y, e, hy, _⟩
  · exact e
  · by_cases hr : G.R b
    · have := h.left y e hr
      have := Dg.dn_le (G := G) b
      omega
    · rcases h.stop hr with e2 | e2
      · exact e2
      · omega
end Dm
end Go.Proofs.Ytgaacdnljkildaa

/- Plain facts on dominance (no program): the order in which a walk leaves nodes. -/
namespace Go.Proofs.Ytgaacdnljkildaa
namespace Dm

/-- rows of numbers as a graph -/
def gD (N : Nat) (su : Nat → List Int) : Dg := { N := N, e := fun i j => i < N ∧ (j : Int) ∈ su i ∧ j < N, lt := fun _ _ h => h.2.2 }
/-- a walk that begins at x: what was met, what was left -/
def vis (N : Nat) (su : Nat → List Int) : Nat → List Bool × List Nat → Int → List Bool × List Nat
  | 0, s, _ => s
  | f + 1, s, x => if 0 ≤ x ∧ x < (N : Int) ∧ s.1.getD x.toNat false = false then
      (((su x.toNat).foldl (vis N su f) (s.1.set x.toNat true, s.2)).1, ((su x.toNat).foldl (vis N su f) (s.1.set x.toNat true, s.2)).2 ++ [x.toNat]) else s
def ordN (N : Nat) (su : Nat → List Int) : List Nat := (vis N su (N + 1) (List.replicate N false, []) 0).2.reverse
def unmet (l : List Bool) : Nat := l.count false
theorem getD_set_t (l : List Bool) (i j : Nat) : (l.set i true).getD j false = (decide (j = i ∧ i < l.length) || l.getD j false) := by
  rw [List.getD_eq_getElem?_getD, List.getD_eq_getElem?_getD, List.getElem?_set]
  by_cases e : i = j
  · subst e
    by_cases h : i < l.length
    · simp [h]
    · rw [if_pos rfl, if_neg h, List.getElem?_eq_none (by omega)]; simp [h]
  · rw [if_neg e]
    have : ¬ (j = i ∧ i < l.length) := fun c => e c.1.symm
    simp [this]
theorem unmet_set : ∀ {l : List Bool} {i : Nat}, i < l.length → l.getD i false = false → unmet (l.set i true) + 1 = unmet l
  | [], i, hi, _ => absurd hi (Nat.not_lt_zero _)
  | b :: l, 0, _, h => by
    have e : b = false := by simpa using h
    subst e
    simp [unmet]
  | b :: l, i + 1, hi, h => by
    have := unmet_set (l := l) (i := i) (by simpa using hi) (by simpa using h)
    unfold unmet at *
    cases b <;> simp <;> omega
theorem unmet_mono : ∀ {l m : List Bool}, m.length = l.length → (∀ i, l.getD i false = true → m.getD i false = true) → unmet m ≤ unmet l
  | [], [], _, _ => Nat.le_refl _
  | [], _ :: _, h, _ => by cases h
  | _ :: _, [], h, _ => by cases h
  | a :: l, b :: m, h, hu => by
    have ih := unmet_mono (l := l) (m := m) (by simpa using h) (fun i hi => by
      have := hu (i + 1) (by simpa using hi)
      simpa using this)
    have h0 := hu 0
    unfold unmet at *
    cases a <;> cases b <;> simp at h0 ⊢ <;> omega
/-- b stands ahead of a -/
def Pre (l : List Nat) (b a : Nat) : Prop := ∃ l1 l2, l = l1 ++ b :: l2 ∧ a ∈ l2
theorem Pre.left {l m : List Nat} {b a : Nat} (h : Pre l b a) : Pre (l ++ m) b a := by
  obtain ⟨l1, l2, rfl, h⟩ := h
  exact ⟨l1, l2 ++ m, by simp, List.mem_append_left _ h⟩
theorem Pre.right {l m : List Nat} {b a : Nat} (h : Pre m b a) : Pre (l ++ m) b a := by
  obtain ⟨l1, l2, rfl, h⟩ := h
  exact ⟨l ++ l1, l2, by simp, h⟩
theorem Pre.last {l : List Nat} {b a : Nat} (h : b ∈ l) : Pre (l ++ [a]) b a := by
  obtain ⟨l1, l2, rfl⟩ := List.append_of_mem h
  exact ⟨l1, l2 ++ [a], by simp, by simp⟩
/-- what a walk from s to t did; G stands for the graph, Y for those that are met and not left -/
structure Ps (G : Dg) (Y : Nat → Prop) (s t : List Bool × List Nat) (l : List Nat) : Prop where
  len : t.1.length = s.1.length
  up : ∀ i, s.1.getD i false = true → t.1.getD i false = true
  ext : t.2 = s.2 ++ l
  nd : l.Nodup
  is : ∀ i, i ∈ l ↔ t.1.getD i false = true ∧ s.1.getD i false = false
  r : ∀ b ∈ l, G.R b
  dom : ∀ b ∈ l, ∀ a, G.D a b → a ≠ b → Y a ∨ Pre l b a
  cl : ∀ b ∈ l, ∀ z, G.e b z → t.1.getD z false = true
theorem Ps.refl (G : Dg) (Y : Nat → Prop) (s : List Bool × List Nat) : Ps G Y s s [] :=
  ⟨rfl, fun _ h => h, by simp, List.nodup_nil, fun i => ⟨fun h => (by cases h), fun h => (by rw [h.1] at h; cases h.2)⟩, fun _ h => (by cases h), fun _ h => (by cases h), fun _ h => (by cases h)⟩
theorem Ps.trans {G : Dg} {Y : Nat → Prop} {s t u : List Bool × List Nat} {l m : List Nat} (h : Ps G Y s t l) (k : Ps G Y t u m) : Ps G Y s u (l ++ m) := by
  refine ⟨k.len.trans h.len, fun i hi => k.up i (h.up i hi), by rw [k.ext, h.ext, List.append_assoc], ?_, fun i => ?_, fun b hb => ?_, fun b hb a hd hne => ?_, fun b hb z hz => ?_⟩
  · rw [List.nodup_append]
    refine ⟨h.nd, k.nd, fun a ha b hb e => ?_⟩
    subst e
    have h1 := ((h.is a).1 ha).1
    have h2 := ((k.is a).1 hb).2
    rw [h1] at h2; cases h2
  · rw [List.mem_append, h.is, k.is]
    constructor
    · rintro (⟨c1, c2⟩ | ⟨c1, c2⟩)
      · exact ⟨k.up i c1, c2⟩
      · refine ⟨c1, ?_⟩
        cases hv : s.1.getD i false with
        | false => rfl
        | true => rw [h.up i hv] at c2; cases c2
    · rintro ⟨c1, c2⟩
      cases hv : t.1.getD i false with
      | true => exact .inl ⟨rfl, c2⟩
      | false => exact .inr ⟨c1, rfl⟩
  · exact (List.mem_append.1 hb).elim (h.r b) (k.r b)
  · rcases List.mem_append.1 hb with hb | hb
    · exact (h.dom b hb a hd hne).imp id Pre.left
    · exact (k.dom b hb a hd hne).imp id Pre.right
  · rcases List.mem_append.1 hb with hb | hb
    · exact k.up z (h.cl b hb z hz)
    · exact k.cl b hb z hz
/-- a node's dominators are itself, or dominate who leads to it -/
theorem Dg.D.before {G : Dg} {a p x : Nat} (hp : G.R p) (he : G.e p x) (h : G.D a x) (hne : a ≠ x) : G.D a p := by
  obtain ⟨ha, hx, h⟩ := h
  refine ⟨ha, hp, ?_⟩
  rcases h with e | h
  · exact absurd e hne
  · right
    intro hw
    exact h (.step hw he (fun e => hne e.symm))
/-- may one begin at x? -/
def May (G : Dg) (Y : Nat → Prop) (x : Int) : Prop := 0 ≤ x → x < (G.N : Int) → G.R x.toNat ∧ ∀ a, G.D a x.toNat → a = x.toNat ∨ Y a
theorem vis_ok (N : Nat) (su : Nat → List Int) : ∀ (f : Nat) (s : List Bool × List Nat) (x : Int) (Y : Nat → Prop), s.1.length = N → unmet s.1 < f → May (gD N su) Y x →
    ∃ l, Ps (gD N su) Y s (vis N su f s x) l ∧ (0 ≤ x → x < (N : Int) → (vis N su f s x).1.getD x.toNat false = true)
  | 0, _, _, _, _, hf, _ => absurd hf (Nat.not_lt_zero _)
  | f + 1, s, x, Y, hl, hf, hx => by
    have fold : ∀ (xs : List Int) (s : List Bool × List Nat) (Y : Nat → Prop), s.1.length = N → unmet s.1 < f → (∀ x ∈ xs, May (gD N su) Y x) →
        ∃ l, Ps (gD N su) Y s (xs.foldl (vis N su f) s) l ∧ ∀ x ∈ xs, 0 ≤ x → x < (N : Int) → (xs.foldl (vis N su f) s).1.getD x.toNat false = true := by
      intro xs
      induction xs with
      | nil => intro s Y _ _ _; exact ⟨[], Ps.refl _ _ _, fun x hx => by cases hx⟩
      | cons x xs ih =>
        intro s Y hl hf hm
        obtain ⟨l1, h1, k1⟩ := vis_ok N su f s x Y hl hf (hm x (List.mem_cons_self ..))
        obtain ⟨l2, h2, k2⟩ := ih (vis N su f s x) Y (h1.len.trans hl) (Nat.lt_of_le_of_lt (unmet_mono h1.len h1.up) hf) (fun y hy => hm y (List.mem_cons_of_mem _ hy))
        refine ⟨l1 ++ l2, h1.trans h2, fun y hy y0 yN => ?_⟩
        rw [List.foldl_cons]
        rcases List.mem_cons.1 hy with rfl | hy
        · exact h2.up _ (k1 y0 yN)
        · exact k2 y hy y0 yN
    unfold vis
    by_cases hc : 0 ≤ x ∧ x < (N : Int) ∧ s.1.getD x.toNat false = false
    · rw [if_pos hc]
      obtain ⟨x0, xN, hs⟩ := hc
      obtain ⟨i, rfl⟩ : ∃ i : Nat, x = (i : Int) := ⟨x.toNat, by omega⟩
      rw [Int.toNat_natCast] at *
      have hi : i < s.1.length := by omega
      obtain ⟨hR, hD⟩ := hx x0 xN
      rw [Int.toNat_natCast] at hR hD
      have hu := unmet_set hi hs
      obtain ⟨l, h, k⟩ := fold (su i) (s.1.set i true, s.2) (fun a => a = i ∨ Y a) (by simpa using hl) (by show unmet (s.1.set i true) < f; omega) (fun z hz z0 zN => by
        have he : (gD N su).e i z.toNat := ⟨by omega, by rw [Int.toNat_of_nonneg z0]; exact hz, by have : z < (N : Int) := zN; omega⟩
        refine ⟨.step hR he (fun c => c.elim), fun a ha => ?_⟩
        by_cases e : a = z.toNat
        · exact .inl e
        · exact .inr (hD a (Dg.D.before hR he ha e)))
      generalize (su i).foldl (vis N su f) (s.1.set i true, s.2) = t at *
      have hset : ∀ j, (s.1.set i true).getD j false = (decide (j = i) || s.1.getD j false) := fun j => by
        rw [getD_set_t]
        by_cases e : j = i
        · simp [e, hi]
        · simp [e]
      have hti : t.1.getD i false = true := h.up i (by show (s.1.set i true).getD i false = true; rw [hset]; simp)
      refine ⟨l ++ [i], ⟨h.len.trans (by simp), fun j hj => h.up j (by show (s.1.set i true).getD j false = true; rw [hset, hj, Bool.or_true]), by show t.2 ++ [i] = _; rw [h.ext, List.append_assoc], ?_, fun j => ?_, fun b hb => ?_, fun b hb a hd hne => ?_, fun b hb z hz => ?_⟩, fun _ _ => hti⟩
      · rw [List.nodup_append]
        refine ⟨h.nd, List.pairwise_singleton _ _, fun a ha b hb e => ?_⟩
        rw [List.mem_singleton] at hb
        subst e
        subst hb
        have := ((h.is a).1 ha).2
        rw [show (s.1.set a true, s.2).1 = s.1.set a true from rfl, hset] at this
        simp at this
      · rw [List.mem_append, List.mem_singleton, h.is]
        show (t.1.getD j false = true ∧ (s.1.set i true).getD j false = false) ∨ j = i ↔ t.1.getD j false = true ∧ s.1.getD j false = false
        rw [hset]
        constructor
        · rintro (⟨c1, c2⟩ | rfl)
          · exact ⟨c1, by simp at c2; exact c2.2⟩
          · exact ⟨hti, hs⟩
        · rintro ⟨c1, c2⟩
          by_cases e : j = i
          · exact .inr e
          · exact .inl ⟨c1, by rw [c2, decide_eq_false e]; rfl⟩
      · rcases List.mem_append.1 hb with hb | hb
        · exact h.r b hb
        · rw [List.mem_singleton.1 hb]; exact hR
      · rcases List.mem_append.1 hb with hb | hb
        · rcases h.dom b hb a hd hne with (c | c) | c
          · rw [c]; exact .inr (Pre.last hb)
          · exact .inl c
          · exact .inr c.left
        · rw [List.mem_singleton.1 hb] at hd hne
          exact .inl ((hD a hd).resolve_left hne)
      · rcases List.mem_append.1 hb with hb | hb
        · exact h.cl b hb z hz
        · rw [List.mem_singleton.1 hb] at hz
          have := k (z : Int) hz.2.1 (by omega) (by have := hz.2.2; omega)
          rwa [Int.toNat_natCast] at this
    · rw [if_neg hc]
      refine ⟨[], Ps.refl _ _ _, fun x0 xN => ?_⟩
      cases hv : s.1.getD x.toNat false with
      | true => rfl
      | false => exact absurd ⟨x0, xN, hv⟩ hc
/-- the whole order -/
structure Ord (G : Dg) (o : List Nat) : Prop where
  nd : o.Nodup
  is : ∀ i, i ∈ o ↔ G.R i
  dom : ∀ a b, G.D a b → a ≠ b → Pre o a b
  head : 0 < G.N → ∃ l, o = 0 :: l
theorem rep_get (N i : Nat) : (List.replicate N false).getD i false = false := by
  rw [List.getD_eq_getElem?_getD, List.getElem?_replicate]; split <;> rfl
theorem unmet_rep (N : Nat) : unmet (List.replicate N false) = N := by simp [unmet]
theorem Pre.rev {l : List Nat} {b a : Nat} (h : Pre l b a) : Pre l.reverse a b := by
  obtain ⟨l1, l2, rfl, h⟩ := h
  obtain ⟨m1, m2, rfl⟩ := List.append_of_mem h
  refine ⟨m2.reverse, m1.reverse ++ b :: l1.reverse, by simp, by simp⟩
theorem ord_ok (N : Nat) (su : Nat → List Int) : Ord (gD N su) (ordN N su) := by
  have h0 : 0 < N → (gD N su).R 0 := fun h => .zero h (fun c => c.elim)
  obtain ⟨l, h, k⟩ := vis_ok N su (N + 1) (List.replicate N false, []) 0 (fun _ => False) (by simp) (by show unmet (List.replicate N false) < N + 1; rw [unmet_rep]; omega) (fun x0 xN => by
    have hN : 0 < N := by have : (0 : Int) < (N : Int) := xN; omega
    refine ⟨h0 hN, fun a ha => ?_⟩
    rcases ha.2.2 with e | e
    · exact .inl e
    · left
      by_cases e2 : a = 0
      · exact e2
      · exact absurd (Dg.Av.zero hN (fun c => e2 c.symm)) e)
  have e : (vis N su (N + 1) (List.replicate N false, []) 0).2 = l := by rw [h.ext]; rfl
  unfold ordN
  have hall : ∀ i, (gD N su).R i → i ∈ l := by
    intro i hi
    induction hi with
    | zero hN _ =>
      have hN' : 0 < N := hN
      exact (h.is 0).2 ⟨k (by omega) (by omega), rep_get N 0⟩
    | @step p i _ he _ ih => exact (h.is i).2 ⟨h.cl p ih i he, rep_get N i⟩
  refine ⟨?_, fun i => ?_, fun a b hd hne => ?_, fun hN => ?_⟩
  · rw [e]; exact List.pairwise_reverse.2 (h.nd.imp (fun c => Ne.symm c))
  · rw [e, List.mem_reverse]; exact ⟨h.r i, hall i⟩
  · rw [e]
    exact ((h.dom b (hall b hd.2.1) a hd hne).resolve_left id).rev
  · have hN' : 0 < N := hN
    unfold vis
    rw [if_pos ⟨by omega, by omega, by show (List.replicate N false).getD _ false = false; exact rep_get N _⟩]
    exact ⟨_, by rw [List.reverse_append]; rfl⟩
end Dm
end Go.Proofs.Ytgaacdnljkildaa

/- Plain facts on dominance: what is answered, as rows of numbers. -/
namespace Go.Proofs.Ytgaacdnljkildaa
namespace Dm

/-- a graph out of rows -/
def gL (g : List (List Int)) : Dg := gD g.length (fun i => g.getD i [])
theorem gL_N (g : List (List Int)) : (gL g).N = g.length := rfl
theorem gL_e {g : List (List Int)} {i j : Nat} : (gL g).e i j ↔ i < g.length ∧ (j : Int) ∈ g.getD i [] ∧ j < g.length := Iff.rfl
open Classical in
noncomputable def reachB (g : List (List Int)) : List Bool := (List.range g.length).map fun b => decide ((gL g).R b)
open Classical in
/-- what one may come to, not by way of a node -/
noncomputable def withoutB (g : List (List Int)) (a : Nat) : List Bool := (List.range g.length).map fun b => decide ((gL g).W a b)
open Classical in
noncomputable def domB (g : List (List Int)) (a b : Int) : Bool := decide (0 ≤ a ∧ 0 ≤ b ∧ (gL g).D a.toNat b.toNat)
theorem up_some (G : Dg) (b : Nat) : ∃ v, G.Up b v := by
  have : ∀ k, ∃ v, G.Best b k v := by
    intro k
    induction k with
    | zero => exact ⟨-1, Dg.Best.start b⟩
    | succ k ih =>
      obtain ⟨v, h⟩ := ih
      by_cases hk : k ≠ b ∧ G.D k b
      · rcases h with ⟨rfl, h⟩ | ⟨a, rfl, h⟩
        · exact ⟨_, Dg.Best.first (.inl ⟨rfl, h⟩) hk.1 hk.2⟩
        · have h' : G.Best b k (a : Int) := .inr ⟨a, rfl, h⟩
          by_cases hd : G.D a k
          · exact ⟨_, h'.new hk.1 hk.2 hd⟩
          · exact ⟨_, h'.keep hd⟩
      · exact ⟨v, h.no hk⟩
  obtain ⟨v, h⟩ := this G.N
  exact ⟨v, h.done⟩
noncomputable def upv (G : Dg) (b : Nat) : Int := (up_some G b).choose
theorem upv_up (G : Dg) (b : Nat) : G.Up b (upv G b) := (up_some G b).choose_spec
theorem upv_is {G : Dg} {b : Nat} {v : Int} (h : G.Up b v) : v = upv G b := h.one (upv_up G b)
theorem upv_no {G : Dg} {b : Nat} (h : ¬ G.R b) : upv G b = -1 := by
  rcases upv_up G b with ⟨e, _⟩ | ⟨a, _, hi⟩
  · exact e
  · exact absurd hi.d.2.1 h
noncomputable def idomL (g : List (List Int)) : List Int := (List.range g.length).map (upv (gL g))
/-- the frontier of a node -/
def Dg.F (G : Dg) (a b : Nat) : Prop := G.R a ∧ G.R b ∧ (∃ x, G.D a x ∧ G.e x b) ∧ (a = b ∨ ¬ G.D a b)
open Classical in
noncomputable def frontR (g : List (List Int)) (a : Nat) : List Int := ((List.range g.length).filter fun b => decide ((gL g).F a b)).map Int.ofNat
noncomputable def frontL (g : List (List Int)) : List (List Int) := (List.range g.length).map (frontR g)
def ordL (g : List (List Int)) : List Int := (ordN g.length (fun i => g.getD i [])).map Int.ofNat
theorem getD_map_range {β : Type} (f : Nat → β) (d : β) (N i : Nat) (h : i < N) : ((List.range N).map f).getD i d = f i := by
  rw [List.getD_eq_getElem?_getD, List.getElem?_map, List.getElem?_range h]; rfl
theorem reachB_len (g : List (List Int)) : (reachB g).length = g.length := by simp [reachB]
theorem reachB_at {g : List (List Int)} {b : Nat} (h : b < g.length) : (reachB g).getD b false = true ↔ (gL g).R b := by
  classical
  unfold reachB
  rw [List.getD_eq_getElem?_getD, List.getElem?_map, List.getElem?_range h]
  simp
theorem idomL_len (g : List (List Int)) : (idomL g).length = g.length := by simp [idomL]
theorem idomL_at {g : List (List Int)} {b : Nat} (h : b < g.length) : (idomL g).getD b 0 = upv (gL g) b := by
  unfold idomL
  rw [List.getD_eq_getElem?_getD, List.getElem?_map, List.getElem?_range h]
  rfl
theorem domB_iff {g : List (List Int)} {a b : Nat} : domB g (a : Int) (b : Int) = true ↔ (gL g).D a b := by
  classical
  unfold domB
  rw [decide_eq_true_eq, Int.toNat_natCast, Int.toNat_natCast]
  exact ⟨fun h => h.2.2, fun h => ⟨by omega, by omega, h⟩⟩
theorem domB_out {g : List (List Int)} {a b : Int} (h : ¬ (0 ≤ a ∧ a < (g.length : Int) ∧ 0 ≤ b ∧ b < (g.length : Int))) : domB g a b = false := by
  classical
  unfold domB
  rw [decide_eq_false_iff_not]
  rintro ⟨h1, h2, h3⟩
  have := h3.1.lt
  have := h3.2.1.lt
  have e : (gL g).N = g.length := rfl
  omega
/-- DomCut: a node's ways left out -/
theorem cut_iff {g h : List (List Int)} {a b : Nat} (hl : h.length = g.length) (ha : a ≠ 0) (hs : ∀ i, h.getD i [] = if i = a then [] else g.getD i []) (hb : b ≠ a) : (gL h).R b ↔ (gL g).W a b := by
  constructor
  · intro hr
    have : ∀ c, (gL h).R c → c = a ∨ (gL g).W a c := by
      intro c hc
      induction hc with
      | zero h0 _ => exact .inr (.zero (by rw [gL_N] at *; omega) (fun e => ha e.symm))
      | @step i j hi he _ ih =>
        obtain ⟨e1, e2, e3⟩ := gL_e.1 he
        rw [hs] at e2
        by_cases c : i = a
        · rw [if_pos c] at e2; cases e2
        · rw [if_neg c] at e2
          by_cases cj : j = a
          · exact .inl cj
          · exact .inr (.step (ih.resolve_left c) (gL_e.2 ⟨by omega, e2, by omega⟩) cj)
    exact (this b hr).resolve_left hb
  · intro hw
    induction hw with
    | zero h0 _ => exact .zero (by rw [gL_N] at *; omega) (fun c => c.elim)
    | @step i j hi he hj ih =>
      obtain ⟨e1, e2, e3⟩ := gL_e.1 he
      refine .step (ih (Dg.Av.no (S := fun x => x = a) hi)) (gL_e.2 ⟨by omega, ?_, by omega⟩) (fun c => c.elim)
      have hia : ¬ i = a := Dg.Av.no (S := fun x => x = a) hi
      rw [hs, if_neg hia]
      exact e2
theorem ordL_mem {g : List (List Int)} {x : Int} : x ∈ ordL g ↔ ∃ i : Nat, x = (i : Int) ∧ (gL g).R i := by
  unfold ordL
  rw [List.mem_map]
  constructor
  · rintro ⟨i, hi, rfl⟩; exact ⟨i, rfl, ((ord_ok _ _).is i).1 hi⟩
  · rintro ⟨i, rfl, hi⟩; exact ⟨i, ((ord_ok _ _).is i).2 hi, rfl⟩
/-- where a number stands in a row, or as many as there are -/
theorem pre_at {l : List Nat} {a b : Nat} (h : Pre l a b) (hn : l.Nodup) : l.idxOf a < l.idxOf b := by
  obtain ⟨l1, l2, rfl, hb⟩ := h
  rw [List.nodup_append] at hn
  obtain ⟨h1, h2, h3⟩ := hn
  have ha : a ∉ l1 := fun c => h3 a c a (List.mem_cons_self ..) rfl
  have hb1 : b ∉ l1 := fun c => h3 b c b (List.mem_cons_of_mem _ hb) rfl
  have hab : a ≠ b := fun e => by
    subst e
    exact (List.nodup_cons.1 h2).1 hb
  rw [List.idxOf_append, List.idxOf_append, if_neg ha, if_neg hb1, List.idxOf_cons_self, List.idxOf_cons]
  have : (a == b) = false := by simpa using hab
  rw [this]
  simp
end Dm
end Go.Proofs.Ytgaacdnljkildaa
