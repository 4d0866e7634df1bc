/- What states, and what is known of a register, that came in read as. -/
import Derived.Test.YtdipmlamjjpcoaaLO
import Derived.Test.YtdipmlamjjpcoaaSA
namespace Go.Proofs.Ytdipmlamjjpcoaa
open Go.ChangeShapes Go.WideShapes Go.ChangeAt Go.RowKit

theorem cellsK : Try.prog.cellsOf 33 = 8 := by kernel_rfl
theorem bytesK : Try.prog.bytesOf 33 = 64 := by kernel_rfl
theorem cellsKK : Try.prog.cellsOf 26 = 1 := by kernel_rfl
theorem cellsInt : Try.prog.cellsOf 3 = 1 := by kernel_rfl
theorem cellsBool : Try.prog.cellsOf 4 = 1 := by kernel_rfl
theorem bytesBool : Try.prog.bytesOf 4 = 1 := by kernel_rfl
theorem cellsKs : Try.prog.cellsOf 22 = 1 := by kernel_rfl
theorem cellsBs : Try.prog.cellsOf 23 = 1 := by kernel_rfl
theorem cellsAbs : Try.prog.cellsOf 25 = 3 := by kernel_rfl
theorem spot_none {w : World} {a : Addr} {v : Value} (h : w.cell? a = some v) : a.spot = none ∧ a.block < w.heap.size := by
  obtain ⟨b, o, s⟩ := a
  unfold World.cell? at h
  cases hh : w.heap[b]? with
  | none => simp [hh] at h
  | some ob =>
    refine ⟨?_, (Array.getElem?_eq_some_iff.1 hh).1⟩
    cases s with
    | none => rfl
    | some x => cases ob <;> simp [hh] at h
theorem add_plain (b o k : Nat) : (⟨b, o, none⟩ : Addr).add k = ⟨b, o + k, none⟩ := by
  unfold Addr.add
  by_cases h : k = 0
  · subst h; simp
  · rw [if_neg h]
theorem list_of {P : Nat → Kn → Prop} : ∀ n : Nat, (∀ i, i < n → ∃ k, P i k) → ∃ l : List Kn, l.length = n ∧ ∀ i, i < n → P i (rg l i)
  | 0, _ => ⟨[], rfl, fun i h => absurd h (Nat.not_lt_zero i)⟩
  | n + 1, h => by
    obtain ⟨l, hl, hp⟩ := list_of n (fun i hi => h i (by omega))
    obtain ⟨k, hk⟩ := h n (by omega)
    refine ⟨l ++ [k], by simp [hl], fun i hi => ?_⟩
    unfold rg at *
    by_cases e : i < n
    · rw [List.getD_eq_getElem?_getD, List.getElem?_append_left (by omega), ← List.getD_eq_getElem?_getD]; exact hp i e
    · obtain rfl : i = n := by omega
      rw [List.getD_eq_getElem?_getD, List.getElem?_append_right (by omega), hl, Nat.sub_self]; exact hk
theorem bools_of {P : Nat → Bool → Prop} : ∀ n : Nat, (∀ i, i < n → ∃ k, P i k) → ∃ l : List Bool, l.length = n ∧ ∀ i, i < n → P i (st l i)
  | 0, _ => ⟨[], rfl, fun i h => absurd h (Nat.not_lt_zero i)⟩
  | n + 1, h => by
    obtain ⟨l, hl, hp⟩ := bools_of n (fun i hi => h i (by omega))
    obtain ⟨k, hk⟩ := h n (by omega)
    refine ⟨l ++ [k], by simp [hl], fun i hi => ?_⟩
    unfold st at *
    by_cases e : i < n
    · rw [List.getD_eq_getElem?_getD, List.getElem?_append_left (by omega), ← List.getD_eq_getElem?_getD]; exact hp i e
    · obtain rfl : i = n := by omega
      rw [List.getD_eq_getElem?_getD, List.getElem?_append_right (by omega), hl, Nat.sub_self]; exact hk
section
variable {H : Type} {enc : TypeId × Value → H} {W : World}
set_option maxRecDepth 100000 in
theorem open_known_cells {n : Nat} {cs : List Value} {x : DataW H × List MemPlace} (h : DataW.trod enc Try.prog W 0 (fun _ => true) true n 33 cs = some x) :
    ∃ k : Kn, cs = [.int .i64 k.kind, .int .u64 (U k.num.ul), .int .u64 (U k.num.uh), .int .i64 (S k.num.sl), .int .i64 (S k.num.sh), .int .u64 (U k.num.t.v), .int .u64 (U k.num.t.m), .int .i64 k.reg] := by
  obtain ⟨ys, m, _, hx, hlen, hyl, hf⟩ := DataW.trod_struct Try.underlying33 h
  rw [cellsK] at hlen
  match cs, hlen with
  | [c0, c1, c2, c3, c4, c5, c6, c7], _ =>
    match ys, hyl with
    | [y0, y1, y2], _ =>
      have h0 : DataW.trod enc Try.prog W 0 (fun _ => true) true m 26 (([c0, c1, c2, c3, c4, c5, c6, c7].drop 0).take (Try.prog.cellsOf 26)) = some y0 := hf 0 _ rfl
      have h1 : DataW.trod enc Try.prog W 0 (fun _ => true) true m 31 (([c0, c1, c2, c3, c4, c5, c6, c7].drop 1).take (Try.prog.cellsOf 31)) = some y1 := hf 1 _ rfl
      have h2 : DataW.trod enc Try.prog W 0 (fun _ => true) true m 3 (([c0, c1, c2, c3, c4, c5, c6, c7].drop 7).take (Try.prog.cellsOf 3)) = some y2 := hf 2 _ rfl
      rw [cellsKK] at h0
      rw [cellsB] at h1
      rw [cellsInt] at h2
      obtain ⟨n0, e0, _, w0⟩ := DataW.trod_int Try.underlying26 h0
      obtain ⟨D, e1⟩ := open_bound_cells h1
      obtain ⟨n2, e2, _, w2⟩ := DataW.trod_int Try.underlying3 h2
      simp at e0 e1 e2
      obtain ⟨rfl, rfl, rfl, rfl, rfl, rfl⟩ := e1
      subst e0 e2
      exact ⟨⟨n0, D, n2⟩, rfl⟩
set_option maxRecDepth 100000 in
theorem open_known {v : Value} {d : DataW H} {p : List MemPlace} (hv : Value.okWide Try.prog W .any 0 33 v) (h : DataW.Trod enc Try.prog W 0 (fun _ => true) true 33 v d p) :
    ∃ k : Kn, v = .agg #[.int .i64 k.kind, .int .u64 (U k.num.ul), .int .u64 (U k.num.uh), .int .i64 (S k.num.sl), .int .i64 (S k.num.sh), .int .u64 (U k.num.t.v), .int .u64 (U k.num.t.m), .int .i64 k.reg] := by
  obtain ⟨cs, rfl, _⟩ := okWide_struct Try.underlying33 hv
  obtain ⟨fuel, hf⟩ := h
  obtain ⟨k, e⟩ := open_known_cells hf
  refine ⟨k, ?_⟩
  have : cs = cs.toList.toArray := by simp
  rw [this]
  have e' : cs.toList = [.int .i64 k.kind, .int .u64 (U k.num.ul), .int .u64 (U k.num.uh), .int .i64 (S k.num.sl), .int .i64 (S k.num.sh), .int .u64 (U k.num.t.v), .int .u64 (U k.num.t.m), .int .i64 k.reg] := by simpa [Value.cells] using e
  rw [e']
set_option maxRecDepth 100000 in
theorem open_kns {n : Nat} {cs : List Value} {x : DataW H × List MemPlace} (h : DataW.trod enc Try.prog W 0 (fun _ => true) true n 22 cs = some x) (hw : ∀ k ∈ x.1.weights Try.prog 22, k ≤ 140737488351232) :
    ∃ q cap l, cs = [.slice q l.length cap] ∧ KnAt W q l ∧ l.length ≤ cap := by
  rcases Deep.open_slice Try.underlying22 h with ⟨rfl, _⟩ | ⟨a, len, cap, m, k, D, Pl, rfl, _, hl, _, hm, hx, hi⟩
  · exact ⟨none, 0, [], rfl, ⟨by simp, fun i hi => absurd hi (Nat.not_lt_zero _)⟩, Nat.zero_le _⟩
  · have hmc : m = cap := by simpa using hm
    have hsm : len * 64 ≤ 140737488351232 := by
      have := hw ((len + (m - len)) * Try.prog.bytesOf 33) (by rw [hx]; simp [DataW.weights, Try.underlying22])
      rw [bytesK] at this
      omega
    have hrow : ∀ i, i < len → ∃ k : Kn, ∀ (j : Nat) (u : Value), ([.int .i64 k.kind, .int .u64 (U k.num.ul), .int .u64 (U k.num.uh), .int .i64 (S k.num.sl), .int .i64 (S k.num.sh), .int .u64 (U k.num.t.v), .int .u64 (U k.num.t.m), .int .i64 k.reg] : List Value)[j]? = some u → W.cell? (a.add (i * 8 + j)) = some u := by
      intro i hil
      obtain ⟨cs', hc, ht⟩ := hi i (by omega)
      rw [cellsK] at hc
      obtain ⟨_, _, hat⟩ := World.cells?_some hc
      obtain ⟨k, rfl⟩ := open_known_cells ht
      refine ⟨k, fun j u hj => ?_⟩
      have hj8 : j < 8 := by
        have := (List.getElem?_eq_some_iff.1 hj).1
        simpa using this
      have := hat j hj8
      rw [Addr.add_add] at this
      rw [this]
      exact hj
    obtain ⟨l, hlen, hP⟩ := list_of len hrow
    refine ⟨some a, cap, l, by rw [hlen], ⟨by rw [hlen]; exact hsm, fun i hil => ?_⟩, by omega⟩
    rw [hlen] at hil
    have hs : a.spot = none := by
      have := hP 0 (by omega) 0 _ rfl
      exact (spot_none (a := a) (by simpa [Addr.add] using this)).1
    obtain ⟨bb, off, sp⟩ := a
    subst hs
    have f := fun j u (hj : ([.int .i64 ((rg l i)).kind, .int .u64 (U ((rg l i)).num.ul), .int .u64 (U ((rg l i)).num.uh), .int .i64 (S ((rg l i)).num.sl), .int .i64 (S ((rg l i)).num.sh), .int .u64 (U ((rg l i)).num.t.v), .int .u64 (U ((rg l i)).num.t.m), .int .i64 ((rg l i)).reg] : List Value)[j]? = some u) => by have := hP i hil j u hj; rw [add_plain] at this; exact this
    refine ⟨bb, off, rfl, (spot_none (f 0 _ rfl)).2, ?_, ?_, ?_, ?_, ?_, ?_, ?_, ?_⟩
    · simpa using f 0 _ rfl
    · simpa [Nat.add_assoc] using f 1 _ rfl
    · simpa [Nat.add_assoc] using f 2 _ rfl
    · simpa [Nat.add_assoc] using f 3 _ rfl
    · simpa [Nat.add_assoc] using f 4 _ rfl
    · simpa [Nat.add_assoc] using f 5 _ rfl
    · simpa [Nat.add_assoc] using f 6 _ rfl
    · simpa [Nat.add_assoc] using f 7 _ rfl
set_option maxRecDepth 100000 in
theorem open_bools_cells {n : Nat} {cs : List Value} {x : DataW H × List MemPlace} (h : DataW.trod enc Try.prog W 0 (fun _ => true) true n 23 cs = some x) (hw : ∀ k ∈ x.1.weights Try.prog 23, k ≤ 140737488351232) :
    ∃ q cap l, cs = [.slice q l.length cap] ∧ BoolsAt W q l ∧ l.length ≤ cap := by
  rcases Deep.open_slice Try.underlying23 h with ⟨rfl, _⟩ | ⟨a, len, cap, m, k, D, Pl, rfl, _, hl, _, hm, hx, hi⟩
  · exact ⟨none, 0, [], rfl, ⟨Nat.zero_le _, fun i hi => absurd hi (Nat.not_lt_zero _)⟩, Nat.zero_le _⟩
  · have hmc : m = cap := by simpa using hm
    have hsm : len ≤ 140737488351232 := by
      have := hw ((len + (m - len)) * Try.prog.bytesOf 4) (by rw [hx]; simp [DataW.weights, Try.underlying23])
      rw [bytesBool] at this
      omega
    have hrow : ∀ i, i < len → ∃ b : Bool, W.cell? (a.add i) = some (.bool b) := by
      intro i hil
      obtain ⟨cs', hc, ht⟩ := hi i (by omega)
      rw [cellsBool, Nat.mul_one] at hc
      obtain ⟨_, _, hat⟩ := World.cells?_some hc
      obtain ⟨b, rfl, _⟩ := DataW.trod_bool Try.underlying4 ht
      have h0 := hat 0 (by omega)
      rw [Addr.add_add, Nat.add_zero] at h0
      exact ⟨b, by simpa using h0⟩
    obtain ⟨l, hlen, hP⟩ := bools_of len hrow
    refine ⟨some a, cap, l, by rw [hlen], ⟨by rw [hlen]; exact hsm, fun i hil => ?_⟩, by omega⟩
    rw [hlen] at hil
    have hs : a.spot = none := (spot_none (a := a) (by simpa [Addr.add] using hP 0 (by omega))).1
    obtain ⟨bb, off, sp⟩ := a
    subst hs
    have f := hP i hil
    rw [add_plain] at f
    exact ⟨bb, off, rfl, (spot_none f).2, f⟩
set_option maxRecDepth 100000 in
theorem open_abs {v : Value} {d : DataW H} {p : List MemPlace} (hv : Value.okWide Try.prog W .any 0 25 v) (h : DataW.Trod enc Try.prog W 0 (fun _ => true) true 25 v d p) (hw : ∀ k ∈ d.weights Try.prog 25, k ≤ 140737488351232) :
    ∃ (A : AbA) (s : Ab), v = .agg #[.slice A.p1 s.regs.length A.c1, .slice A.p2 s.set.length A.c2, .slice A.p3 s.saved.length A.c3] ∧ AbAt W A s := by
  obtain ⟨cs, rfl, hsz⟩ := okWide_struct Try.underlying25 hv
  rw [cellsAbs] at hsz
  obtain ⟨l⟩ := cs
  match l, hsz with
  | [c0, c1, c2], _ =>
    obtain ⟨fuel, hf⟩ := h
    obtain ⟨ys, m, _, hx, _, hyl, hg⟩ := DataW.trod_struct Try.underlying25 hf
    match ys, hyl with
    | [y0, y1, y2], _ =>
      have h0 : DataW.trod enc Try.prog W 0 (fun _ => true) true m 22 (([c0, c1, c2].drop 0).take (Try.prog.cellsOf 22)) = some y0 := hg 0 _ rfl
      have h1 : DataW.trod enc Try.prog W 0 (fun _ => true) true m 23 (([c0, c1, c2].drop 1).take (Try.prog.cellsOf 23)) = some y1 := hg 1 _ rfl
      have h2 : DataW.trod enc Try.prog W 0 (fun _ => true) true m 22 (([c0, c1, c2].drop 2).take (Try.prog.cellsOf 22)) = some y2 := hg 2 _ rfl
      rw [cellsKs] at h0 h2
      rw [cellsBs] at h1
      simp only [Prod.mk.injEq] at hx
      have hd : d = .agg [y0.1, y1.1, y2.1] := by simpa using hx.1
      obtain ⟨q0, k0, l0, e0, M0⟩ := open_kns h0 (fun k hk => hw k (by rw [hd]; simp [DataW.weights, DataW.weightsEach, Try.underlying25, hk]))
      obtain ⟨q1, k1, l1, e1, M1⟩ := open_bools_cells h1 (fun k hk => hw k (by rw [hd]; simp [DataW.weights, DataW.weightsEach, Try.underlying25, hk]))
      obtain ⟨q2, k2, l2, e2, M2⟩ := open_kns h2 (fun k hk => hw k (by rw [hd]; simp [DataW.weights, DataW.weightsEach, Try.underlying25, hk]))
      simp at e0 e1 e2
      subst e0 e1 e2
      exact ⟨⟨q0, q1, q2, k0, k1, k2⟩, ⟨l0, l1, l2⟩, rfl, M0.1, M1.1, M2.1, M0.2, M1.2, M2.2⟩
end
end Go.Proofs.Ytdipmlamjjpcoaa
