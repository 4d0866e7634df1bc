/- What instructions that came in read as: their cells, said as plain lists. -/
import Derived.Test.YtlpijnnlmgoihaaU
import Derived.ProofKit
import Derived.OpenShut
import Derived.Deep.Slices
namespace Go.Proofs.Ytlpijnnlmgoihaa
open Go.ChangeShapes Go.WideShapes Go.ChangeAt Go.RowKit M

def cellI (w : World) (a : Addr) : Int := match w.cell? a with | some (.int _ n) => n | _ => 0
theorem spot_none {w : World} {a : Addr} {v : Value} (h : w.cell? a = some v) : a.spot = none ∧ a.block < w.heap.size := by
  obtain ⟨b, o, s⟩ := a
  unfold World.cell? at h
  cases hh : w.heap[b]? with
  | none => simp [hh] at h
  | some ob =>
    refine ⟨?_, (Array.getElem?_eq_some_iff.1 hh).1⟩
    cases s with
    | none => rfl
    | some x => cases ob <;> simp [hh] at h
theorem add_plain (b o k : Nat) : (⟨b, o, none⟩ : Addr).add k = ⟨b, o + k, none⟩ := by
  unfold Addr.add
  by_cases h : k = 0
  · subst h; simp
  · rw [if_neg h]
theorem cellsIns : Try.prog.cellsOf 55 = 6 := by kernel_rfl
theorem bytesIns : Try.prog.bytesOf 55 = 48 := by kernel_rfl
theorem oI3 : Try.prog.cellsOf 3 = 1 := by kernel_rfl
theorem oIu : Try.prog.cellsOf 53 = 1 := by kernel_rfl
theorem int_cell {w : World} {a : Addr} {k : IntKind} {n : Int} (h : w.cell? a = some (.int k n)) : cellI w a = n := by simp [cellI, h]
def insOf (w : World) (a : Addr) : In := ⟨cellI w a, cellI w (a.add 1), cellI w (a.add 2), cellI w (a.add 3), cellI w (a.add 4), cellI w (a.add 5)⟩
def listAt (w : World) (a : Addr) (n : Nat) : List In := (List.range n).map fun i => insOf w (a.add (i * 6))
section
variable {H : Type} {enc : TypeId × Value → H} {W : World}
set_option maxRecDepth 100000 in
/-- an instruction's six cells -/
theorem open_ins {n : Nat} {cs : List Value} {x : DataW H × List MemPlace} (h : DataW.trod enc Try.prog W 0 (fun _ => true) true n 55 cs = some x) :
    ∃ X : In, cs = [.int .i64 X.op, .int .i64 X.dst, .int .i64 X.src, .int .i64 X.off, .int .i64 X.imm, .int .u64 X.wide] ∧ Bd X := by
  obtain ⟨ys, m, _, hx, hlen, hyl, hf⟩ := DataW.trod_struct Try.underlying55 h
  rw [cellsIns] at hlen
  match cs, hlen with
  | [c0, c1, c2, c3, c4, c5], _ =>
    match ys, hyl with
    | [y0, y1, y2, y3, y4, y5], _ =>
      have h0 : DataW.trod enc Try.prog W 0 (fun _ => true) true m 3 (([c0, c1, c2, c3, c4, c5].drop 0).take (Try.prog.cellsOf 3)) = some y0 := hf 0 _ rfl
      have h1 : DataW.trod enc Try.prog W 0 (fun _ => true) true m 3 (([c0, c1, c2, c3, c4, c5].drop 1).take (Try.prog.cellsOf 3)) = some y1 := hf 1 _ rfl
      have h2 : DataW.trod enc Try.prog W 0 (fun _ => true) true m 3 (([c0, c1, c2, c3, c4, c5].drop 2).take (Try.prog.cellsOf 3)) = some y2 := hf 2 _ rfl
      have h3 : DataW.trod enc Try.prog W 0 (fun _ => true) true m 3 (([c0, c1, c2, c3, c4, c5].drop 3).take (Try.prog.cellsOf 3)) = some y3 := hf 3 _ rfl
      have h4 : DataW.trod enc Try.prog W 0 (fun _ => true) true m 3 (([c0, c1, c2, c3, c4, c5].drop 4).take (Try.prog.cellsOf 3)) = some y4 := hf 4 _ rfl
      have h5 : DataW.trod enc Try.prog W 0 (fun _ => true) true m 53 (([c0, c1, c2, c3, c4, c5].drop 5).take (Try.prog.cellsOf 53)) = some y5 := hf 5 _ rfl
      rw [oI3] at h0 h1 h2 h3 h4
      rw [oIu] at h5
      obtain ⟨n0, e0, _, w0⟩ := DataW.trod_int Try.underlying3 h0
      obtain ⟨n1, e1, _, w1⟩ := DataW.trod_int Try.underlying3 h1
      obtain ⟨n2, e2, _, w2⟩ := DataW.trod_int Try.underlying3 h2
      obtain ⟨n3, e3, _, w3⟩ := DataW.trod_int Try.underlying3 h3
      obtain ⟨n4, e4, _, w4⟩ := DataW.trod_int Try.underlying3 h4
      obtain ⟨n5, e5, _, w5⟩ := DataW.trod_int Try.underlying53 h5
      simp at e0 e1 e2 e3 e4 e5
      subst e0 e1 e2 e3 e4 e5
      refine ⟨⟨n0, n1, n2, n3, n4, n5⟩, rfl, ?_⟩
      simp [Lit.wf, IntKind.min, IntKind.max, IntKind.signed, IntKind.bits] at w0 w1 w2 w3 w4 w5
      exact ⟨by dsimp only; omega, by dsimp only; omega, by dsimp only; omega, by dsimp only; omega, by dsimp only; omega, by dsimp only; omega⟩
set_option maxRecDepth 100000 in
theorem open_list {v : Value} {d : DataW H} {p : List MemPlace} (hv : Value.okWide Try.prog W .any 0 22 v) (h : DataW.Trod enc Try.prog W 0 (fun _ => true) true 22 v d p) (hw : ∀ k ∈ d.weights Try.prog 22, k ≤ 140737488351232) :
    ∃ q cap l, v = .slice q l.length cap ∧ l.length ≤ cap ∧ InsAt W q l := by
  obtain ⟨q, len, c, rfl⟩ := okWide_slice Try.underlying22 hv
  obtain ⟨fuel, hf⟩ := h
  rcases Deep.open_slice Try.underlying22 hf with ⟨e, _⟩ | ⟨a, len', cap, m, k, D, Pl, e, _, hl, _, hm, hx, hi⟩
  · simp [Value.cells] at e
    obtain ⟨rfl, rfl, rfl⟩ := e
    exact ⟨none, 0, [], rfl, Nat.le_refl _, Nat.zero_le _, fun i hi => absurd hi (Nat.not_lt_zero _), fun i hi => absurd hi (Nat.not_lt_zero _)⟩
  · simp [Value.cells] at e
    obtain ⟨rfl, rfl, rfl⟩ := e
    have hmc : m = c := by simpa using hm
    simp only [Prod.mk.injEq] at hx
    have hsm : len * 48 ≤ 140737488351232 := by
      have := hw ((len + (m - len)) * Try.prog.bytesOf 55) (by rw [hx.1]; simp [DataW.weights, Try.underlying22])
      rw [bytesIns] at this
      omega
    have hlen : (listAt W a len).length = len := by simp [listAt]
    have hrow : ∀ i, i < len → ∃ X : In, Bd X ∧ (listAt W a len).getD i z = X ∧ ∀ j v, (cellsX X)[j]? = some v → W.cell? (a.add (i * 6 + j)) = some v := by
      intro i hil
      obtain ⟨cs', hc, ht⟩ := hi i (by omega)
      rw [cellsIns] at hc
      obtain ⟨_, _, hat⟩ := World.cells?_some hc
      obtain ⟨X, rfl, hX⟩ := open_ins ht
      have hcell : ∀ j v, (cellsX X)[j]? = some v → W.cell? (a.add (i * 6 + j)) = some v := fun j v hj => by
        have hj6 : j < 6 := by
          have := (List.getElem?_eq_some_iff.1 hj).1
          simpa [cellsX] using this
        have := hat j hj6
        rw [Addr.add_add] at this
        rw [this]
        exact hj
      refine ⟨X, hX, ?_, hcell⟩
      have e0 := int_cell (hcell 0 _ rfl)
      have e1 := int_cell (hcell 1 _ rfl)
      have e2 := int_cell (hcell 2 _ rfl)
      have e3 := int_cell (hcell 3 _ rfl)
      have e4 := int_cell (hcell 4 _ rfl)
      have e5 := int_cell (hcell 5 _ rfl)
      rw [Nat.add_zero] at e0
      have : (listAt W a len).getD i z = insOf W (a.add (i * 6)) := by simp [listAt, hil]
      rw [this]
      unfold insOf
      rw [Addr.add_add, Addr.add_add, Addr.add_add, Addr.add_add, Addr.add_add, e0, e1, e2, e3, e4, e5]
    refine ⟨some a, c, listAt W a len, by rw [hlen], by rw [hlen]; exact hl, by rw [hlen]; omega, fun i hil => ?_, fun i hil => ?_⟩
    · rw [hlen] at hil
      have hs : a.spot = none := by
        obtain ⟨X, _, _, hc⟩ := hrow 0 (by omega)
        have := hc 0 _ rfl
        exact (spot_none (a := a) (by simpa [Addr.add] using this)).1
      obtain ⟨bb, off, sp⟩ := a
      subst hs
      obtain ⟨X, _, e, hc⟩ := hrow i hil
      rw [e]
      have f := fun j v (hj : (cellsX X)[j]? = some v) => by have := hc j v hj; rw [add_plain] at this; exact this
      refine ⟨bb, off, rfl, (spot_none (f 0 _ rfl)).2, ?_, ?_, ?_, ?_, ?_, ?_⟩
      · simpa using f 0 _ rfl
      · simpa [Nat.add_assoc] using f 1 _ rfl
      · simpa [Nat.add_assoc] using f 2 _ rfl
      · simpa [Nat.add_assoc] using f 3 _ rfl
      · simpa [Nat.add_assoc] using f 4 _ rfl
      · simpa [Nat.add_assoc] using f 5 _ rfl
    · rw [hlen] at hil
      obtain ⟨X, hX, e, _⟩ := hrow i hil
      rw [e]
      exact hX
end
end Go.Proofs.Ytlpijnnlmgoihaa
