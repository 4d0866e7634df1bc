/- What an instruction by itself, and a row of bools, that came in read as. -/
import Derived.Test.YtnpnpjpmklmklaaO
namespace Go.Proofs.Ytnpnpjpmklmklaa
open Go.ChangeShapes Go.WideShapes Go.ChangeAt Go.RowKit M

/-- bools lie in memory -/
structure BoolsAt (w : World) (q : Option Addr) (xs : List Bool) : Prop where
  small : xs.length ≤ 140737488351232
  cells : ∀ i, i < xs.length → ∃ b off, q = some ⟨b, off, none⟩ ∧ b < w.heap.size ∧ w.cell? ⟨b, off + i, none⟩ = some (.bool (xs.getD i false))
theorem BoolsAt.below {w w' : World} {q : Option Addr} {l : List Bool} (h : BoolsAt w q l) (hb : Below w.heap.size w w') : BoolsAt w' q l :=
  ⟨h.small, fun i hi => by
    obtain ⟨b, off, hp, hbl, h0⟩ := h.cells i hi
    exact ⟨b, off, hp, Nat.lt_of_lt_of_le hbl hb.size, (hb.cell (p := ⟨b, off + i, none⟩) hbl).trans h0⟩⟩
def cellB (w : World) (a : Addr) : Bool := match w.cell? a with | some (.bool b) => b | _ => false
theorem bool_cell {w : World} {a : Addr} {b : Bool} (h : w.cell? a = some (.bool b)) : cellB w a = b := by simp [cellB, h]
theorem cells4 : Try.prog.cellsOf 4 = 1 := by kernel_rfl
theorem bytes4 : Try.prog.bytesOf 4 = 1 := by kernel_rfl
def boolsOf (w : World) (a : Addr) (n : Nat) : List Bool := (List.range n).map fun j => cellB w (a.add j)
section
variable {H : Type} {enc : TypeId × Value → H} {W : World}
set_option maxRecDepth 100000 in
theorem open_x {v : Value} {d : DataW H} {p : List MemPlace} (hv : Value.okWide Try.prog W .any 0 36 v) (h : DataW.Trod enc Try.prog W 0 (fun _ => true) true 36 v d p) :
    ∃ X : In, v = .agg #[.int .i64 X.op, .int .i64 X.dst, .int .i64 X.src, .int .i64 X.off, .int .i64 X.imm, .int .u64 X.wide] ∧ Bd X := by
  obtain ⟨cs, rfl, _⟩ := okWide_struct Try.underlying36 hv
  obtain ⟨fuel, hf⟩ := h
  obtain ⟨X, e, hX⟩ := open_ins hf
  refine ⟨X, ?_, hX⟩
  have : cs = cs.toList.toArray := by simp
  rw [this]
  have e' : cs.toList = [.int .i64 X.op, .int .i64 X.dst, .int .i64 X.src, .int .i64 X.off, .int .i64 X.imm, .int .u64 X.wide] := by simpa [Value.cells] using e
  rw [e']
set_option maxRecDepth 100000 in
theorem open_bools {v : Value} {d : DataW H} {p : List MemPlace} (hv : Value.okWide Try.prog W .any 0 42 v) (h : DataW.Trod enc Try.prog W 0 (fun _ => true) true 42 v d p) (hw : ∀ k ∈ d.weights Try.prog 42, k ≤ 140737488351232) :
    ∃ q cap l, v = .slice q l.length cap ∧ l.length ≤ cap ∧ BoolsAt W q l := by
  obtain ⟨q, len, c, rfl⟩ := okWide_slice Try.underlying42 hv
  obtain ⟨fuel, hf⟩ := h
  rcases Deep.open_slice Try.underlying42 hf with ⟨e, _⟩ | ⟨a, len', cap, m, k, D, Pl, e, _, hl, _, hm, hx, hi⟩
  · simp [Value.cells] at e
    obtain ⟨rfl, rfl, rfl⟩ := e
    exact ⟨none, 0, [], rfl, Nat.le_refl _, Nat.zero_le _, fun i hi => absurd hi (Nat.not_lt_zero _)⟩
  · simp [Value.cells] at e
    obtain ⟨rfl, rfl, rfl⟩ := e
    have hmc : m = c := by simpa using hm
    simp only [Prod.mk.injEq] at hx
    have hsm : len ≤ 140737488351232 := by
      have := hw ((len + (m - len)) * Try.prog.bytesOf 4) (by rw [hx.1]; simp [DataW.weights, Try.underlying42])
      rw [bytes4] at this
      omega
    have hcell : ∀ j, j < m → ∃ b, W.cell? (a.add j) = some (.bool b) := by
      intro j hj
      obtain ⟨cs', hc, ht⟩ := hi j hj
      rw [cells4, Nat.mul_one] at hc
      obtain ⟨_, _, hat⟩ := World.cells?_some hc
      obtain ⟨b, rfl, _⟩ := DataW.trod_bool Try.underlying4 ht
      have h0 := hat 0 (by omega)
      rw [Addr.add_add, Nat.add_zero] at h0
      exact ⟨b, by simpa using h0⟩
    have hlen : (boolsOf W a len).length = len := by simp [boolsOf]
    refine ⟨some a, c, boolsOf W a len, by rw [hlen], by rw [hlen]; exact hl, by rw [hlen]; omega, fun j hj => ?_⟩
    rw [hlen] at hj
    have hs : a.spot = none := by
      obtain ⟨z, hz⟩ := hcell 0 (by omega)
      exact (spot_none (a := a) (by simpa [Addr.add] using hz)).1
    obtain ⟨bb, off, sp⟩ := a
    subst hs
    obtain ⟨z, hz⟩ := hcell j (by omega)
    have e : (boolsOf W ⟨bb, off, none⟩ len).getD j false = z := by simp [boolsOf, hj, bool_cell hz]
    rw [e]
    rw [add_plain] at hz
    exact ⟨bb, off, rfl, (spot_none hz).2, hz⟩
end
end Go.Proofs.Ytnpnpjpmklmklaa
