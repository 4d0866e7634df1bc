/- What a slice of words that came in reads as. -/
import Derived.Test.YthckkdkijajadaaDoorMK
import Derived.Test.YthckkdkijajadaaDoorML
namespace Go.Proofs.YthckkdkijajadaaDoor
open Go.ChangeShapes Go.WideShapes Go.ChangeAt Go.RowKit M

/-- the words that lie at an address -/
def wordsAtL (w : World) (a : Option Addr) (n : Nat) : List Int := (List.range n).map fun j => match a with | some a => cellI w (a.add j) | none => 0
theorem cells64 : Tryd.prog.cellsOf 22 = 1 := by kernel_rfl
theorem bytes64 : Tryd.prog.bytesOf 22 = 8 := by kernel_rfl
section
variable {H : Type} {enc : TypeId × Value → H} {W : World}
set_option maxRecDepth 100000 in
theorem open_words_in {n : Nat} {cs : List Value} {x : DataW H × List MemPlace} (h : DataW.trod enc Tryd.prog W 0 (fun _ => true) true n 32 cs = some x) (hw : ∀ k ∈ x.1.weights Tryd.prog 32, k ≤ 140737488351232) :
    ∃ q len cap, cs = [.slice q len cap] ∧ len ≤ cap ∧ WordsAt W q (wordsAtL W q len) := by
  rcases Deep.open_slice Tryd.underlying32 h with ⟨rfl, _⟩ | ⟨a, len, cap, m, k, D, Pl, rfl, _, hl, _, hm, hx, hi⟩
  · exact ⟨none, 0, 0, rfl, Nat.le_refl _, WordsAt.nil _ _⟩
  · have hmc : m = cap := by simpa using hm
    have hcap : cap * 8 ≤ 140737488351232 := by
      have := hw ((len + (m - len)) * Tryd.prog.bytesOf 22) (by rw [hx]; simp [DataW.weights, Tryd.underlying32])
      rw [bytes64] at this
      omega
    have hcell : ∀ j, j < m → ∃ z, W.cell? (a.add j) = some (.int .u64 z) ∧ 0 ≤ z ∧ z < 18446744073709551616 := by
      intro j hj
      obtain ⟨cs', hc, ht⟩ := hi j hj
      rw [cells64, Nat.mul_one] at hc
      obtain ⟨_, _, hat⟩ := World.cells?_some hc
      obtain ⟨z, rfl, _, hwf⟩ := DataW.trod_int Tryd.underlying22 ht
      have h0 := hat 0 (by omega)
      rw [Addr.add_add, Nat.add_zero] at h0
      refine ⟨z, by simpa using h0, ?_⟩
      simp [Lit.wf, IntKind.min, IntKind.max, IntKind.signed, IntKind.bits] at hwf
      omega
    have hlen : (wordsAtL W (some a) len).length = len := by simp [wordsAtL]
    have hget : ∀ j, j < len → ∀ z, W.cell? (a.add j) = some (.int .u64 z) → (wordsAtL W (some a) len).getD j 0 = z := by
      intro j hj z hz
      simp [wordsAtL, hj, int_cell hz]
    refine ⟨some a, len, cap, rfl, hl, by rw [hlen]; omega, fun j hj => ?_, fun j hj => ?_⟩
    · rw [hlen] at hj
      have hs : a.spot = none := by
        obtain ⟨z, hz, _⟩ := hcell 0 (by omega)
        exact (spot_none (a := a) (by simpa [Addr.add] using hz)).1
      obtain ⟨bb, off, sp⟩ := a
      subst hs
      obtain ⟨z, hz, _⟩ := hcell j (by omega)
      rw [hget j hj z hz]
      rw [add_plain] at hz
      exact ⟨bb, off, rfl, (spot_none hz).2, hz⟩
    · rw [hlen] at hj
      obtain ⟨z, hz, hb⟩ := hcell j (by omega)
      rw [hget j hj z hz]
      exact hb
set_option maxRecDepth 100000 in
/-- a slice of words that came in -/
theorem open_words {v : Value} {d : DataW H} {p : List MemPlace} (hv : Value.okWide Tryd.prog W .any 0 32 v) (h : DataW.Trod enc Tryd.prog W 0 (fun _ => true) true 32 v d p) (hw : ∀ k ∈ d.weights Tryd.prog 32, k ≤ 140737488351232) :
    ∃ q xs c, v = .slice q xs.length c ∧ xs.length ≤ c ∧ WordsAt W q xs := by
  obtain ⟨q, len, cap, rfl⟩ := okWide_slice Tryd.underlying32 hv
  obtain ⟨fuel, hf⟩ := h
  obtain ⟨q', len', cap', e, h1, h3⟩ := open_words_in hf hw
  simp [Value.cells] at e
  obtain ⟨rfl, rfl, rfl⟩ := e
  exact ⟨q, wordsAtL W q len, cap, by simp [wordsAtL], by simpa [wordsAtL] using h1, h3⟩
end
end Go.Proofs.YthckkdkijajadaaDoor
