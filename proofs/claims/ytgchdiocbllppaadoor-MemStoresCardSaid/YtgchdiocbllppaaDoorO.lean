/- What a layout and a memory that came in read as: their cells, said as plain lists. -/
import Derived.Test.YtgchdiocbllppaaDoorF
import Derived.ProofKit
import Derived.OpenShut
import Derived.Deep.Slices
namespace Go.Proofs.YtgchdiocbllppaaDoor
open Go.ChangeShapes Go.WideShapes Go.ChangeAt Go.RowKit M

def cellI (w : World) (a : Addr) : Int := match w.cell? a with | some (.int _ n) => n | _ => 0
def cellB (w : World) (a : Addr) : Bool := match w.cell? a with | some (.bool b) => b | _ => false
def cellQ (w : World) (a : Addr) : Option Addr := match w.cell? a with | some (.slice q _ _) => q | _ => none
def cellL (w : World) (a : Addr) : Nat := match w.cell? a with | some (.slice _ l _) => l | _ => 0
def cellC (w : World) (a : Addr) : Nat := match w.cell? a with | some (.slice _ _ c) => c | _ => 0
theorem spot_none {w : World} {a : Addr} {v : Value} (h : w.cell? a = some v) : a.spot = none ∧ a.block < w.heap.size := by
  obtain ⟨b, o, s⟩ := a
  unfold World.cell? at h
  cases hh : w.heap[b]? with
  | none => simp [hh] at h
  | some ob =>
    refine ⟨?_, (Array.getElem?_eq_some_iff.1 hh).1⟩
    cases s with
    | none => rfl
    | some x => cases ob <;> simp [hh] at h
theorem add_plain (b o k : Nat) : (⟨b, o, none⟩ : Addr).add k = ⟨b, o + k, none⟩ := by
  unfold Addr.add
  by_cases h : k = 0
  · subst h; simp
  · rw [if_neg h]
theorem cells23 : Tryd.prog.cellsOf 23 = 2 := by kernel_rfl
theorem cells24 : Tryd.prog.cellsOf 24 = 1 := by kernel_rfl
theorem cells26 : Tryd.prog.cellsOf 26 = 3 := by kernel_rfl
theorem cells3 : Tryd.prog.cellsOf 3 = 1 := by kernel_rfl
theorem cells4 : Tryd.prog.cellsOf 4 = 1 := by kernel_rfl
theorem cells5 : Tryd.prog.cellsOf 5 = 1 := by kernel_rfl
theorem cells36 : Tryd.prog.cellsOf 36 = 1 := by kernel_rfl
theorem bytes23 : Tryd.prog.bytesOf 23 = 16 := by kernel_rfl
theorem bytes36 : Tryd.prog.bytesOf 36 = 24 := by kernel_rfl
theorem bytes5 : Tryd.prog.bytesOf 5 = 1 := by kernel_rfl
section
variable {H : Type} {enc : TypeId × Value → H} {W : World}
set_option maxRecDepth 100000 in
/-- an area's two cells -/
theorem open_area {n : Nat} {cs : List Value} {x : DataW H × List MemPlace} (h : DataW.trod enc Tryd.prog W 0 (fun _ => true) true n 23 cs = some x) :
    ∃ sz b, cs = [.int .i64 sz, .bool b] ∧ x = (.agg [.lit (.int .i64 sz), .lit (.bool b)], []) := by
  obtain ⟨ys, m, _, hx, hlen, hyl, hf⟩ := DataW.trod_struct Tryd.underlying23 h
  rw [cells23] at hlen
  match cs, hlen with
  | [c0, c1], _ =>
    match ys, hyl with
    | [y0, y1], _ =>
      have h0 : DataW.trod enc Tryd.prog W 0 (fun _ => true) true m 3 (([c0, c1].drop 0).take (Tryd.prog.cellsOf 3)) = some y0 := hf 0 _ rfl
      have h1 : DataW.trod enc Tryd.prog W 0 (fun _ => true) true m 4 (([c0, c1].drop 1).take (Tryd.prog.cellsOf 4)) = some y1 := hf 1 _ rfl
      rw [cells3] at h0
      rw [cells4] at h1
      obtain ⟨sz, e0, ey0, _⟩ := DataW.trod_int Tryd.underlying3 h0
      obtain ⟨b, e1, ey1⟩ := DataW.trod_bool Tryd.underlying4 h1
      simp at e0 e1
      subst e0 e1 ey0 ey1
      exact ⟨sz, b, rfl, by simpa using hx⟩
theorem int_cell {w : World} {a : Addr} {k : IntKind} {n : Int} (h : w.cell? a = some (.int k n)) : cellI w a = n := by simp [cellI, h]
theorem bool_cell {w : World} {a : Addr} {b : Bool} (h : w.cell? a = some (.bool b)) : cellB w a = b := by simp [cellB, h]
/-- the areas that lie at an address -/
def areasAt (w : World) (a : Addr) (n : Nat) : List Ar := (List.range n).map fun i => ⟨cellI w (a.add (i * 2)), cellB w (a.add (i * 2 + 1))⟩
set_option maxRecDepth 100000 in
theorem open_maps {n : Nat} {cs : List Value} {x : DataW H × List MemPlace} (h : DataW.trod enc Tryd.prog W 0 (fun _ => true) true n 24 cs = some x) (hw : ∀ k ∈ x.1.weights Tryd.prog 24, k ≤ 140737488351232) :
    ∃ q len cap ms, cs = [.slice q len cap] ∧ MapsAt W q len ms := by
  rcases Deep.open_slice Tryd.underlying24 h with ⟨rfl, _⟩ | ⟨a, len, cap, m, k, D, Pl, rfl, _, hl, _, hm, hx, hi⟩
  · exact ⟨none, 0, 0, [], rfl, rfl, Nat.zero_le _, fun i hi => absurd hi (Nat.not_lt_zero _)⟩
  · have hmc : m = cap := by simpa using hm
    refine ⟨some a, len, cap, areasAt W a len, rfl, by simp [areasAt], ?_, fun i hil => ?_⟩
    · have := hw ((len + (m - len)) * Tryd.prog.bytesOf 23) (by rw [hx]; simp [DataW.weights, Tryd.underlying24])
      rw [bytes23] at this
      omega
    · have hil' : i < len := by simpa [areasAt] using hil
      obtain ⟨cs', hc, ht⟩ := hi i (by omega)
      rw [cells23] at hc
      obtain ⟨_, _, hat⟩ := World.cells?_some hc
      obtain ⟨sz, b, rfl, _⟩ := open_area ht
      have h0 := hat 0 (by omega)
      have h1 := hat 1 (by omega)
      rw [Addr.add_add] at h0 h1
      simp only [Nat.add_zero, List.getElem?_cons_zero, List.getElem?_cons_succ] at h0 h1
      have e : (areasAt W a len).getD i none_ = ⟨sz, b⟩ := by
        simp [areasAt, hil', int_cell h0, bool_cell h1]
      rw [e]
      have hs : a.spot = none := by
        obtain ⟨cs0, hc0, ht0⟩ := hi 0 (by omega)
        rw [cells23] at hc0
        obtain ⟨_, _, hat0⟩ := World.cells?_some hc0
        obtain ⟨sz0, b0, rfl, _⟩ := open_area ht0
        have := hat0 0 (by omega)
        rw [Addr.add_add, Nat.zero_mul] at this
        exact (spot_none (a := a) (by simpa [Addr.add] using this)).1
      obtain ⟨bb, off, sp⟩ := a
      subst hs
      rw [add_plain] at h0 h1
      exact ⟨bb, off, rfl, (spot_none h0).2, h0, h1⟩
set_option maxRecDepth 100000 in
theorem open_layout {v : Value} {d : DataW H} {p : List MemPlace} (hv : Value.okWide Tryd.prog W .any 0 26 v) (h : DataW.Trod enc Tryd.prog W 0 (fun _ => true) true 26 v d p) (hw : ∀ k ∈ d.weights Tryd.prog 26, k ≤ 140737488351232) :
    ∃ c cw q len cap ms, v = .agg #[.int .i64 c, .bool cw, .slice q len cap] ∧ MapsAt W q len ms := by
  obtain ⟨cs, rfl, hsz⟩ := okWide_struct Tryd.underlying26 hv
  rw [cells26] at hsz
  obtain ⟨l⟩ := cs
  match l, hsz with
  | [c0, c1, c2], _ =>
    obtain ⟨fuel, hf⟩ := h
    obtain ⟨ys, m, _, hx, _, hyl, hg⟩ := DataW.trod_struct Tryd.underlying26 hf
    match ys, hyl with
    | [y0, y1], _ =>
      have h0 : DataW.trod enc Tryd.prog W 0 (fun _ => true) true m 23 (([c0, c1, c2].drop 0).take (Tryd.prog.cellsOf 23)) = some y0 := hg 0 _ rfl
      have h1 : DataW.trod enc Tryd.prog W 0 (fun _ => true) true m 24 (([c0, c1, c2].drop 2).take (Tryd.prog.cellsOf 24)) = some y1 := hg 1 _ rfl
      rw [cells23] at h0
      rw [cells24] at h1
      obtain ⟨sz, b, e0, _⟩ := open_area h0
      simp only [Prod.mk.injEq] at hx
      have hd : d = .agg [y0.1, y1.1] := by simpa using hx.1
      obtain ⟨q, len, cap, ms, e1, hM⟩ := open_maps h1 (fun k hk => hw k (by rw [hd]; simp [DataW.weights, DataW.weightsEach, Tryd.underlying26, hk]))
      simp at e0 e1
      obtain ⟨rfl, rfl⟩ := e0
      subst e1
      exact ⟨sz, b, q, len, cap, ms, rfl, hM⟩
end
end Go.Proofs.YtgchdiocbllppaaDoor
