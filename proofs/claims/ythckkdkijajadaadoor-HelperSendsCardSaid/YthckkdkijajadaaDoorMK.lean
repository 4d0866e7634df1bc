/- What a layout and a memory that came in read as: their cells, said as plain lists. -/
import Derived.Test.YthckkdkijajadaaDoorMD
import Derived.ProofKit
import Derived.OpenShut
import Derived.Deep.Slices

/- What a layout and a memory that came in read as: their cells, said as plain lists. -/
namespace Go.Proofs.YthckkdkijajadaaDoor
open Go.ChangeShapes Go.WideShapes Go.ChangeAt Go.RowKit M

def cellI (w : World) (a : Addr) : Int := match w.cell? a with | some (.int _ n) => n | _ => 0
def cellB (w : World) (a : Addr) : Bool := match w.cell? a with | some (.bool b) => b | _ => false
def cellQ (w : World) (a : Addr) : Option Addr := match w.cell? a with | some (.slice q _ _) => q | _ => none
def cellL (w : World) (a : Addr) : Nat := match w.cell? a with | some (.slice _ l _) => l | _ => 0
def cellC (w : World) (a : Addr) : Nat := match w.cell? a with | some (.slice _ _ c) => c | _ => 0
theorem spot_none {w : World} {a : Addr} {v : Value} (h : w.cell? a = some v) : a.spot = none ∧ a.block < w.heap.size := by
  obtain ⟨b, o, s⟩ := a
  unfold World.cell? at h
  cases hh : w.heap[b]? with
  | none => simp [hh] at h
  | some ob =>
    refine ⟨?_, (Array.getElem?_eq_some_iff.1 hh).1⟩
    cases s with
    | none => rfl
    | some x => cases ob <;> simp [hh] at h
theorem add_plain (b o k : Nat) : (⟨b, o, none⟩ : Addr).add k = ⟨b, o + k, none⟩ := by
  unfold Addr.add
  by_cases h : k = 0
  · subst h; simp
  · rw [if_neg h]
theorem cells23 : Tryd.prog.cellsOf 24 = 2 := by kernel_rfl
theorem cells24 : Tryd.prog.cellsOf 25 = 1 := by kernel_rfl
theorem cells26 : Tryd.prog.cellsOf 27 = 3 := by kernel_rfl
theorem cells3 : Tryd.prog.cellsOf 3 = 1 := by kernel_rfl
theorem cells4 : Tryd.prog.cellsOf 4 = 1 := by kernel_rfl
theorem cells5 : Tryd.prog.cellsOf 5 = 1 := by kernel_rfl
theorem cells36 : Tryd.prog.cellsOf 33 = 1 := by kernel_rfl
theorem bytes23 : Tryd.prog.bytesOf 24 = 16 := by kernel_rfl
theorem bytes36 : Tryd.prog.bytesOf 33 = 24 := by kernel_rfl
theorem bytes5 : Tryd.prog.bytesOf 5 = 1 := by kernel_rfl
section
variable {H : Type} {enc : TypeId × Value → H} {W : World}
set_option maxRecDepth 100000 in
/-- an area's two cells -/
theorem open_area {n : Nat} {cs : List Value} {x : DataW H × List MemPlace} (h : DataW.trod enc Tryd.prog W 0 (fun _ => true) true n 24 cs = some x) :
    ∃ sz b, cs = [.int .i64 sz, .bool b] ∧ x = (.agg [.lit (.int .i64 sz), .lit (.bool b)], []) := by
  obtain ⟨ys, m, _, hx, hlen, hyl, hf⟩ := DataW.trod_struct Tryd.underlying24 h
  rw [cells23] at hlen
  match cs, hlen with
  | [c0, c1], _ =>
    match ys, hyl with
    | [y0, y1], _ =>
      have h0 : DataW.trod enc Tryd.prog W 0 (fun _ => true) true m 3 (([c0, c1].drop 0).take (Tryd.prog.cellsOf 3)) = some y0 := hf 0 _ rfl
      have h1 : DataW.trod enc Tryd.prog W 0 (fun _ => true) true m 4 (([c0, c1].drop 1).take (Tryd.prog.cellsOf 4)) = some y1 := hf 1 _ rfl
      rw [cells3] at h0
      rw [cells4] at h1
      obtain ⟨sz, e0, ey0, _⟩ := DataW.trod_int Tryd.underlying3 h0
      obtain ⟨b, e1, ey1⟩ := DataW.trod_bool Tryd.underlying4 h1
      simp at e0 e1
      subst e0 e1 ey0 ey1
      exact ⟨sz, b, rfl, by simpa using hx⟩
theorem int_cell {w : World} {a : Addr} {k : IntKind} {n : Int} (h : w.cell? a = some (.int k n)) : cellI w a = n := by simp [cellI, h]
theorem bool_cell {w : World} {a : Addr} {b : Bool} (h : w.cell? a = some (.bool b)) : cellB w a = b := by simp [cellB, h]
/-- the areas that lie at an address -/
def areasAt (w : World) (a : Addr) (n : Nat) : List Ar := (List.range n).map fun i => ⟨cellI w (a.add (i * 2)), cellB w (a.add (i * 2 + 1))⟩
set_option maxRecDepth 100000 in
theorem open_maps {n : Nat} {cs : List Value} {x : DataW H × List MemPlace} (h : DataW.trod enc Tryd.prog W 0 (fun _ => true) true n 25 cs = some x) (hw : ∀ k ∈ x.1.weights Tryd.prog 25, k ≤ 140737488351232) :
    ∃ q len cap ms, cs = [.slice q len cap] ∧ MapsAt W q len ms := by
  rcases Deep.open_slice Tryd.underlying25 h with ⟨rfl, _⟩ | ⟨a, len, cap, m, k, D, Pl, rfl, _, hl, _, hm, hx, hi⟩
  · exact ⟨none, 0, 0, [], rfl, rfl, Nat.zero_le _, fun i hi => absurd hi (Nat.not_lt_zero _)⟩
  · have hmc : m = cap := by simpa using hm
    refine ⟨some a, len, cap, areasAt W a len, rfl, by simp [areasAt], ?_, fun i hil => ?_⟩
    · have := hw ((len + (m - len)) * Tryd.prog.bytesOf 24) (by rw [hx]; simp [DataW.weights, Tryd.underlying25])
      rw [bytes23] at this
      omega
    · have hil' : i < len := by simpa [areasAt] using hil
      obtain ⟨cs', hc, ht⟩ := hi i (by omega)
      rw [cells23] at hc
      obtain ⟨_, _, hat⟩ := World.cells?_some hc
      obtain ⟨sz, b, rfl, _⟩ := open_area ht
      have h0 := hat 0 (by omega)
      have h1 := hat 1 (by omega)
      rw [Addr.add_add] at h0 h1
      simp only [Nat.add_zero, List.getElem?_cons_zero, List.getElem?_cons_succ] at h0 h1
      have e : (areasAt W a len).getD i none_ = ⟨sz, b⟩ := by
        simp [areasAt, hil', int_cell h0, bool_cell h1]
      rw [e]
      have hs : a.spot = none := by
        obtain ⟨cs0, hc0, ht0⟩ := hi 0 (by omega)
        rw [cells23] at hc0
        obtain ⟨_, _, hat0⟩ := World.cells?_some hc0
        obtain ⟨sz0, b0, rfl, _⟩ := open_area ht0
        have := hat0 0 (by omega)
        rw [Addr.add_add, Nat.zero_mul] at this
        exact (spot_none (a := a) (by simpa [Addr.add] using this)).1
      obtain ⟨bb, off, sp⟩ := a
      subst hs
      rw [add_plain] at h0 h1
      exact ⟨bb, off, rfl, (spot_none h0).2, h0, h1⟩
set_option maxRecDepth 100000 in
theorem open_layout {v : Value} {d : DataW H} {p : List MemPlace} (hv : Value.okWide Tryd.prog W .any 0 27 v) (h : DataW.Trod enc Tryd.prog W 0 (fun _ => true) true 27 v d p) (hw : ∀ k ∈ d.weights Tryd.prog 27, k ≤ 140737488351232) :
    ∃ c cw q len cap ms, v = .agg #[.int .i64 c, .bool cw, .slice q len cap] ∧ MapsAt W q len ms := by
  obtain ⟨cs, rfl, hsz⟩ := okWide_struct Tryd.underlying27 hv
  rw [cells26] at hsz
  obtain ⟨l⟩ := cs
  match l, hsz with
  | [c0, c1, c2], _ =>
    obtain ⟨fuel, hf⟩ := h
    obtain ⟨ys, m, _, hx, _, hyl, hg⟩ := DataW.trod_struct Tryd.underlying27 hf
    match ys, hyl with
    | [y0, y1], _ =>
      have h0 : DataW.trod enc Tryd.prog W 0 (fun _ => true) true m 24 (([c0, c1, c2].drop 0).take (Tryd.prog.cellsOf 24)) = some y0 := hg 0 _ rfl
      have h1 : DataW.trod enc Tryd.prog W 0 (fun _ => true) true m 25 (([c0, c1, c2].drop 2).take (Tryd.prog.cellsOf 25)) = some y1 := hg 1 _ rfl
      rw [cells23] at h0
      rw [cells24] at h1
      obtain ⟨sz, b, e0, _⟩ := open_area h0
      simp only [Prod.mk.injEq] at hx
      have hd : d = .agg [y0.1, y1.1] := by simpa using hx.1
      obtain ⟨q, len, cap, ms, e1, hM⟩ := open_maps h1 (fun k hk => hw k (by rw [hd]; simp [DataW.weights, DataW.weightsEach, Tryd.underlying27, hk]))
      simp at e0 e1
      obtain ⟨rfl, rfl⟩ := e0
      subst e1
      exact ⟨sz, b, q, len, cap, ms, rfl, hM⟩
end
end Go.Proofs.YthckkdkijajadaaDoor

/- What a memory that came in reads as: its rows of bytes, said as plain lists. -/
namespace Go.Proofs.YthckkdkijajadaaDoor
open Go.ChangeShapes Go.WideShapes Go.ChangeAt Go.RowKit M

/-- the bytes that lie at an address -/
def bytesAt (w : World) (a : Option Addr) (n : Nat) : List Int := (List.range n).map fun j => match a with | some a => cellI w (a.add j) | none => 0
def rowsAt (w : World) (a : Addr) (n : Nat) : List (List Int) := (List.range n).map fun i => bytesAt w (cellQ w (a.add i)) (cellL w (a.add i))
theorem weightsAll_mem {H : Type} {P : Program} {e : TypeId} {d : DataW H} {n : Nat} : ∀ {l : List (DataW H)}, d ∈ l → n ∈ d.weights P e → n ∈ DataW.weightsAll P e l
  | x :: r, hd, hn => by
    simp only [DataW.weightsAll, List.mem_append]
    rcases List.mem_cons.1 hd with rfl | h
    · exact .inl hn
    · exact .inr (weightsAll_mem h hn)
section
variable {H : Type} {enc : TypeId × Value → H} {W : World}
set_option maxRecDepth 100000 in
/-- a slice of bytes -/
theorem open_bytes {t n : Nat} (ht36 : Tryd.prog.underlying t = some (.slice 5)) {cs : List Value} {x : DataW H × List MemPlace} (h : DataW.trod enc Tryd.prog W 0 (fun _ => true) true n t cs = some x) (hw : ∀ k ∈ x.1.weights Tryd.prog t, k ≤ 140737488351232) :
    ∃ q len cap, cs = [.slice q len cap] ∧ len ≤ cap ∧ cap ≤ 140737488351232 ∧ RowAt W q (bytesAt W q len) := by
  rcases Deep.open_slice ht36 h with ⟨rfl, _⟩ | ⟨a, len, cap, m, k, D, Pl, rfl, _, hl, _, hm, hx, hi⟩
  · exact ⟨none, 0, 0, rfl, Nat.le_refl _, Nat.zero_le _, RowAt.nil _ _⟩
  · have hmc : m = cap := by simpa using hm
    have hcap : cap ≤ 140737488351232 := by
      have := hw ((len + (m - len)) * Tryd.prog.bytesOf 5) (by rw [hx]; simp [DataW.weights, ht36])
      rw [bytes5] at this
      omega
    have hcell : ∀ j, j < m → ∃ z, W.cell? (a.add j) = some (.int .u8 z) ∧ 0 ≤ z ∧ z < 256 := by
      intro j hj
      obtain ⟨cs', hc, ht⟩ := hi j hj
      rw [cells5, Nat.mul_one] at hc
      obtain ⟨_, _, hat⟩ := World.cells?_some hc
      obtain ⟨z, rfl, _, hwf⟩ := DataW.trod_int Tryd.underlying5 ht
      have h0 := hat 0 (by omega)
      rw [Addr.add_add, Nat.add_zero] at h0
      refine ⟨z, by simpa using h0, ?_⟩
      simp [Lit.wf, IntKind.min, IntKind.max, IntKind.signed, IntKind.bits] at hwf
      omega
    have hlen : (bytesAt W (some a) len).length = len := by simp [bytesAt]
    have hget : ∀ j, j < len → ∀ z, W.cell? (a.add j) = some (.int .u8 z) → (bytesAt W (some a) len).getD j 0 = z := by
      intro j hj z hz
      simp [bytesAt, hj, int_cell hz]
    refine ⟨some a, len, cap, rfl, hl, hcap, by rw [hlen]; omega, fun j hj => ?_, fun j hj => ?_⟩
    · rw [hlen] at hj
      have hs : a.spot = none := by
        obtain ⟨z, hz, _⟩ := hcell 0 (by omega)
        exact (spot_none (a := a) (by simpa [Addr.add] using hz)).1
      obtain ⟨bb, off, sp⟩ := a
      subst hs
      obtain ⟨z, hz, _⟩ := hcell j (by omega)
      rw [hget j hj z hz]
      rw [add_plain] at hz
      exact ⟨bb, off, rfl, (spot_none hz).2, hz⟩
    · rw [hlen] at hj
      obtain ⟨z, hz, hb⟩ := hcell j (by omega)
      rw [hget j hj z hz]
      exact hb
set_option maxRecDepth 100000 in
/-- a memory -/
theorem open_memory24 {v : Value} {d : DataW H} {p : List MemPlace} (hv : Value.okWide Tryd.prog W .any 0 29 v) (h : DataW.Trod enc Tryd.prog W 0 (fun _ => true) true 29 v d p) (hw : ∀ k ∈ d.weights Tryd.prog 29, k ≤ 140737488351232) :
    ∃ mp mc Q C M, v = .slice mp M.length mc ∧ MemAt W mp Q C M ∧ M.length * 24 ≤ 140737488351232 := by
  obtain ⟨mp, len, mc, rfl⟩ := okWide_slice Tryd.underlying29 hv
  obtain ⟨fuel, hf⟩ := h
  rcases Deep.open_slice Tryd.underlying29 hf with ⟨e, _⟩ | ⟨a, len', cap, m, k, D, Pl, e, _, hl, _, hm, hx, hi⟩
  · simp [Value.cells] at e
    obtain ⟨rfl, rfl, rfl⟩ := e
    exact ⟨none, 0, fun _ => none, fun _ => 0, [], rfl, ⟨Nat.zero_le _, fun i => by simp, fun i hi => absurd hi (Nat.not_lt_zero _), fun i j hi => absurd hi (Nat.not_lt_zero _), fun i j hi => absurd hi (Nat.not_lt_zero _)⟩, by simp⟩
  · simp [Value.cells] at e
    obtain ⟨rfl, rfl, rfl⟩ := e
    have hmc : m = mc := by simpa using hm
    simp only [Prod.mk.injEq] at hx
    have hs24 : len * 24 ≤ 140737488351232 := by
      have := hw ((len + (m - len)) * Tryd.prog.bytesOf 33) (by rw [hx.1]; simp [DataW.weights, Tryd.underlying29])
      rw [bytes36] at this
      omega
    have hsm : len ≤ 140737488351232 := by omega
    have hrow : ∀ i, i < len → ∃ q l c, W.cell? (a.add i) = some (.slice q l c) ∧ l ≤ c ∧ c ≤ 140737488351232 ∧ RowAt W q (bytesAt W q l) := by
      intro i hil
      obtain ⟨cs', hc, ht⟩ := hi i (by omega)
      rw [cells36, Nat.mul_one] at hc
      obtain ⟨_, _, hat⟩ := World.cells?_some hc
      obtain ⟨q, l, c, rfl, h1, h2, h3⟩ := open_bytes Tryd.underlying33 ht (fun n hn => hw n (by
        rw [hx.1]
        simp only [DataW.weights, Tryd.underlying29]
        refine List.mem_cons_of_mem _ (List.mem_append_left _ ?_)
        exact weightsAll_mem (List.mem_map.2 ⟨i, List.mem_range.2 hil, rfl⟩) hn))
      have h0 := hat 0 (by omega)
      rw [Addr.add_add, Nat.add_zero] at h0
      exact ⟨q, l, c, by simpa using h0, h1, h2, h3⟩
    have hlen : (rowsAt W a len).length = len := by simp [rowsAt]
    have hget : ∀ i, i < len → ∀ q l c, W.cell? (a.add i) = some (.slice q l c) → (rowsAt W a len).getD i [] = bytesAt W q l ∧ cellQ W (a.add i) = q ∧ cellC W (a.add i) = c := by
      intro i hi q l c hc
      simp [rowsAt, hi, cellQ, cellL, cellC, hc]
    have hbl : ∀ q l, (bytesAt W q l).length = l := fun q l => by simp [bytesAt]
    refine ⟨some a, mc, fun i => cellQ W (a.add i), fun i => cellC W (a.add i), rowsAt W a len, by rw [hlen], ⟨by rw [hlen]; exact hsm, fun i => ?_, fun i hi' => ?_, fun i j hi' hj => ?_, fun i j hi' hj => ?_⟩, by rw [hlen]; exact hs24⟩
    · by_cases h : i < len
      · obtain ⟨q, l, c, hc, h1, h2, _⟩ := hrow i h
        rw [(hget i h q l c hc).1, hbl]
        omega
      · have : (rowsAt W a len).getD i [] = [] := by simp [rowsAt, h]
        rw [this]; simp
    · rw [hlen] at hi'
      obtain ⟨q, l, c, hc, h1, h2, _⟩ := hrow i hi'
      obtain ⟨g1, g2, g3⟩ := hget i hi' q l c hc
      have hs : a.spot = none := by
        obtain ⟨q0, l0, c0, hc0, _⟩ := hrow 0 (by omega)
        exact (spot_none (a := a) (by simpa [Addr.add] using hc0)).1
      rw [g1, g2, g3, hbl]
      obtain ⟨bb, off, sp⟩ := a
      subst hs
      rw [add_plain] at hc
      exact ⟨bb, off, rfl, (spot_none hc).2, hc, h1, Nat.le_trans h2 (by omega)⟩
    · rw [hlen] at hi'
      obtain ⟨q, l, c, hc, _, _, h3⟩ := hrow i hi'
      obtain ⟨g1, g2, _⟩ := hget i hi' q l c hc
      rw [g1] at hj ⊢
      rw [g2]
      exact h3.cells j hj
    · rw [hlen] at hi'
      obtain ⟨q, l, c, hc, _, _, h3⟩ := hrow i hi'
      obtain ⟨g1, _, _⟩ := hget i hi' q l c hc
      rw [g1] at hj ⊢
      exact h3.byte j hj
set_option maxRecDepth 100000 in
theorem open_memory {v : Value} {d : DataW H} {p : List MemPlace} (hv : Value.okWide Tryd.prog W .any 0 29 v) (h : DataW.Trod enc Tryd.prog W 0 (fun _ => true) true 29 v d p) (hw : ∀ k ∈ d.weights Tryd.prog 29, k ≤ 140737488351232) :
    ∃ mp mc Q C M, v = .slice mp M.length mc ∧ MemAt W mp Q C M := by
  obtain ⟨mp, mc, Q, C, M, e, hM, _⟩ := open_memory24 hv h hw
  exact ⟨mp, mc, Q, C, M, e, hM⟩
set_option maxRecDepth 100000 in
/-- a slice of bytes that came in -/
theorem open_byteslice {v : Value} {d : DataW H} {p : List MemPlace} (hv : Value.okWide Tryd.prog W .any 0 33 v) (h : DataW.Trod enc Tryd.prog W 0 (fun _ => true) true 33 v d p) (hw : ∀ k ∈ d.weights Tryd.prog 33, k ≤ 140737488351232) :
    ∃ bq bs bc, v = .slice bq bs.length bc ∧ RowAt W bq bs := by
  obtain ⟨q, len, cap, rfl⟩ := okWide_slice Tryd.underlying33 hv
  obtain ⟨fuel, hf⟩ := h
  obtain ⟨q', len', cap', e, h1, h2, h3⟩ := open_bytes Tryd.underlying33 hf hw
  simp [Value.cells] at e
  obtain ⟨rfl, rfl, rfl⟩ := e
  exact ⟨q, bytesAt W q len, cap, by simp [bytesAt], h3⟩
end
end Go.Proofs.YthckkdkijajadaaDoor
