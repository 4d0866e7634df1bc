/- What the rows' list of variables gives: the table of the fields, the powers of ten, the type of errors; the world of the witness. -/
import Derived.Test.YtlcmaokafklheaaDoorL
import Derived.Test.YtlcmaokafklheaaDoorRows
import Derived.ProofKit
import Derived.LaidMore
import Derived.LaidHandle
import Derived.Stop.LaidTwo
import Derived.Stop.LaidErr
import Derived.OpenShut
import Derived.Lib.LaidTab
namespace Go.Proofs.YtlcmaokafklheaaDoor
open Go.RowKit M

theorem own : ownKnob Tryd.prog.godebug = none := by kernel_rfl
theorem gE : Tryd.prog.globalNamed "errors.errorType" = some 0 := by kernel_rfl
theorem gR : Tryd.prog.globalNamed "clevis/code.rows" = some 1 := by kernel_rfl
theorem gP : Tryd.prog.globalNamed "internal/strconv.uint64pow10" = some 2 := by kernel_rfl
theorem tR : (Tryd.prog.globals[1]?).map (·.type) = some 103 := by kernel_rfl
theorem tP : (Tryd.prog.globals[2]?).map (·.type) = some 129 := by kernel_rfl
theorem rtT : (Tryd.prog.cutTypes.find? (·.1 == "internal/reflectlite.rtype")).map (·.2) = some 113 := by kernel_rfl
theorem oneRow : ((List.range 165).filter fun t => Tryd.prog.rowNamed t [101, 114, 114, 111, 114]) = [44] := by kernel_rfl
theorem typesSize : Tryd.prog.types.size = 165 := by kernel_rfl
theorem cells102 : Tryd.prog.cellsOf 102 = 3 := by kernel_rfl
theorem cells103 : Tryd.prog.cellsOf 103 = 15 := by kernel_rfl
theorem cells3 : Tryd.prog.cellsOf 3 = 1 := by kernel_rfl
theorem cells4 : Tryd.prog.cellsOf 4 = 1 := by kernel_rfl
/-- the list that all rows bear -/
def laid5 : List (String × DataW Unit) := [("math/bits.deBruijn32tab", Rows.laid_math_bits_deBruijn32tab), ("math/bits.deBruijn64tab", Rows.laid_math_bits_deBruijn64tab), ("internal/strconv.uint64pow10", Rows.laid_internal_strconv_uint64pow10), ("errors.errorType", Rows.laid_errors_errorType), ("clevis/code.rows", Rows.laid_clevis_code_rows)]
theorem cell_size {W : World} {b o : Nat} {v : Value} (h : W.cell? ⟨b, o, none⟩ = some v) : b < W.heap.size := by
  by_cases hb : b < W.heap.size
  · exact hb
  · simp [World.cell?, hb] at h
set_option maxRecDepth 100000 in
theorem env_err {W : World} (h : handlesMet Tryd.prog [("errors.errorType", Rows.laid_errors_errorType)] W) : ErrT W := by
  obtain ⟨name, u, ty, e1, e2, e3, e4, e5⟩ := h _ (List.mem_singleton.2 rfl)
  have en : name = [101, 114, 114, 111, 114] := (Option.some.inj e1).symm
  subst en
  obtain rfl := Option.some.inj (rtT.symm.trans e2)
  have hm : ty ∈ (List.range 165).filter fun t => Tryd.prog.rowNamed t [101, 114, 114, 111, 114] := List.mem_filter.2 ⟨List.mem_range.2 (by rw [← typesSize]; exact e3), e4⟩
  rw [oneRow] at hm
  obtain rfl := List.mem_singleton.1 hm
  have hh : typeHandle Tryd.prog 44 = .pointer (some ⟨6, 44, none⟩) := by kernel_rfl
  rw [hh] at e5
  have hc : W.cell? ⟨0, 0, none⟩ = some (.iface 113 (.agg #[.pointer (some ⟨6, 44, none⟩)])) := by simpa using World.var?_cell gE e5 0
  exact ⟨cell_size hc, hc⟩
set_option maxRecDepth 100000 in
theorem row_cells {W : World} {n : Nat} {cs : List Value} {x : DataW Unit × List MemPlace} {a b : Int} {s : Bool} {enc : TypeId × Value → Unit} {base : Nat} {sp : Nat → Bool} {held : Bool} (h : DataW.trod enc Tryd.prog W base sp held n 102 cs = some x) (hx : x.1 = .agg [.lit (.int .i64 a), .lit (.int .i64 b), .lit (.bool s)]) :
    cs = [.int .i64 a, .int .i64 b, .bool s] := by
  obtain ⟨ys, m, _, hy, hlen, hyl, hf⟩ := DataW.trod_struct Tryd.underlying102 h
  rw [cells102] at hlen
  match cs, hlen with
  | [c0, c1, c2], _ =>
    match ys, hyl with
    | [y0, y1, y2], _ =>
      have h0 : DataW.trod enc Tryd.prog W base sp held m 3 (([c0, c1, c2].drop 0).take (Tryd.prog.cellsOf 3)) = some y0 := hf 0 _ rfl
      have h1 : DataW.trod enc Tryd.prog W base sp held m 3 (([c0, c1, c2].drop 1).take (Tryd.prog.cellsOf 3)) = some y1 := hf 1 _ rfl
      have h2 : DataW.trod enc Tryd.prog W base sp held m 4 (([c0, c1, c2].drop 2).take (Tryd.prog.cellsOf 4)) = some y2 := hf 2 _ rfl
      rw [cells3] at h0 h1
      rw [cells4] at h2
      obtain ⟨n0, e0, ey0, _⟩ := DataW.trod_int Tryd.underlying3 h0
      obtain ⟨n1, e1, ey1, _⟩ := DataW.trod_int Tryd.underlying3 h1
      obtain ⟨b2, e2, ey2⟩ := DataW.trod_bool Tryd.underlying4 h2
      simp at e0 e1 e2
      subst e0 e1 e2 ey0 ey1 ey2
      rw [hy] at hx
      simp at hx
      obtain ⟨rfl, rfl, rfl⟩ := hx
      rfl
set_option maxRecDepth 100000 in
theorem env_rows {W : World} (h : laidMet Tryd.prog [("clevis/code.rows", Rows.laid_clevis_code_rows)] W) : RowsAt W := by
  obtain ⟨ps, ⟨g, t, cs, f, p, q, hg, ht, hv, hd, _⟩, _⟩ := h
  obtain rfl := Option.some.inj (gR.symm.trans hg)
  obtain rfl := Option.some.inj (tR.symm.trans ht)
  obtain ⟨l⟩ := cs
  have hc : ∀ j v, l[j]? = some v → W.cell? ⟨1, j, none⟩ = some v := fun j v hj => by
    have := World.var?_cell hg hv j
    rw [this]
    simpa using hj
  obtain ⟨xs, m, _, hx, hlen, hxl, hi⟩ := DataW.trod_array Tryd.underlying103 hd
  rw [cells103] at hlen
  have hx1 := congrArg Prod.fst hx
  simp only [Rows.laid_clevis_code_rows, DataW.agg.injEq] at hx1
  match xs, hxl with
  | [y0, y1, y2, y3, y4], _ =>
    simp only [List.map_cons, List.map_nil, List.cons.injEq, and_true] at hx1
    obtain ⟨d0, d1, d2, d3, d4⟩ := hx1
    have h0 := hi 0 (by omega)
    have h1 := hi 1 (by omega)
    have h2 := hi 2 (by omega)
    have h3 := hi 3 (by omega)
    have h4 := hi 4 (by omega)
    rw [cells102] at h0 h1 h2 h3 h4
    have r0 := row_cells h0 d0.symm
    have r1 := row_cells h1 d1.symm
    have r2 := row_cells h2 d2.symm
    have r3 := row_cells h3 d3.symm
    have r4 := row_cells h4 d4.symm
    have hl : l = [.int .i64 0, .int .i64 8, .bool false, .int .i64 8, .int .i64 4, .bool false, .int .i64 12, .int .i64 4, .bool false, .int .i64 16, .int .i64 16, .bool true, .int .i64 32, .int .i64 32, .bool true] := by
      match l, hlen with
      | [c0, c1, c2, c3, c4, c5, c6, c7, c8, c9, c10, c11, c12, c13, c14], _ =>
        simp at r0 r1 r2 r3 r4
        obtain ⟨rfl, rfl, rfl⟩ := r0
        obtain ⟨rfl, rfl, rfl⟩ := r1
        obtain ⟨rfl, rfl, rfl⟩ := r2
        obtain ⟨rfl, rfl, rfl⟩ := r3
        obtain ⟨rfl, rfl, rfl⟩ := r4
        rfl
    subst hl
    refine ⟨cell_size (hc 0 _ rfl), fun j v hj => hc j v ?_⟩
    simpa using hj
set_option maxRecDepth 100000 in
theorem env_of_laid {W : World} (h : laidMetH Tryd.prog laid5 W) : Env W := by
  have h' : laidMet Tryd.prog [("math/bits.deBruijn32tab", Rows.laid_math_bits_deBruijn32tab), ("math/bits.deBruijn64tab", Rows.laid_math_bits_deBruijn64tab), ("internal/strconv.uint64pow10", Rows.laid_internal_strconv_uint64pow10), ("clevis/code.rows", Rows.laid_clevis_code_rows)] W ∧ handlesMet Tryd.prog [("errors.errorType", Rows.laid_errors_errorType)] W := h
  refine ⟨env_rows (Go.laidMet.tail (Go.laidMet.tail (Go.laidMet.tail h'.1))), env_err h'.2, ?_⟩
  exact Lib.tabIs_of_head gP tP Tryd.underlying129 Tryd.underlying36 (by kernel_rfl) (by kernel_rfl) (Go.laidMet.tail (Go.laidMet.tail h'.1))
end Go.Proofs.YtlcmaokafklheaaDoor
