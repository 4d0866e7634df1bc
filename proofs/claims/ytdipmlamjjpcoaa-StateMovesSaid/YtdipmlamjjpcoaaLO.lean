/- What bounds and numbers that came in read as. -/
import Derived.Test.YtdipmlamjjpcoaaWA
import Derived.ProofKit
import Derived.OpenShut
import Derived.Deep.Slices
namespace Go.Proofs.Ytdipmlamjjpcoaa
open Go.ChangeShapes Go.WideShapes Go.ChangeAt Go.RowKit

theorem cellsB : Try.prog.cellsOf 31 = 6 := by kernel_rfl
theorem cellsT : Try.prog.cellsOf 29 = 2 := by kernel_rfl
theorem cellsU : Try.prog.cellsOf 27 = 1 := by kernel_rfl
theorem cellsI : Try.prog.cellsOf 2 = 1 := by kernel_rfl
theorem u64_U {n : Int} (h : (Lit.int .u64 n).wf = true) : ∃ x : B, n = U x := by
  simp [Lit.wf, IntKind.min, IntKind.max, IntKind.signed, IntKind.bits] at h
  exact ⟨BitVec.ofInt 64 n, (U_of n (by omega) (by omega)).symm⟩
theorem i64_S {n : Int} (h : (Lit.int .i64 n).wf = true) : ∃ x : B, n = S x := by
  simp [Lit.wf, IntKind.min, IntKind.max, IntKind.signed, IntKind.bits] at h
  exact ⟨BitVec.ofInt 64 n, (S_of n (by omega) (by omega)).symm⟩
section
variable {H : Type} {enc : TypeId × Value → H} {W : World}
set_option maxRecDepth 100000 in
theorem open_tnum {n : Nat} {cs : List Value} {x : DataW H × List MemPlace} (h : DataW.trod enc Try.prog W 0 (fun _ => true) true n 29 cs = some x) :
    ∃ T : Tn, cs = [.int .u64 (U T.v), .int .u64 (U T.m)] := by
  obtain ⟨ys, m, _, hx, hlen, hyl, hf⟩ := DataW.trod_struct Try.underlying29 h
  rw [cellsT] at hlen
  match cs, hlen with
  | [c0, c1], _ =>
    match ys, hyl with
    | [y0, y1], _ =>
      have h0 : DataW.trod enc Try.prog W 0 (fun _ => true) true m 27 (([c0, c1].drop 0).take (Try.prog.cellsOf 27)) = some y0 := hf 0 _ rfl
      have h1 : DataW.trod enc Try.prog W 0 (fun _ => true) true m 27 (([c0, c1].drop 1).take (Try.prog.cellsOf 27)) = some y1 := hf 1 _ rfl
      rw [cellsU] at h0 h1
      obtain ⟨n0, e0, _, w0⟩ := DataW.trod_int Try.underlying27 h0
      obtain ⟨n1, e1, _, w1⟩ := DataW.trod_int Try.underlying27 h1
      simp at e0 e1
      subst e0 e1
      obtain ⟨x0, rfl⟩ := u64_U w0
      obtain ⟨x1, rfl⟩ := u64_U w1
      exact ⟨⟨x0, x1⟩, rfl⟩
set_option maxRecDepth 100000 in
theorem open_bound_cells {n : Nat} {cs : List Value} {x : DataW H × List MemPlace} (h : DataW.trod enc Try.prog W 0 (fun _ => true) true n 31 cs = some x) :
    ∃ D : Bd, cs = [.int .u64 (U D.ul), .int .u64 (U D.uh), .int .i64 (S D.sl), .int .i64 (S D.sh), .int .u64 (U D.t.v), .int .u64 (U D.t.m)] := by
  obtain ⟨ys, m, _, hx, hlen, hyl, hf⟩ := DataW.trod_struct Try.underlying31 h
  rw [cellsB] at hlen
  match cs, hlen with
  | [c0, c1, c2, c3, c4, c5], _ =>
    match ys, hyl with
    | [y0, y1, y2, y3, y4], _ =>
      have h0 : DataW.trod enc Try.prog W 0 (fun _ => true) true m 27 (([c0, c1, c2, c3, c4, c5].drop 0).take (Try.prog.cellsOf 27)) = some y0 := hf 0 _ rfl
      have h1 : DataW.trod enc Try.prog W 0 (fun _ => true) true m 27 (([c0, c1, c2, c3, c4, c5].drop 1).take (Try.prog.cellsOf 27)) = some y1 := hf 1 _ rfl
      have h2 : DataW.trod enc Try.prog W 0 (fun _ => true) true m 2 (([c0, c1, c2, c3, c4, c5].drop 2).take (Try.prog.cellsOf 2)) = some y2 := hf 2 _ rfl
      have h3 : DataW.trod enc Try.prog W 0 (fun _ => true) true m 2 (([c0, c1, c2, c3, c4, c5].drop 3).take (Try.prog.cellsOf 2)) = some y3 := hf 3 _ rfl
      have h4 : DataW.trod enc Try.prog W 0 (fun _ => true) true m 29 (([c0, c1, c2, c3, c4, c5].drop 4).take (Try.prog.cellsOf 29)) = some y4 := hf 4 _ rfl
      rw [cellsU] at h0 h1
      rw [cellsI] at h2 h3
      rw [cellsT] at h4
      obtain ⟨n0, e0, _, w0⟩ := DataW.trod_int Try.underlying27 h0
      obtain ⟨n1, e1, _, w1⟩ := DataW.trod_int Try.underlying27 h1
      obtain ⟨n2, e2, _, w2⟩ := DataW.trod_int Try.underlying2 h2
      obtain ⟨n3, e3, _, w3⟩ := DataW.trod_int Try.underlying2 h3
      obtain ⟨T, e4⟩ := open_tnum h4
      simp at e0 e1 e2 e3 e4
      obtain ⟨e4, e5⟩ := e4
      subst e0 e1 e2 e3 e4 e5
      obtain ⟨x0, rfl⟩ := u64_U w0
      obtain ⟨x1, rfl⟩ := u64_U w1
      obtain ⟨x2, rfl⟩ := i64_S w2
      obtain ⟨x3, rfl⟩ := i64_S w3
      exact ⟨⟨x0, x1, x2, x3, T⟩, rfl⟩
set_option maxRecDepth 100000 in
theorem open_bound {v : Value} {d : DataW H} {p : List MemPlace} (hv : Value.okWide Try.prog W .any 0 31 v) (h : DataW.Trod enc Try.prog W 0 (fun _ => true) true 31 v d p) :
    ∃ D : Bd, v = .agg #[.int .u64 (U D.ul), .int .u64 (U D.uh), .int .i64 (S D.sl), .int .i64 (S D.sh), .int .u64 (U D.t.v), .int .u64 (U D.t.m)] := by
  obtain ⟨cs, rfl, _⟩ := okWide_struct Try.underlying31 hv
  obtain ⟨fuel, hf⟩ := h
  obtain ⟨D, e⟩ := open_bound_cells hf
  refine ⟨D, ?_⟩
  have : cs = cs.toList.toArray := by simp
  rw [this]
  have e' : cs.toList = [.int .u64 (U D.ul), .int .u64 (U D.uh), .int .i64 (S D.sl), .int .i64 (S D.sh), .int .u64 (U D.t.v), .int .u64 (U D.t.m)] := by simpa [Value.cells] using e
  rw [e']
end
end Go.Proofs.Ytdipmlamjjpcoaa
