/- States: rows cleared from one place to another. -/
import Derived.Test.YtdipmlamjjpcoaaKO
import Derived.Lib.SliceRun
namespace Go.Proofs.Ytdipmlamjjpcoaa
open Go.RowKit
attribute [local go_sem] b_and b_or b_xor b_andNot b_low b_top b_most b_signed b_unsigned b_zero b_eq s_eq b_nzero b_neq s_neq b_max b_min s_max s_min
attribute [local go_sem ↓] Go.wp_at_zero Go.wp_at_succ

/-- n of a row from a on set to nought -/
def zap (l : List Kn) (a : Nat) : Nat → List Kn
  | 0 => l
  | n + 1 => zap (l.set a kzero) (a + 1) n
theorem zap_len : ∀ (n : Nat) (l : List Kn) (a : Nat), (zap l a n).length = l.length
  | 0, _, _ => rfl
  | n + 1, l, a => by rw [zap, zap_len n, List.length_set]
theorem rg_zap : ∀ (n : Nat) (l : List Kn) (a i : Nat), rg (zap l a n) i = if a ≤ i ∧ i < a + n ∧ i < l.length then kzero else rg l i
  | 0, l, a, i => by rw [zap, if_neg (by omega)]
  | n + 1, l, a, i => by
    rw [zap, rg_zap n, rg_set, List.length_set]
    by_cases h1 : a + 1 ≤ i ∧ i < a + 1 + n ∧ i < l.length
    · rw [if_pos h1, if_pos (by omega)]
    · rw [if_neg h1]
      by_cases h2 : a = i ∧ a < l.length
      · rw [if_pos h2, if_pos (by omega)]
      · rw [if_neg h2, if_neg (by omega)]
theorem kn_ext {l m : List Kn} (hl : l.length = m.length) (h : ∀ i, i < l.length → rg l i = rg m i) : l = m := by
  apply List.ext_getElem hl
  intro i h1 h2
  have := h i h1
  unfold rg at this
  rw [List.getD_eq_getElem?_getD, List.getD_eq_getElem?_getD, List.getElem?_eq_getElem h1, List.getElem?_eq_getElem h2] at this
  simpa using this
theorem zap_clear {v : List Kn} {a e : Nat} (h : a < e) : zap v (a / 8) ((e - 1) / 8 + 1 - a / 8) = clearK v a e := by
  apply kn_ext
  · rw [zap_len, clear_len]
  intro i hi
  rw [zap_len] at hi
  rw [rg_zap, clear_get]
  by_cases h1 : 8 * i < e ∧ a < 8 * i + 8
  · rw [if_pos h1, if_pos (by omega)]
  · rw [if_neg h1, if_neg (by omega)]
def zeros (n : Nat) : List Value := knV (List.replicate n kzero)
theorem zeros_len (n : Nat) : (zeros n).length = n * 8 := by unfold zeros; rw [knV_len, List.length_replicate]
theorem zeros_one (n : Nat) : ∀ v ∈ zeros n, v.oneCell' = true := knV_one _
theorem set_zeros (w : World) (g o n : Nat) : w.setCells g o (zeros (n + 1)) = (put8 w g o kzero).setCells g (o + 8) (zeros n) := by
  have e : zeros (n + 1) = knC kzero ++ zeros n := rfl
  rw [e]
  simp only [knC, put8, List.cons_append, List.nil_append, World.setCells, Nat.add_assoc, Nat.reduceAdd]
theorem Rw.zap {g1 g2 g3 base : Nat} {l : List Kn} {bs : List Bool} : ∀ {n : Nat} {W : World} {v : List Kn} {a : Nat}, Rw W base l bs v g1 g2 g3 → a + n ≤ v.length → Rw (W.setCells g3 (a * 8) (zeros n)) base l bs (zap v a n) g1 g2 g3
  | 0, W, v, a, h, _ => h
  | n + 1, W, v, a, h, ha => by
    rw [set_zeros, show a * 8 + 8 = (a + 1) * 8 by omega]
    exact Rw.zap (h.set3 (by omega) kzero) (by rw [List.length_set]; omega)
theorem Box.zap {g m : Nat} {cs : List Value} (hne : g ≠ m) : ∀ {n : Nat} {W : World} {o : Nat}, Box W m cs → Box (W.setCells g o (zeros n)) m cs
  | 0, W, o, h => h
  | n + 1, W, o, h => by
    rw [set_zeros]
    exact Box.zap hne (h.far8 hne kzero)
theorem below_zap {B g : Nat} {a : World} (hg : B ≤ g) : ∀ {n : Nat} {W : World} {o : Nat}, Below B a W → Below B a (W.setCells g o (zeros n))
  | 0, W, o, h => h
  | n + 1, W, o, h => by
    rw [set_zeros]
    exact below_zap hg (below_put8 h hg)
theorem zeroCells_is (n : Nat) : (Builtin.zeroCells (Value.agg #[.int .i64 0, .int .u64 0, .int .u64 0, .int .i64 0, .int .i64 0, .int .u64 0, .int .u64 0, .int .i64 0]).cells n).toList = zeros n := by
  apply List.ext_getElem?
  intro j
  by_cases hj : j < n * 8
  · have hr : j % 8 < 8 := Nat.mod_lt _ (by omega)
    have ej : j / 8 * 8 + j % 8 = j := by omega
    have h2 : (zeros n)[j]? = (knC kzero)[j % 8]? := by
      have := knV_at (List.replicate n kzero) (j / 8) (j % 8) (by rw [List.length_replicate]; omega) hr
      rw [ej] at this
      unfold zeros
      rw [this]
      congr 1
      unfold rg
      rw [List.getD_eq_getElem?_getD, List.getElem?_replicate, if_pos (by omega)]
      rfl
    rw [h2]
    have h3 : (Builtin.zeroCells (Value.agg #[.int .i64 0, .int .u64 0, .int .u64 0, .int .i64 0, .int .i64 0, .int .u64 0, .int .u64 0, .int .i64 0]).cells n).toList[j]? = some (#[Value.int .i64 0, .int .u64 0, .int .u64 0, .int .i64 0, .int .i64 0, .int .u64 0, .int .u64 0, .int .i64 0][j % 8]!) := by
      simp [Builtin.zeroCells, Value.cells, hj]
    rw [h3]
    generalize j % 8 = r at *
    match r, hr with
    | 0, _ => rfl
    | 1, _ => rfl
    | 2, _ => rfl
    | 3, _ => rfl
    | 4, _ => rfl
    | 5, _ => rfl
    | 6, _ => rfl
    | 7, _ => rfl
  · rw [List.getElem?_eq_none (by simp [Builtin.zeroCells, Value.cells]; omega), List.getElem?_eq_none (by rw [zeros_len]; omega)]
theorem run_clear_kn (w : World) (ty : TypeId) {g : Nat} {v : List Kn} (h : Rk w g v) (a n c : Nat) (hn : 0 < n) (ha : a + n ≤ v.length) :
    (Builtin.clear_ #[22] ty #[.slice (some ⟨g, a * 8, none⟩) n c]).run Try.prog w = .ok (.tuple #[]) (w.setCells g (a * 8) (zeros n)) := by
  have hcell : ∀ j, j < n * 8 → (w.cell? ⟨g, a * 8 + 0 + j, none⟩).isSome = true := by
    intro j hj
    have hr : j % 8 < 8 := Nat.mod_lt _ (by omega)
    obtain ⟨e0, e1, e2, e3, e4, e5, e6, e7⟩ := h.cell (a + j / 8) (by omega)
    have ej : a * 8 + 0 + j = (a + j / 8) * 8 + j % 8 := by omega
    rw [ej]
    generalize j % 8 = r at *
    match r, hr with
    | 0, _ => rw [Nat.add_zero, e0]; rfl
    | 1, _ => rw [e1]; rfl
    | 2, _ => rw [e2]; rfl
    | 3, _ => rw [e3]; rfl
    | 4, _ => rw [e4]; rfl
    | 5, _ => rw [e5]; rfl
    | 6, _ => rw [e6]; rfl
    | 7, _ => rw [e7]; rfl
  have hst := run_storeCells_cells (P := Try.prog) g (a * 8) (zeros n) 0 w (by rw [zeros_len]; exact hcell) (fun j _ => h.fr _) (zeros_one n)
  simp only [Nat.add_zero] at hst
  obtain ⟨m, rfl⟩ : ∃ m, n = m + 1 := ⟨n - 1, by omega⟩
  have hz := zeroCells_is (m + 1)
  have hv := fun W => (Try.zeroValue33 W)
  simp [Builtin.clear_, run_underlying Try.underlying22, hv, hz, hst]
theorem wpList_clear_kn {w : World} {ops : Array Oper} {rest : List Oper} {o : Oper} {a : Act} {Q : Exit → Act → World → Prop} (hgd : o.guard = none) (d : Operand)
    (ho : o.op = .call { callee := .builtin .clear, args := #[d], argTypes := #[22] }) (g i n c : Nat) (v : List Kn) (hd : a.eval d = .slice (some ⟨g, i * 8, none⟩) n c) (h : Rk w g v) (hn : 0 < n) (ha : i + n ≤ v.length)
    (hK : wpList Try.prog ops Q rest (a.put o.dst (.tuple #[])) (w.setCells g (i * 8) (zeros n))) : wpList Try.prog ops Q (o :: rest) a w := by
  refine wpList_plain hgd fun K hKK => ?_
  have hrun := run_clear_kn w o.type h i n c hn ha
  unfold Oper.wp
  simp [execOp, ho, resolve, invoke, builtin, hd, hrun, Result.andThen]
  exact hKK _ _ hK
end Go.Proofs.Ytdipmlamjjpcoaa
