/- Contracts of Hole, on both sides. -/
import Derived.Test.YtlpijnnlmgoihaaMA
import Derived.Laws.StructEq
namespace Go.Proofs.Ytlpijnnlmgoihaa
open Go.RowKit M

/-- instructions lie in memory -/
structure InsAt (w : World) (q : Option Addr) (l : List In) : Prop where
  small : l.length ≤ 140737488351232
  cells : ∀ i, i < l.length → ∃ b off, q = some ⟨b, off, none⟩ ∧ b < w.heap.size ∧
    w.cell? ⟨b, off + i * 6, none⟩ = some (.int .i64 (l.getD i z).op) ∧ w.cell? ⟨b, off + i * 6 + 1, none⟩ = some (.int .i64 (l.getD i z).dst) ∧
    w.cell? ⟨b, off + i * 6 + 2, none⟩ = some (.int .i64 (l.getD i z).src) ∧ w.cell? ⟨b, off + i * 6 + 3, none⟩ = some (.int .i64 (l.getD i z).off) ∧
    w.cell? ⟨b, off + i * 6 + 4, none⟩ = some (.int .i64 (l.getD i z).imm) ∧ w.cell? ⟨b, off + i * 6 + 5, none⟩ = some (.int .u64 (l.getD i z).wide)
  bd : ∀ i, i < l.length → Bd (l.getD i z)
theorem InsAt.below {w w' : World} {q : Option Addr} {l : List In} (h : InsAt w q l) (hb : Below w.heap.size w w') : InsAt w' q l :=
  ⟨h.small, fun i hi => by
    obtain ⟨b, off, hp, hbl, h0, h1, h2, h3, h4, h5⟩ := h.cells i hi
    exact ⟨b, off, hp, Nat.lt_of_lt_of_le hbl hb.size, (hb.cell (p := ⟨b, off + i * 6, none⟩) hbl).trans h0, (hb.cell (p := ⟨b, off + i * 6 + 1, none⟩) hbl).trans h1, (hb.cell (p := ⟨b, off + i * 6 + 2, none⟩) hbl).trans h2, (hb.cell (p := ⟨b, off + i * 6 + 3, none⟩) hbl).trans h3, (hb.cell (p := ⟨b, off + i * 6 + 4, none⟩) hbl).trans h4, (hb.cell (p := ⟨b, off + i * 6 + 5, none⟩) hbl).trans h5⟩, h.bd⟩
theorem InsAt.alloc {w : World} {q : Option Addr} {l : List In} (h : InsAt w q l) (o : Obj) : InsAt (w.alloc o) q l := h.below ((Below.refl _ _).alloc (Nat.le_refl _) _)
/-- the operations of a list -/
def opL (l : List In) (i : Nat) : Int := (l.getD i z).op
/-- is there a hole? -/
def holeB (l : List In) (i : Int) : Bool := decide (0 ≤ i ∧ i < l.length) && hR (opL l) i.toNat

def iV (x : In) : Value := .agg #[.int .i64 x.op, .int .i64 x.dst, .int .i64 x.src, .int .i64 x.off, .int .i64 x.imm, .int .u64 x.wide]
theorem eq36 (x y : In) (w : World) : (binOp .eql 55 (iV x) (iV y)).run Try.prog w = .ok (.bool (eqB x y)) w := by
  unfold iV eqB
  simp [go_sem]
  repeat' split
  all_goals simp_all
theorem neq36 (x y : In) (w : World) : (binOp .neq 55 (iV x) (iV y)).run Try.prog w = .ok (.bool (!eqB x y)) w := by
  unfold iV eqB
  simp [go_sem]
  repeat' split
  all_goals simp_all
set_option maxHeartbeats 1000000 in
theorem hole_any (q : Option Addr) (qc : Nat) (l : List In) (i : Int) (w : World) (h : InsAt w q l) :
    Calls Try.prog 32 #[.slice q l.length qc, .int .i64 i] w fun e w' => e = .returned (.bool (holeB l i)) ∧ w = w' := by
  have hs := h.small
  have H := Lib.hid h
  by_cases hi : 0 ≤ i
  · by_cases hl : i < l.length
    · obtain ⟨j, rfl⟩ := Int.eq_ofNat_of_zero_le hi
      have HE := Lib.hid (show holeB l (j : Int) = hR (opL l) j by unfold holeB; rw [decide_eq_true ⟨hi, hl⟩]; simp)
      have hjl : j < l.length := by omega
      obtain ⟨N, hN⟩ : ∃ N, l.length = N := ⟨_, rfl⟩
      rw [hN] at hs hjl hl ⊢
      have HN := Lib.hid hN
      clear hN h
      go_enter Try.func32, Try.ntmps32
      go_wp2
      go_loop [5, 1] (fun r i => ∃ (k : Nat) (b : Bool), k ≤ j ∧ i = .int .i64 k ∧ r = .bool b ∧ Hid (hR (opL l) j = (b != hR (opL l) k))) (fun _ i => (intOf i).toNat)
      case atStart => exact ⟨j, false, Nat.le_refl _, rfl, rfl, Lib.hid (by simp)⟩
      case round =>
        obtain ⟨k, b, hk, rfl, rfl, hx⟩ := hrel
        match k, hk, hx with
        | 0, _, hx =>
          have HB := Lib.hid (show hR (opL l) j = b by have := hx.out; simpa [hR] using this)
          go_wp2
          go_ret
          rw [HE.out, HB.out]
          exact ⟨rfl, rfl⟩
        | k + 1, hk, hx =>
          obtain ⟨bk, off, rfl, hbl, c0, _⟩ := H.out.cells k (by rw [HN.out]; omega)
          have HO := Lib.hid (show opL l k = (l.getD k z).op from rfl)
          obtain ⟨o, ho⟩ : ∃ o, (l.getD k z).op = o := ⟨_, rfl⟩
          rw [ho] at c0 HO
          clear ho
          by_cases h24 : o = 24
          · subst h24
            go_wp2
            go_round
            case rel => exact ⟨k, !b, by omega, rfl, rfl, Lib.hid (by rw [hx.out, hR_succ, HO.out]; cases b <;> cases hR (opL l) k <;> rfl)⟩
            case measure => simp [intOf]
          · have HB := Lib.hid (show hR (opL l) j = b by have := hx.out; rw [hR_succ, HO.out] at this; simpa [h24] using this)
            go_wp2
            go_ret
            rw [HE.out, HB.out]
            exact ⟨rfl, rfl⟩
    · have HE := Lib.hid (show holeB l i = false by unfold holeB; rw [decide_eq_false (by omega)]; rfl)
      go_enter Try.func32, Try.ntmps32
      go_wp2
      go_ret
      rw [HE.out]
      exact ⟨rfl, rfl⟩
  · have HE := Lib.hid (show holeB l i = false by unfold holeB; rw [decide_eq_false (by omega)]; rfl)
    go_enter Try.func32, Try.ntmps32
    go_wp2
    go_ret
    rw [HE.out]
    exact ⟨rfl, rfl⟩
def par (n : Nat) : Bool := ((n : Int) % 2 == 1)
theorem par_succ (n : Nat) : par (n + 1) = !par n := by
  unfold par
  rw [Bool.eq_iff_iff]
  simp
  omega
set_option maxHeartbeats 1000000 in
theorem rhole_any (q : Option Addr) (qc : Nat) (l : List In) (i : Int) (w : World) (h : InsAt w q l) :
    Calls Try.prog 30 #[.slice q l.length qc, .int .i64 i] w fun e w' => e = .returned (.bool (holeB l i)) ∧ w = w' := by
  have hs := h.small
  have H := Lib.hid h
  by_cases hi : 1 ≤ i
  · by_cases hl : i < l.length
    · obtain ⟨j, rfl⟩ : ∃ j : Nat, i = (j : Int) + 1 := ⟨(i - 1).toNat, by omega⟩
      have HE := Lib.hid (show holeB l ((j : Int) + 1) = hR (opL l) (j + 1) by unfold holeB; rw [decide_eq_true ⟨by omega, hl⟩]; simp)
      have hjl : j + 1 < l.length := by omega
      obtain ⟨N, hN⟩ : ∃ N, l.length = N := ⟨_, rfl⟩
      rw [hN] at hs hjl hl ⊢
      have HN := Lib.hid hN
      clear hN h
      obtain ⟨bk, off, rfl, hbl, c0, _⟩ := H.out.cells j (by rw [HN.out]; omega)
      have HO := Lib.hid (show opL l j = (l.getD j z).op from rfl)
      obtain ⟨o, ho⟩ : ∃ o, (l.getD j z).op = o := ⟨_, rfl⟩
      rw [ho] at c0 HO
      clear ho
      by_cases h24 : o = 24
      · subst h24
        go_enter Try.func30, Try.ntmps30
        go_wp2
        go_loop [5, 6] (fun n i => ∃ (k m : Nat) (a : Int), k ≤ j + 1 ∧ m ≤ j + 1 - k ∧ a + 1 = (k : Int) ∧ i = .int .i64 a ∧ n = .int .i64 m ∧ Hid (hR (opL l) (j + 1) = (par m != hR (opL l) k))) (fun _ i => (intOf i + 1).toNat)
        case atStart => exact ⟨j + 1, 0, j, Nat.le_refl _, Nat.zero_le _, by omega, rfl, rfl, Lib.hid (by simp [par])⟩
        case round =>
          obtain ⟨k, m, a, hk, hm, ha, rfl, rfl, hx⟩ := hrel
          match k, hk, hm, ha, hx with
          | 0, _, hm, ha, hx =>
            obtain rfl : a = -1 := by omega
            have HB := Lib.hid (show hR (opL l) (j + 1) = par m by have := hx.out; simpa [hR] using this)
            go_wp2
            go_ret
            rw [HE.out, HB.out]
            exact ⟨rfl, rfl⟩
          | k + 1, hk, hm, ha, hx =>
            obtain rfl : a = (k : Int) := by omega
            clear c0
            obtain ⟨bk', off', hq, _, c0, _⟩ := H.out.cells k (by rw [HN.out]; omega)
            obtain ⟨rfl, rfl⟩ : bk = bk' ∧ off = off' := by injection hq with hq; injection hq with h1 h2; exact ⟨h1, h2⟩
            clear hq
            have HO2 := Lib.hid (show opL l k = (l.getD k z).op from rfl)
            obtain ⟨o, ho⟩ : ∃ o, (l.getD k z).op = o := ⟨_, rfl⟩
            rw [ho] at c0 HO2
            clear ho
            by_cases h24 : o = 24
            · subst h24
              go_wp2
              go_round
              case rel => exact ⟨k, m + 1, (k : Int) - 1, by omega, by omega, by omega, by go_num, by go_num, Lib.hid (by rw [hx.out, hR_succ _ k, HO2.out, par_succ]; cases par m <;> cases hR (opL l) k <;> rfl)⟩
              case measure => simp [intOf]
            · have HB := Lib.hid (show hR (opL l) (j + 1) = par m by have := hx.out; rw [hR_succ _ k, HO2.out] at this; simpa [h24] using this)
              go_wp2
              go_ret
              rw [HE.out, HB.out]
              exact ⟨rfl, rfl⟩
      · have hne : (o != 24) = true := by simpa using h24
        have HB := Lib.hid (show hR (opL l) (j + 1) = false by rw [hR_succ, HO.out]; simp [h24])
        go_enter Try.func30, Try.ntmps30
        go_wp2
        go_ret
        rw [HE.out, HB.out]
        exact ⟨rfl, rfl⟩
    · have HE := Lib.hid (show holeB l i = false by unfold holeB; rw [decide_eq_false (by omega)]; rfl)
      go_enter Try.func30, Try.ntmps30
      go_wp2
      go_ret
      rw [HE.out]
      exact ⟨rfl, rfl⟩
  · have HE := Lib.hid (show holeB l i = false by
      unfold holeB
      by_cases h0 : i = 0
      · subst h0; simp [hR]
      · rw [decide_eq_false (by omega)]; rfl)
    go_enter Try.func30, Try.ntmps30
    go_wp2
    go_ret
    rw [HE.out]
    exact ⟨rfl, rfl⟩
end Go.Proofs.Ytlpijnnlmgoihaa
