/- Instructions in a row that is filled one after the other. -/
import Derived.Test.YtlcmaokafklheaaDoorP2
namespace Go.Proofs.YtlcmaokafklheaaDoor
open Go.RowKit M

def cI (x : In) : Nat → Value
  | 0 => .int .i64 x.op
  | 1 => .int .i64 x.dst
  | 2 => .int .i64 x.src
  | 3 => .int .i64 x.off
  | 4 => .int .i64 x.imm
  | _ => .int .u64 x.wide
def rowL (L : Nat → In) (c : Nat) : Value := cI (L (c / 6)) (c % 6)
/-- the first k, and noughts -/
def part6 (S : Nat → In) (k i : Nat) : In := if i < k then S i else z
theorem rowL_at (L : Nat → In) (k : Nat) {j : Nat} (hj : j < 6) : rowL L (k * 6 + j) = cI (L k) j := by
  unfold rowL
  rw [show (k * 6 + j) / 6 = k by omega, show (k * 6 + j) % 6 = j by omega]
theorem rowL_set6 {w : World} {g n : Nat} {L L' : Nat → In} {k : Nat} {x : In} (h : w.rowIs g 38 n (rowL L)) (hk : L' k = x) (ho : ∀ i, i ≠ k → L' i = L i) :
    ((((((w.setCell ⟨g, k * 6, none⟩ (.int .i64 x.op)).setCell ⟨g, k * 6 + 1, none⟩ (.int .i64 x.dst)).setCell ⟨g, k * 6 + 2, none⟩ (.int .i64 x.src)).setCell ⟨g, k * 6 + 3, none⟩ (.int .i64 x.off)).setCell ⟨g, k * 6 + 4, none⟩ (.int .i64 x.imm)).setCell ⟨g, k * 6 + 5, none⟩ (.int .u64 x.wide)).rowIs g 38 n (rowL L') := by
  refine ((((((h.set (k * 6) _).set (k * 6 + 1) _).set (k * 6 + 2) _).set (k * 6 + 3) _).set (k * 6 + 4) _).set (k * 6 + 5) _).congr fun c _ => ?_
  by_cases hc : c / 6 = k
  · have e : c = k * 6 + c % 6 := by omega
    have h6 : c % 6 < 6 := by omega
    rw [e, rowL_at L' k h6, hk]
    generalize c % 6 = j at *
    match j, h6 with
    | 0, _ => simp [cI]
    | 1, _ => simp [cI]
    | 2, _ => simp [cI]
    | 3, _ => simp [cI]
    | 4, _ => simp [cI]
    | 5, _ => simp [cI]
  · have hl : rowL L' c = rowL L c := by unfold rowL; rw [ho _ hc]
    rw [hl, if_neg (by omega), if_neg (by omega), if_neg (by omega), if_neg (by omega), if_neg (by omega), if_neg (by omega)]
theorem rowL_made (w : World) (n : Nat) : (w.alloc (.cells (madeCells #[.int .i64 0, .int .i64 0, .int .i64 0, .int .i64 0, .int .i64 0, .int .u64 0] (n * 6)) 38)).rowIs w.heap.size 38 (n * 6) (rowL fun _ => z) := by
  refine ⟨_, heap_new _ _, size_madeCells _ _, fun i hi => ?_⟩
  have h6 : i % 6 < 6 := by omega
  have e : (madeCells #[.int .i64 0, .int .i64 0, .int .i64 0, .int .i64 0, .int .i64 0, .int .u64 0] (n * 6))[i]? = some ((#[.int .i64 0, .int .i64 0, .int .i64 0, .int .i64 0, .int .i64 0, .int .u64 0] : Array Value)[i % 6]!) := by
    simp [madeCells, hi]
  rw [e]
  unfold rowL
  generalize i % 6 = j at *
  match j, h6 with
  | 0, _ => rfl
  | 1, _ => rfl
  | 2, _ => rfl
  | 3, _ => rfl
  | 4, _ => rfl
  | 5, _ => rfl
theorem insAt_row {w : World} {g n m : Nat} {L : Nat → In} (h : w.rowIs g 38 m (rowL L)) (hm : m = n * 6) (hn : n ≤ 4096) (hb : ∀ i, i < n → Bd (L i)) : InsAt w (some ⟨g, 0, none⟩) ((List.range n).map L) := by
  have hl : ((List.range n).map L).length = n := by simp
  have hg : ∀ i, i < n → ((List.range n).map L).getD i z = L i := fun i hi => by simp [hi]
  refine ⟨by rw [hl]; omega, fun i hi => ?_, fun i hi => ?_⟩
  · rw [hl] at hi
    rw [hg i hi]
    have f := fun j (hj : j < 6) => (h.cell (i := i * 6 + j) (by omega)).trans (by rw [rowL_at L i hj])
    refine ⟨g, 0, rfl, h.lt, ?_, ?_, ?_, ?_, ?_, ?_⟩
    · simpa [cI] using f 0 (by omega)
    · simpa [cI] using f 1 (by omega)
    · simpa [cI] using f 2 (by omega)
    · simpa [cI] using f 3 (by omega)
    · simpa [cI] using f 4 (by omega)
    · simpa [cI] using f 5 (by omega)
  · rw [hl] at hi
    rw [hg i hi]
    exact hb i hi
/-- a list whose first k are decoded has a hole at k just where there is one -/
theorem hole_part {S : Nat → In} {n k : Nat} (hk : k < n) : holeB ((List.range n).map (part6 (dec S) k)) (k : Int) = hR (opsOf S) k := by
  unfold holeB
  have hl : ((List.range n).map (part6 (dec S) k)).length = n := by simp
  rw [hl, decide_eq_true ⟨by omega, by omega⟩, Bool.true_and, Int.toNat_natCast, ← dec_holes]
  refine hR_congr fun i hi => ?_
  unfold opL opsOf
  have : ((List.range n).map (part6 (dec S) k)).getD i z = dec S i := by
    have : i < n := by omega
    simp [this, part6, hi]
  rw [this]
end Go.Proofs.YtlcmaokafklheaaDoor
