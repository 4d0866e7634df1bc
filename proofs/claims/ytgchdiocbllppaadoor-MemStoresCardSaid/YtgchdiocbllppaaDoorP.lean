/- Plain facts on layouts, memories and bytes: what package mem answers, said without a program. -/
import Derived.Below
namespace Go.Proofs.YtgchdiocbllppaaDoor.M
open Go.RowKit

/-- an area: its size, and whether it may be written -/
structure Ar where
  size : Int
  write : Bool

def inB (n l : Int) : Bool := decide (l ≤ n ∧ n ≤ 4096)
theorem inB_true {n l : Int} (h : l ≤ n ∧ n ≤ 4096) : inB n l = true := by simp [inB, h]
theorem inB_false {n l : Int} (h : ¬ (l ≤ n ∧ n ≤ 4096)) : inB n l = false := by simp only [inB]; exact decide_eq_false h
theorem of_inB {n l : Int} (h : inB n l = true) : l ≤ n ∧ n ≤ 4096 := by simpa [inB] using h
theorem of_inB_false {n l : Int} (h : inB n l = false) : ¬ (l ≤ n ∧ n ≤ 4096) := by
  intro h'; rw [inB_true h'] at h; cases h

/-- may these maps be? -/
def okMaps (ms : List Ar) : Bool := ms.all fun a => inB a.size 1
/-- may this layout be? -/
def okL (c : Int) (ms : List Ar) : Bool := inB c 0 && decide (ms.length ≤ 8) && okMaps ms
def none_ : Ar := ⟨0, false⟩
theorem okMaps_snoc {ms : List Ar} {k : Nat} (hk : k < ms.length) : okMaps (ms.take (k + 1)) = (okMaps (ms.take k) && inB (ms.getD k none_).size 1) := by
  rw [List.take_succ_eq_append_getElem hk]
  simp only [okMaps, List.all_append, List.all_cons, List.all_nil, Bool.and_true]
  simp [hk]
theorem okMaps_take_false {ms : List Ar} {k : Nat} (h : okMaps (ms.take k) = false) : okMaps ms = false := by
  cases h' : okMaps ms
  · rfl
  · simp only [okMaps, List.all_eq_true, List.all_eq_false] at h h'
    obtain ⟨x, hx, hn⟩ := h
    exact absurd (h' x (List.mem_of_mem_take hx)) hn
theorem okL_parts {c : Int} {ms : List Ar} (h : okL c ms = true) : (0 ≤ c ∧ c ≤ 4096) ∧ ms.length ≤ 8 ∧ ∀ i, i < ms.length → 1 ≤ (ms.getD i none_).size ∧ (ms.getD i none_).size ≤ 4096 := by
  simp only [okL, okMaps, Bool.and_eq_true, List.all_eq_true, decide_eq_true_eq] at h
  refine ⟨of_inB h.1.1, h.1.2, fun i hi => of_inB (h.2 _ ?_)⟩
  simp [hi]

/-- is there such a region? -/
def hasReg (len : Nat) (r : Int) : Bool := decide (1 ≤ r ∧ r < 3 + (len : Int))
/-- the region's area -/
def areaOf (c : Int) (wr : Bool) (ms : List Ar) (r : Int) : Ar := if r = 1 then ⟨c, wr⟩ else if r = 2 then ⟨512, true⟩ else ms.getD (r - 3).toNat none_

/-- the maps lie in memory -/
structure MapsAt (w : World) (p : Option Addr) (len : Nat) (ms : List Ar) : Prop where
  hlen : len = ms.length
  small : len ≤ 140737488351232
  cells : ∀ i, i < ms.length → ∃ b off, p = some ⟨b, off, none⟩ ∧ b < w.heap.size ∧ w.cell? ⟨b, off + i * 2, none⟩ = some (.int .i64 (ms.getD i none_).size) ∧ w.cell? ⟨b, off + i * 2 + 1, none⟩ = some (.bool (ms.getD i none_).write)
theorem MapsAt.below {w w' : World} {p : Option Addr} {len : Nat} {ms : List Ar} (h : MapsAt w p len ms) (hb : Below w.heap.size w w') : MapsAt w' p len ms :=
  ⟨h.hlen, h.small, fun i hi => by
    obtain ⟨b, off, hp, hbl, h1, h2⟩ := h.cells i hi
    exact ⟨b, off, hp, Nat.lt_of_lt_of_le hbl hb.size, (hb.cell (p := ⟨b, off + i * 2, none⟩) hbl).trans h1, (hb.cell (p := ⟨b, off + i * 2 + 1, none⟩) hbl).trans h2⟩⟩
theorem MapsAt.alloc {w : World} {p : Option Addr} {len : Nat} {ms : List Ar} (h : MapsAt w p len ms) (o : Obj) : MapsAt (w.alloc o) p len ms :=
  h.below ((Below.refl _ _).alloc (Nat.le_refl _) _)

def isSize (n : Int) : Bool := n == 1 || n == 2 || n == 4 || n == 8

end Go.Proofs.YtgchdiocbllppaaDoor.M
