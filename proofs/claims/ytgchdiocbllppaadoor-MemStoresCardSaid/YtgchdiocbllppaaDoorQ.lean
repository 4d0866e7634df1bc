/- The world of a law over a layout: what every call of a law leaves as it was; MemFresh's facts. -/
import Derived.Test.YtgchdiocbllppaaDoorL2
namespace Go.Proofs.YtgchdiocbllppaaDoor
open Go.RowKit M

/-- a world behind a law's first operation: the layout's own box, the maps, the errors -/
structure LawW (s : Nat → Addr) (w W : World) (c : Int) (cw : Bool) (q : Option Addr) (len cap : Nat) (ms : List Ar) : Prop where
  below : Below w.heap.size w W
  sent : Sent W s
  maps : MapsAt W q len ms
  b0 : W.cell? ⟨w.heap.size, 0, none⟩ = some (.int .i64 c)
  b1 : W.cell? ⟨w.heap.size, 1, none⟩ = some (.bool cw)
  b2 : W.cell? ⟨w.heap.size, 2, none⟩ = some (.slice q len cap)
  size : w.heap.size < W.heap.size
theorem LawW.next {s : Nat → Addr} {w W W' : World} {c : Int} {cw : Bool} {q : Option Addr} {len cap : Nat} {ms : List Ar} (h : LawW s w W c cw q len cap ms) (hb : Below W.heap.size W W') : LawW s w W' c cw q len cap ms :=
  ⟨below_next h.below hb, h.sent.below hb, h.maps.below hb, (hb.cell (p := ⟨w.heap.size, 0, none⟩) h.size).trans h.b0, (hb.cell (p := ⟨w.heap.size, 1, none⟩) h.size).trans h.b1, (hb.cell (p := ⟨w.heap.size, 2, none⟩) h.size).trans h.b2, Nat.lt_of_lt_of_le h.size hb.size⟩
theorem LawW.drew {s : Nat → Addr} {w W : World} {c : Int} {cw : Bool} {q : Option Addr} {len cap : Nat} {ms : List Ar} (h : LawW s w W c cw q len cap ms) : LawW s w W.drew c cw q len cap ms := h.next (Below.refl _ _).drew
theorem LawW.alloc {s : Nat → Addr} {w W : World} {c : Int} {cw : Bool} {q : Option Addr} {len cap : Nat} {ms : List Ar} (h : LawW s w W c cw q len cap ms) (o : Obj) : LawW s w (W.alloc o) c cw q len cap ms := h.next ((Below.refl _ _).alloc (Nat.le_refl _) o)
theorem LawW.first {s : Nat → Addr} {w : World} {c : Int} {cw : Bool} {q : Option Addr} {len cap : Nat} {ms : List Ar} (hs : Sent w s) (hm : MapsAt w q len ms) : LawW s w (w.alloc (.cells #[.int .i64 c, .bool cw, .slice q len cap] 26)) c cw q len cap ms :=
  ⟨(Below.refl _ _).alloc (Nat.le_refl _) _, hs.below ((Below.refl _ _).alloc (Nat.le_refl _) _), hm.alloc _, cell_new w rfl, cell_new w rfl, cell_new w rfl, by simp⟩

/-- a fresh memory is its layout's -/
theorem may_fresh {c : Int} {ms : List Ar} {len : Nat} (hl : len = ms.length) (ho : okL c ms = true) : mayB c ms len (freshM (zOf c ms) (len + 2)) = true := by
  simp only [mayB, ho, Bool.true_and]
  refine decide_eq_true ⟨by simp [freshM], fun i hi => ?_⟩
  have := szOf_bd hl ho hi
  have e : (freshM (zOf c ms) (len + 2)).getD i [] = List.replicate (zOf c ms i) 0 := by simp [freshM, hi]
  rw [e, List.length_replicate]
  unfold zOf
  omega
/-- what MemFresh reads -/
theorem fresh_read {c : Int} {cw : Bool} {ms : List Ar} {len : Nat} {r o : Int} (hl : len = ms.length) (ho : okL c ms = true) (hr : hasReg len r = true) (h0 : 0 ≤ o) (h1 : o < (areaOf c cw ms r).size) :
    rdK c cw ms len (freshM (zOf c ms) (len + 2)) (addrOf r o) ((areaOf c cw ms r).size - o) false = 4 ∧
    rdB c cw ms len (freshM (zOf c ms) (len + 2)) (addrOf r o) ((areaOf c cw ms r).size - o) = List.replicate ((areaOf c cw ms r).size - o).toNat 0 ∧
    accN (findK c cw ms len (addrOf r o) ((areaOf c cw ms r).size - o + 1) false) ≠ 0 := by
  obtain ⟨g1, g2⟩ : 1 ≤ r ∧ r < 3 + (len : Int) := by simpa [hasReg] using hr
  have h8 := (okL_parts ho).2.1
  have hbd := areaOf_bd (wr := cw) hl ho hr
  have e1 : regOf (addrOf r o) = r ∧ offOf (addrOf r o) = o := by
    simp only [regOf, offOf, addrOf, IntKind.wrap_u64]
    omega
  have hB : areaB c ms len r = true := by simp [areaB, ho, hr]
  have hA : areaR c cw ms len r = areaOf c cw ms r := by simp [areaR, ho, hr]
  have hK : findK c cw ms len (addrOf r o) ((areaOf c cw ms r).size - o) false = 4 := by
    unfold findK
    rw [e1.1, e1.2, hB, hA, inB_true ⟨by omega, by omega⟩, if_neg (by simp), if_neg (by simp), if_neg (by omega), if_neg (by simp)]
  have hR : rdK c cw ms len (freshM (zOf c ms) (len + 2)) (addrOf r o) ((areaOf c cw ms r).size - o) false = 4 := by
    unfold rdK; rw [if_pos (may_fresh hl ho)]; exact hK
  refine ⟨hR, ?_, ?_⟩
  · unfold rdB
    rw [if_pos hR, e1.1, e1.2]
    obtain ⟨i, hi⟩ : ∃ i : Nat, r = (i : Int) + 1 := ⟨(r - 1).toNat, by omega⟩
    subst hi
    have hi2 : i < len + 2 := by omega
    have e2 : ((i : Int) + 1 - 1).toNat = i := by omega
    have e3 : (freshM (zOf c ms) (len + 2)).getD i [] = List.replicate (zOf c ms i) 0 := by simp [freshM, hi2]
    rw [e2, e3, szOf_eq]
    rw [szOf_eq] at h1 hbd
    have e4 : zOf c ms i = (szOf c ms i).toNat := rfl
    simp only [cut, List.drop_replicate, List.take_replicate]
    congr 1
    omega
  · unfold findK
    rw [e1.1, e1.2, hB, hA]
    by_cases hb : inB ((areaOf c cw ms r).size - o + 1) 1 = false
    · rw [if_pos hb]; decide
    · rw [if_neg hb, if_neg (by simp), if_pos (by omega)]; decide
end Go.Proofs.YtgchdiocbllppaaDoor
