/- Contract of slot: the fields of an element's slot, and whether the element may stand where it does. -/
import Derived.Test.YtlcmaokafklheaaDoorSB1
import Derived.Test.YtlcmaokafklheaaDoorSB2
import Derived.Test.YtlcmaokafklheaaDoorSCM
import Derived.Test.YtlcmaokafklheaaDoorSDM
import Derived.Test.YtlcmaokafklheaaDoorSEE
import Derived.Test.YtlcmaokafklheaaDoorP4
namespace Go.Proofs.YtlcmaokafklheaaDoor
open Go.RowKit M

theorem slot_any (p : Option Addr) (c k : Nat) (l : List In) (w : World) (h : InsAt w p l) (hr : RowsAt w) (hk : k < l.length) :
    Calls Tryd.prog 36 #[.slice p l.length c, .int .i64 (k : Int)] w fun e w' => e = .returned (.tuple #[fV (fieldsE l k), .bool (okE l k)]) ∧ Below w.heap.size w w' := by
  cases hh : holeB l (k : Int)
  · have hF : fieldsE l k = l.getD k z := by unfold fieldsE; rw [if_neg (by rw [hh]; simp)]
    have hO : okE l k = (fitsB (l.getD k z) && (if (l.getD k z).op = 24 then decide ((l.getD k z).imm = sg32 (l.getD k z).wide) && holeB l ((k : Int) + 1) else (l.getD k z).wide == 0)) := by unfold okE; rw [if_neg (by rw [hh]; simp)]
    rw [hF, hO]
    by_cases hop : (l.getD k z).op = 24
    · rw [if_pos hop]
      cases hfit : fitsB (l.getD k z)
      · exact slot_wide_no p c k l w h hr hk hh hop hfit
      · by_cases heq : (l.getD k z).imm = sg32 (l.getD k z).wide
        · rw [decide_eq_true heq, Bool.true_and, Bool.true_and]
          exact slot_wide_eq p c k l w h hr hk hh _ hop hfit heq rfl
        · rw [decide_eq_false heq]
          exact slot_wide_ne p c k l w h hr hk hh hop hfit heq
    · rw [if_neg hop]
      cases hfit : fitsB (l.getD k z)
      · exact slot_plain_no p c k l w h hr hk hh hop hfit
      · rw [Bool.true_and]
        exact slot_plain_yes p c k l w h hr hk hh hop hfit
  · match k, hk, hh with
    | 0, hk, hh =>
      have := holeB_in (l := l) hk
      rw [hh] at this
      simp [hR] at this
    | j + 1, hk, hh =>
      have hF : fieldsE l (j + 1) = restI (l.getD j z).wide := by unfold fieldsE; rw [if_pos hh]; rfl
      have hO : okE l (j + 1) = eqB (l.getD (j + 1) z) z := by unfold okE; rw [if_pos hh]
      rw [hF, hO]
      exact slot_hole p c j l w h hk hh
end Go.Proofs.YtlcmaokafklheaaDoor
