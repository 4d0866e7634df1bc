/-
  DERIVED. GIVEN WITH THE SEED: THE CARDS: each row of YtkfahppdklecdaaGreatDoorRows.lean that lists a variable, with what it lists TIED to the program's text (the seventh form; the later family's looks); each row that meets fmt, with fmt's text TOLD by the authors' own Lean function (tested against real Go, not proved from fmt's source: count such statements apart). THE CARD IS WHAT COUNTS. Prove the row's statement (the work); the ties are given (YtkfahppdklecdaaGreatDoorTie.lean); close each card by the builder's one call (the guide's Derived/Test/ToyasCard.lean, 'card_holds'). Laid BY PROGRAM, IN A SANDBOX (cutbox-door.mjs). By AI agents, Wed Nov 11 2026. No macro, syntax, notation, axiom, sorry.
-/
import Derived.Test.YtkfahppdklecdaaGreatDoorRows
import GoSem.ClaimSeven
namespace Go.Proofs.YtkfahppdklecdaaGreatDoor
namespace Rows

/-- THE TIED CARD OF 'clevislaw17.SsaRight'. -/
def ssaRightCard : Claim7 := { stood := { row := ssaRightRow, standIns := [], harness := (true, "2beb400c7a8a220020ded26d9a3258be7d4745dff3671b52fdd44e36d08de0a4"), looks := false }, kinds := [], alts := [], laidByText := true, laidKinds := [.data], laidTests := true, laidLooks := .later }
def SsaRightCardSaid : Prop := Claim7.holds Tryz.pinned (.plain (OpenSpec.ofChange ssaRightSpec)) ssaRightCard

/-- THE TIED CARD OF 'clevislaw17.SsaSame'. -/
def ssaSameCard : Claim7 := { stood := { row := ssaSameRow, standIns := [], harness := (true, "2beb400c7a8a220020ded26d9a3258be7d4745dff3671b52fdd44e36d08de0a4"), looks := false }, kinds := [], alts := [], laidByText := true, laidKinds := [.data], laidTests := true, laidLooks := .later }
def SsaSameCardSaid : Prop := Claim7.holds Tryz.pinned (.plain (OpenSpec.ofChange ssaSameSpec)) ssaSameCard

/-- THE SECOND FORM's CARD OF 'clevislaw17.SsaRight'. -/
def ssaRightUptoCard : Claim7 := { stood := { row := ssaRightUptoRow, standIns := [], harness := (true, "2beb400c7a8a220020ded26d9a3258be7d4745dff3671b52fdd44e36d08de0a4"), looks := false }, kinds := [], alts := [], laidByText := true, laidKinds := [.data], laidTests := true, laidLooks := .later }
def SsaRightUptoCardSaid : Prop := Claim7.holds Tryz.pinned (.plain (OpenSpec.upto ssaRightSpec)) ssaRightUptoCard

/-- THE SECOND FORM's CARD OF 'clevislaw17.SsaSame'. -/
def ssaSameUptoCard : Claim7 := { stood := { row := ssaSameUptoRow, standIns := [], harness := (true, "2beb400c7a8a220020ded26d9a3258be7d4745dff3671b52fdd44e36d08de0a4"), looks := false }, kinds := [], alts := [], laidByText := true, laidKinds := [.data], laidTests := true, laidLooks := .later }
def SsaSameUptoCardSaid : Prop := Claim7.holds Tryz.pinned (.plain (OpenSpec.upto ssaSameSpec)) ssaSameUptoCard
end Rows
end Go.Proofs.YtkfahppdklecdaaGreatDoor
