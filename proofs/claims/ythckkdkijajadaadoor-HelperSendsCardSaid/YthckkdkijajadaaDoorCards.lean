/-
  DERIVED. GIVEN WITH THE SEED: THE CARDS: each row of YthckkdkijajadaaDoorRows.lean that lists a variable, with what it lists TIED to the program's text (the seventh form; the later family's looks); each row that meets fmt, with fmt's text TOLD by the authors' own Lean function (tested against real Go, not proved from fmt's source: count such statements apart). THE CARD IS WHAT COUNTS. Prove the row's statement (the work); the ties are given (YthckkdkijajadaaDoorTie.lean); close each card by the builder's one call (the guide's Derived/Test/ToyasCard.lean, 'card_holds'). Laid BY PROGRAM, IN A SANDBOX (cutbox-door.mjs). By AI agents, Wed Nov 11 2026. No macro, syntax, notation, axiom, sorry.
-/
import Derived.Test.YthckkdkijajadaaDoorRows
import GoSem.ClaimSeven
namespace Go.Proofs.YthckkdkijajadaaDoor
namespace Rows

/-- THE TIED CARD OF 'clevislaw05.HelperMixes'. -/
def helperMixesCard : Claim7 := { stood := { row := helperMixesRow, standIns := [], harness := (true, "fc424102677acd083c4893732193ea782460b70f47ecbf014b0519e884ec9212"), looks := true }, kinds := [], alts := [], laidByText := true, laidKinds := [.sentinel, .sentinel, .sentinel, .sentinel, .sentinel, .sentinel, .sentinel, .sentinel, .sentinel], laidTests := true, laidLooks := .later }
def HelperMixesCardSaid : Prop := Claim7.holds Tryd.pinned (.plain (OpenSpec.ofChange helperMixesSpec)) helperMixesCard

/-- THE TIED CARD OF 'clevislaw05.HelperTable'. -/
def helperTableCard : Claim7 := { stood := { row := helperTableRow, standIns := [], harness := (true, "fc424102677acd083c4893732193ea782460b70f47ecbf014b0519e884ec9212"), looks := true }, kinds := [], alts := [], laidByText := true, laidKinds := [.sentinel, .sentinel, .sentinel, .sentinel, .sentinel, .sentinel, .sentinel, .sentinel, .sentinel], laidTests := true, laidLooks := .later }
def HelperTableCardSaid : Prop := Claim7.holds Tryd.pinned (.plain (OpenSpec.ofChange helperTableSpec)) helperTableCard

/-- THE TIED CARD OF 'clevislaw05.HelperDoes'. -/
def helperDoesCard : Claim7 := { stood := { row := helperDoesRow, standIns := [], harness := (true, "fc424102677acd083c4893732193ea782460b70f47ecbf014b0519e884ec9212"), looks := true }, kinds := [], alts := [], laidByText := true, laidKinds := [.sentinel, .sentinel, .sentinel, .sentinel, .sentinel, .sentinel, .sentinel, .sentinel, .sentinel], laidTests := true, laidLooks := .later }
def HelperDoesCardSaid : Prop := Claim7.holds Tryd.pinned (.plain (OpenSpec.ofChange helperDoesSpec)) helperDoesCard

/-- THE TIED CARD OF 'clevislaw05.HelperKeeps'. -/
def helperKeepsCard : Claim7 := { stood := { row := helperKeepsRow, standIns := [], harness := (true, "fc424102677acd083c4893732193ea782460b70f47ecbf014b0519e884ec9212"), looks := true }, kinds := [], alts := [], laidByText := true, laidKinds := [.sentinel, .sentinel, .sentinel, .sentinel, .sentinel, .sentinel, .sentinel, .sentinel, .sentinel], laidTests := true, laidLooks := .later }
def HelperKeepsCardSaid : Prop := Claim7.holds Tryd.pinned (.plain (OpenSpec.ofChange helperKeepsSpec)) helperKeepsCard

/-- THE TIED CARD OF 'clevislaw05.HelperSends'. -/
def helperSendsCard : Claim7 := { stood := { row := helperSendsRow, standIns := [], harness := (true, "fc424102677acd083c4893732193ea782460b70f47ecbf014b0519e884ec9212"), looks := true }, kinds := [], alts := [], laidByText := true, laidKinds := [.sentinel, .sentinel, .sentinel, .sentinel, .sentinel, .sentinel, .sentinel, .sentinel, .sentinel], laidTests := true, laidLooks := .later }
def HelperSendsCardSaid : Prop := Claim7.holds Tryd.pinned (.plain (OpenSpec.ofChange helperSendsSpec)) helperSendsCard

/-- THE SECOND FORM's CARD OF 'clevislaw05.HelperMixes'. -/
def helperMixesUptoCard : Claim7 := { stood := { row := helperMixesUptoRow, standIns := [], harness := (true, "fc424102677acd083c4893732193ea782460b70f47ecbf014b0519e884ec9212"), looks := true }, kinds := [], alts := [], laidByText := true, laidKinds := [.sentinel, .sentinel, .sentinel, .sentinel, .sentinel, .sentinel, .sentinel, .sentinel, .sentinel], laidTests := true, laidLooks := .later }
def HelperMixesUptoCardSaid : Prop := Claim7.holds Tryd.pinned (.plain (OpenSpec.upto helperMixesSpec)) helperMixesUptoCard

/-- THE SECOND FORM's CARD OF 'clevislaw05.HelperTable'. -/
def helperTableUptoCard : Claim7 := { stood := { row := helperTableUptoRow, standIns := [], harness := (true, "fc424102677acd083c4893732193ea782460b70f47ecbf014b0519e884ec9212"), looks := true }, kinds := [], alts := [], laidByText := true, laidKinds := [.sentinel, .sentinel, .sentinel, .sentinel, .sentinel, .sentinel, .sentinel, .sentinel, .sentinel], laidTests := true, laidLooks := .later }
def HelperTableUptoCardSaid : Prop := Claim7.holds Tryd.pinned (.plain (OpenSpec.upto helperTableSpec)) helperTableUptoCard

/-- THE SECOND FORM's CARD OF 'clevislaw05.HelperDoes'. -/
def helperDoesUptoCard : Claim7 := { stood := { row := helperDoesUptoRow, standIns := [], harness := (true, "fc424102677acd083c4893732193ea782460b70f47ecbf014b0519e884ec9212"), looks := true }, kinds := [], alts := [], laidByText := true, laidKinds := [.sentinel, .sentinel, .sentinel, .sentinel, .sentinel, .sentinel, .sentinel, .sentinel, .sentinel], laidTests := true, laidLooks := .later }
def HelperDoesUptoCardSaid : Prop := Claim7.holds Tryd.pinned (.plain (OpenSpec.upto helperDoesSpec)) helperDoesUptoCard

/-- THE SECOND FORM's CARD OF 'clevislaw05.HelperKeeps'. -/
def helperKeepsUptoCard : Claim7 := { stood := { row := helperKeepsUptoRow, standIns := [], harness := (true, "fc424102677acd083c4893732193ea782460b70f47ecbf014b0519e884ec9212"), looks := true }, kinds := [], alts := [], laidByText := true, laidKinds := [.sentinel, .sentinel, .sentinel, .sentinel, .sentinel, .sentinel, .sentinel, .sentinel, .sentinel], laidTests := true, laidLooks := .later }
def HelperKeepsUptoCardSaid : Prop := Claim7.holds Tryd.pinned (.plain (OpenSpec.upto helperKeepsSpec)) helperKeepsUptoCard

/-- THE SECOND FORM's CARD OF 'clevislaw05.HelperSends'. -/
def helperSendsUptoCard : Claim7 := { stood := { row := helperSendsUptoRow, standIns := [], harness := (true, "fc424102677acd083c4893732193ea782460b70f47ecbf014b0519e884ec9212"), looks := true }, kinds := [], alts := [], laidByText := true, laidKinds := [.sentinel, .sentinel, .sentinel, .sentinel, .sentinel, .sentinel, .sentinel, .sentinel, .sentinel], laidTests := true, laidLooks := .later }
def HelperSendsUptoCardSaid : Prop := Claim7.holds Tryd.pinned (.plain (OpenSpec.upto helperSendsSpec)) helperSendsUptoCard
end Rows
end Go.Proofs.YthckkdkijajadaaDoor
