/-
  DERIVED. GIVEN WITH THE SEED: THE CARDS: each row of YtgchdiocbllppaaDoorRows.lean that lists a variable, with what it lists TIED to the program's text (the seventh form; the later family's looks); each row that meets fmt, with fmt's text TOLD by the authors' own Lean function (tested against real Go, not proved from fmt's source: count such statements apart). THE CARD IS WHAT COUNTS. Prove the row's statement (the work); the ties are given (YtgchdiocbllppaaDoorTie.lean); close each card by the builder's one call (the guide's Derived/Test/ToyasCard.lean, 'card_holds'). Laid BY PROGRAM, IN A SANDBOX (cutbox-door.mjs). By AI agents, Wed Nov 11 2026. No macro, syntax, notation, axiom, sorry.
-/
import Derived.Test.YtgchdiocbllppaaDoorRows
import GoSem.ClaimSeven
namespace Go.Proofs.YtgchdiocbllppaaDoor
namespace Rows

/-- THE TIED CARD OF 'clevislaw02.MemFresh'. -/
def memFreshCard : Claim7 := { stood := { row := memFreshRow, standIns := [], harness := (true, "5df65ba9502cfa70b52abeaa9989f80fded3163c454445c00202ce9f8d513ce7"), looks := true }, kinds := [], alts := [], laidByText := true, laidKinds := [.sentinel, .sentinel, .sentinel, .sentinel], laidTests := true, laidLooks := .later }
def MemFreshCardSaid : Prop := Claim7.holds Tryd.pinned (.plain (OpenSpec.ofChange memFreshSpec)) memFreshCard

/-- THE TIED CARD OF 'clevislaw02.MemLays'. -/
def memLaysCard : Claim7 := { stood := { row := memLaysRow, standIns := [], harness := (true, "5df65ba9502cfa70b52abeaa9989f80fded3163c454445c00202ce9f8d513ce7"), looks := true }, kinds := [], alts := [], laidByText := true, laidKinds := [.sentinel, .sentinel, .sentinel, .sentinel], laidTests := true, laidLooks := .later }
def MemLaysCardSaid : Prop := Claim7.holds Tryd.pinned (.plain (OpenSpec.ofChange memLaysSpec)) memLaysCard

/-- THE TIED CARD OF 'clevislaw02.MemLoads'. -/
def memLoadsCard : Claim7 := { stood := { row := memLoadsRow, standIns := [], harness := (true, "5df65ba9502cfa70b52abeaa9989f80fded3163c454445c00202ce9f8d513ce7"), looks := true }, kinds := [], alts := [], laidByText := true, laidKinds := [.sentinel, .sentinel, .sentinel, .sentinel], laidTests := true, laidLooks := .later }
def MemLoadsCardSaid : Prop := Claim7.holds Tryd.pinned (.plain (OpenSpec.ofChange memLoadsSpec)) memLoadsCard

/-- THE TIED CARD OF 'clevislaw02.MemStores'. -/
def memStoresCard : Claim7 := { stood := { row := memStoresRow, standIns := [], harness := (true, "5df65ba9502cfa70b52abeaa9989f80fded3163c454445c00202ce9f8d513ce7"), looks := true }, kinds := [], alts := [], laidByText := true, laidKinds := [.sentinel, .sentinel, .sentinel, .sentinel], laidTests := true, laidLooks := .later }
def MemStoresCardSaid : Prop := Claim7.holds Tryd.pinned (.plain (OpenSpec.ofChange memStoresSpec)) memStoresCard

/-- THE TIED CARD OF 'clevislaw02.MemBack'. -/
def memBackCard : Claim7 := { stood := { row := memBackRow, standIns := [], harness := (true, "5df65ba9502cfa70b52abeaa9989f80fded3163c454445c00202ce9f8d513ce7"), looks := true }, kinds := [], alts := [], laidByText := true, laidKinds := [.sentinel, .sentinel, .sentinel, .sentinel], laidTests := true, laidLooks := .later }
def MemBackCardSaid : Prop := Claim7.holds Tryd.pinned (.plain (OpenSpec.ofChange memBackSpec)) memBackCard

/-- THE TIED CARD OF 'clevislaw02.MemParts'. -/
def memPartsCard : Claim7 := { stood := { row := memPartsRow, standIns := [], harness := (true, "5df65ba9502cfa70b52abeaa9989f80fded3163c454445c00202ce9f8d513ce7"), looks := true }, kinds := [], alts := [], laidByText := true, laidKinds := [.sentinel, .sentinel, .sentinel, .sentinel], laidTests := true, laidLooks := .later }
def MemPartsCardSaid : Prop := Claim7.holds Tryd.pinned (.plain (OpenSpec.ofChange memPartsSpec)) memPartsCard

/-- THE SECOND FORM's CARD OF 'clevislaw02.MemFresh'. -/
def memFreshUptoCard : Claim7 := { stood := { row := memFreshUptoRow, standIns := [], harness := (true, "5df65ba9502cfa70b52abeaa9989f80fded3163c454445c00202ce9f8d513ce7"), looks := true }, kinds := [], alts := [], laidByText := true, laidKinds := [.sentinel, .sentinel, .sentinel, .sentinel], laidTests := true, laidLooks := .later }
def MemFreshUptoCardSaid : Prop := Claim7.holds Tryd.pinned (.plain (OpenSpec.upto memFreshSpec)) memFreshUptoCard

/-- THE SECOND FORM's CARD OF 'clevislaw02.MemLays'. -/
def memLaysUptoCard : Claim7 := { stood := { row := memLaysUptoRow, standIns := [], harness := (true, "5df65ba9502cfa70b52abeaa9989f80fded3163c454445c00202ce9f8d513ce7"), looks := true }, kinds := [], alts := [], laidByText := true, laidKinds := [.sentinel, .sentinel, .sentinel, .sentinel], laidTests := true, laidLooks := .later }
def MemLaysUptoCardSaid : Prop := Claim7.holds Tryd.pinned (.plain (OpenSpec.upto memLaysSpec)) memLaysUptoCard

/-- THE SECOND FORM's CARD OF 'clevislaw02.MemLoads'. -/
def memLoadsUptoCard : Claim7 := { stood := { row := memLoadsUptoRow, standIns := [], harness := (true, "5df65ba9502cfa70b52abeaa9989f80fded3163c454445c00202ce9f8d513ce7"), looks := true }, kinds := [], alts := [], laidByText := true, laidKinds := [.sentinel, .sentinel, .sentinel, .sentinel], laidTests := true, laidLooks := .later }
def MemLoadsUptoCardSaid : Prop := Claim7.holds Tryd.pinned (.plain (OpenSpec.upto memLoadsSpec)) memLoadsUptoCard

/-- THE SECOND FORM's CARD OF 'clevislaw02.MemStores'. -/
def memStoresUptoCard : Claim7 := { stood := { row := memStoresUptoRow, standIns := [], harness := (true, "5df65ba9502cfa70b52abeaa9989f80fded3163c454445c00202ce9f8d513ce7"), looks := true }, kinds := [], alts := [], laidByText := true, laidKinds := [.sentinel, .sentinel, .sentinel, .sentinel], laidTests := true, laidLooks := .later }
def MemStoresUptoCardSaid : Prop := Claim7.holds Tryd.pinned (.plain (OpenSpec.upto memStoresSpec)) memStoresUptoCard

/-- THE SECOND FORM's CARD OF 'clevislaw02.MemBack'. -/
def memBackUptoCard : Claim7 := { stood := { row := memBackUptoRow, standIns := [], harness := (true, "5df65ba9502cfa70b52abeaa9989f80fded3163c454445c00202ce9f8d513ce7"), looks := true }, kinds := [], alts := [], laidByText := true, laidKinds := [.sentinel, .sentinel, .sentinel, .sentinel], laidTests := true, laidLooks := .later }
def MemBackUptoCardSaid : Prop := Claim7.holds Tryd.pinned (.plain (OpenSpec.upto memBackSpec)) memBackUptoCard

/-- THE SECOND FORM's CARD OF 'clevislaw02.MemParts'. -/
def memPartsUptoCard : Claim7 := { stood := { row := memPartsUptoRow, standIns := [], harness := (true, "5df65ba9502cfa70b52abeaa9989f80fded3163c454445c00202ce9f8d513ce7"), looks := true }, kinds := [], alts := [], laidByText := true, laidKinds := [.sentinel, .sentinel, .sentinel, .sentinel], laidTests := true, laidLooks := .later }
def MemPartsUptoCardSaid : Prop := Claim7.holds Tryd.pinned (.plain (OpenSpec.upto memPartsSpec)) memPartsUptoCard
end Rows
end Go.Proofs.YtgchdiocbllppaaDoor
