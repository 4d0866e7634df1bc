/-
  NARROWER THAN 'FOR EVERY INPUT', by the rows' own cells (each row's printed sentence says how): HelperMixes: laid · HelperTable: laid · HelperDoes: laid · HelperKeeps: laid · HelperSends: laid.
  DERIVED. THE GIVEN ROWS OF THIS SEAT. 5 by the template 'for every input the law returns true; each argument reads behind the call as it read before'; 0 by the template 'total and deterministic' (their statements: YthckkdkijajadaaDoorTotals.lean).
  GIVEN WITH THE SEED: the statements are not yours to turn. If you find one false, say at which input.
  Laid BY PROGRAM, IN A SANDBOX (cutbox-rows.mjs): the forced cells as the released guide's own fill.sh prints them over the translation 3164c2a022fc9f91… (all of the seat's roots in one cut). By AI agents, Wed Nov 11 2026. No macro, syntax, notation, axiom, sorry.
-/
import Derived.Test.YthckkdkijajadaaDoorChecked
import GoSem.Claim
import GoSem.ClaimJoined
import GoSem.ClaimMapViews
import Derived.JoinedTies
import Derived.KernelRfl
namespace Go.Proofs.YthckkdkijajadaaDoor
/- THE CELL 'sum', in the pinned program and in every row, IS THE sha256 OF THE DUMP (.gsa) THAT YthckkdkijajadaaDoorProg.lean LOADS. Nothing in Lean hashes anything: it is a label: what it is worth is what the hold of that sum in a sandbox is worth. -/
noncomputable def Tryd.pinned : Pinned := { name := "ythckkdkijajadaadoor", sum := "3164c2a022fc9f91da09f1b4c968eeea557d60bed1dc573a2aef631f822536b4", checked := Tryd.checked }
namespace Rows
def none {H : Type} : Left H := { results := [], args := [] }

/- WHAT THE LISTED PACKAGE-LEVEL VARIABLES READ AS WHEN THE CALL BEGINS. Each datum BY PROGRAM (the guide's laid-datum.mjs) off the statement by which the dump's own 'gosem.cut.vars' lays the variable. In a bare row this is a premise. The card (YthckkdkijajadaaDoorCards.lean) ties it to the program's text. -/
def laid_clevis_mem_errCount {H : Type} : DataW H := .iface "*errors.errorString" (.ptr (.agg [.lit (.string [110, 111, 32, 115, 117, 99, 104, 32, 110, 117, 109, 98, 101, 114, 32, 111, 102, 32, 98, 121, 116, 101, 115])]))
def laid_clevis_mem_errStray {H : Type} : DataW H := .iface "*errors.errorString" (.ptr (.agg [.lit (.string [97, 32, 109, 101, 109, 111, 114, 121, 32, 111, 102, 32, 97, 110, 111, 116, 104, 101, 114, 32, 108, 97, 121, 111, 117, 116])]))
def laid_clevis_mem_errRange {H : Type} : DataW H := .iface "*errors.errorString" (.ptr (.agg [.lit (.string [111, 117, 116, 115, 105, 100, 101, 32, 97, 108, 108, 32, 114, 101, 103, 105, 111, 110, 115])]))
def laid_clevis_mem_errPerm {H : Type} : DataW H := .iface "*errors.errorString" (.ptr (.agg [.lit (.string [110, 111, 116, 32, 116, 111, 32, 98, 101, 32, 119, 114, 105, 116, 116, 101, 110])]))
def laid_clevis_helper_errNone {H : Type} : DataW H := .iface "*errors.errorString" (.ptr (.agg [.lit (.string [110, 111, 32, 115, 117, 99, 104, 32, 104, 101, 108, 112, 101, 114])]))
def laid_clevis_helper_errFew {H : Type} : DataW H := .iface "*errors.errorString" (.ptr (.agg [.lit (.string [116, 111, 111, 32, 102, 101, 119, 32, 97, 114, 103, 117, 109, 101, 110, 116, 115])]))
def laid_clevis_helper_errSize {H : Type} : DataW H := .iface "*errors.errorString" (.ptr (.agg [.lit (.string [97, 32, 115, 105, 122, 101, 32, 116, 104, 97, 116, 32, 105, 116, 32, 100, 111, 101, 115, 32, 110, 111, 116, 32, 116, 97, 107, 101])]))
def laid_clevis_helper_errPlace {H : Type} : DataW H := .iface "*errors.errorString" (.ptr (.agg [.lit (.string [98, 121, 116, 101, 115, 32, 116, 104, 97, 116, 32, 105, 116, 32, 109, 97, 121, 32, 110, 111, 116, 32, 97, 99, 99, 101, 115, 115])]))
def laid_clevis_helper_errStray {H : Type} : DataW H := .iface "*errors.errorString" (.ptr (.agg [.lit (.string [97, 32, 109, 101, 109, 111, 114, 121, 32, 111, 102, 32, 97, 110, 111, 116, 104, 101, 114, 32, 108, 97, 121, 111, 117, 116])]))

/-- 'clevislaw05.HelperMixes': WHATEVER THE INPUT: true; the input reads as it did. -/
def helperMixesSpec : ChangeSpec := { name := "helperMixes", fn := fun _ => fun
  | [d1, d2, d3, d4] => { results := [.lit (.bool true)], args := [d1, d2, d3, d4] }
  | _ => none }
def helperMixesRow : OpenClaim := { program := "ythckkdkijajadaadoor", sum := "3164c2a022fc9f91da09f1b4c968eeea557d60bed1dc573a2aef631f822536b4", func := "clevis/clevislaw05.HelperMixes", spec := "helperMixes", inPlace := ["internal/reflectlite.TypeOf"], unfollowed := true, recurses := true, named := ["clevis/helper.errNone", "clevis/helper.errFew", "clevis/helper.errSize", "clevis/helper.errPlace", "clevis/helper.errStray", "clevis/mem.errCount", "clevis/mem.errRange", "clevis/mem.errPerm", "clevis/mem.errStray"], apart := false, laid := [("clevis/mem.errCount", laid_clevis_mem_errCount), ("clevis/mem.errStray", laid_clevis_mem_errStray), ("clevis/mem.errRange", laid_clevis_mem_errRange), ("clevis/mem.errPerm", laid_clevis_mem_errPerm), ("clevis/helper.errNone", laid_clevis_helper_errNone), ("clevis/helper.errFew", laid_clevis_helper_errFew), ("clevis/helper.errSize", laid_clevis_helper_errSize), ("clevis/helper.errPlace", laid_clevis_helper_errPlace), ("clevis/helper.errStray", laid_clevis_helper_errStray)] }
def HelperMixesSaid : Prop := helperMixesRow.holds Tryd.pinned (OpenSpec.ofChange helperMixesSpec)

/-- ITS FALSE NEIGHBOUR: 'it returns false'. Refute it at one input. -/
def helperMixesWrong : ChangeSpec := { name := "helperMixes", fn := fun _ => fun
  | [d1, d2, d3, d4] => { results := [.lit (.bool false)], args := [d1, d2, d3, d4] }
  | _ => none }
def HelperMixesWrongFalsely : Prop := helperMixesRow.holds Tryd.pinned (OpenSpec.ofChange helperMixesWrong)

/-- 'clevislaw05.HelperTable': WHATEVER THE INPUT: true; the input reads as it did. -/
def helperTableSpec : ChangeSpec := { name := "helperTable", fn := fun _ => fun
  | [d1, d2] => { results := [.lit (.bool true)], args := [d1, d2] }
  | _ => none }
def helperTableRow : OpenClaim := { program := "ythckkdkijajadaadoor", sum := "3164c2a022fc9f91da09f1b4c968eeea557d60bed1dc573a2aef631f822536b4", func := "clevis/clevislaw05.HelperTable", spec := "helperTable", inPlace := ["internal/reflectlite.TypeOf"], unfollowed := true, recurses := true, named := ["clevis/helper.errNone", "clevis/helper.errFew", "clevis/helper.errSize", "clevis/helper.errPlace", "clevis/helper.errStray", "clevis/mem.errCount", "clevis/mem.errRange", "clevis/mem.errPerm", "clevis/mem.errStray"], apart := false, laid := [("clevis/mem.errCount", laid_clevis_mem_errCount), ("clevis/mem.errStray", laid_clevis_mem_errStray), ("clevis/mem.errRange", laid_clevis_mem_errRange), ("clevis/mem.errPerm", laid_clevis_mem_errPerm), ("clevis/helper.errNone", laid_clevis_helper_errNone), ("clevis/helper.errFew", laid_clevis_helper_errFew), ("clevis/helper.errSize", laid_clevis_helper_errSize), ("clevis/helper.errPlace", laid_clevis_helper_errPlace), ("clevis/helper.errStray", laid_clevis_helper_errStray)] }
def HelperTableSaid : Prop := helperTableRow.holds Tryd.pinned (OpenSpec.ofChange helperTableSpec)

/-- ITS FALSE NEIGHBOUR: 'it returns false'. Refute it at one input. -/
def helperTableWrong : ChangeSpec := { name := "helperTable", fn := fun _ => fun
  | [d1, d2] => { results := [.lit (.bool false)], args := [d1, d2] }
  | _ => none }
def HelperTableWrongFalsely : Prop := helperTableRow.holds Tryd.pinned (OpenSpec.ofChange helperTableWrong)

/-- 'clevislaw05.HelperDoes': WHATEVER THE INPUT: true; the input reads as it did. -/
def helperDoesSpec : ChangeSpec := { name := "helperDoes", fn := fun _ => fun
  | [d1, d2, d3, d4, d5] => { results := [.lit (.bool true)], args := [d1, d2, d3, d4, d5] }
  | _ => none }
def helperDoesRow : OpenClaim := { program := "ythckkdkijajadaadoor", sum := "3164c2a022fc9f91da09f1b4c968eeea557d60bed1dc573a2aef631f822536b4", func := "clevis/clevislaw05.HelperDoes", spec := "helperDoes", inPlace := ["internal/reflectlite.TypeOf"], unfollowed := true, recurses := true, named := ["clevis/helper.errNone", "clevis/helper.errFew", "clevis/helper.errSize", "clevis/helper.errPlace", "clevis/helper.errStray", "clevis/mem.errCount", "clevis/mem.errRange", "clevis/mem.errPerm", "clevis/mem.errStray"], apart := false, laid := [("clevis/mem.errCount", laid_clevis_mem_errCount), ("clevis/mem.errStray", laid_clevis_mem_errStray), ("clevis/mem.errRange", laid_clevis_mem_errRange), ("clevis/mem.errPerm", laid_clevis_mem_errPerm), ("clevis/helper.errNone", laid_clevis_helper_errNone), ("clevis/helper.errFew", laid_clevis_helper_errFew), ("clevis/helper.errSize", laid_clevis_helper_errSize), ("clevis/helper.errPlace", laid_clevis_helper_errPlace), ("clevis/helper.errStray", laid_clevis_helper_errStray)] }
def HelperDoesSaid : Prop := helperDoesRow.holds Tryd.pinned (OpenSpec.ofChange helperDoesSpec)

/-- ITS FALSE NEIGHBOUR: 'it returns false'. Refute it at one input. -/
def helperDoesWrong : ChangeSpec := { name := "helperDoes", fn := fun _ => fun
  | [d1, d2, d3, d4, d5] => { results := [.lit (.bool false)], args := [d1, d2, d3, d4, d5] }
  | _ => none }
def HelperDoesWrongFalsely : Prop := helperDoesRow.holds Tryd.pinned (OpenSpec.ofChange helperDoesWrong)

/-- 'clevislaw05.HelperKeeps': WHATEVER THE INPUT: true; the input reads as it did. -/
def helperKeepsSpec : ChangeSpec := { name := "helperKeeps", fn := fun _ => fun
  | [d1, d2, d3, d4, d5, d6] => { results := [.lit (.bool true)], args := [d1, d2, d3, d4, d5, d6] }
  | _ => none }
def helperKeepsRow : OpenClaim := { program := "ythckkdkijajadaadoor", sum := "3164c2a022fc9f91da09f1b4c968eeea557d60bed1dc573a2aef631f822536b4", func := "clevis/clevislaw05.HelperKeeps", spec := "helperKeeps", inPlace := ["internal/reflectlite.TypeOf"], unfollowed := true, recurses := true, named := ["clevis/helper.errNone", "clevis/helper.errFew", "clevis/helper.errSize", "clevis/helper.errPlace", "clevis/helper.errStray", "clevis/mem.errCount", "clevis/mem.errRange", "clevis/mem.errPerm", "clevis/mem.errStray"], apart := false, laid := [("clevis/mem.errCount", laid_clevis_mem_errCount), ("clevis/mem.errStray", laid_clevis_mem_errStray), ("clevis/mem.errRange", laid_clevis_mem_errRange), ("clevis/mem.errPerm", laid_clevis_mem_errPerm), ("clevis/helper.errNone", laid_clevis_helper_errNone), ("clevis/helper.errFew", laid_clevis_helper_errFew), ("clevis/helper.errSize", laid_clevis_helper_errSize), ("clevis/helper.errPlace", laid_clevis_helper_errPlace), ("clevis/helper.errStray", laid_clevis_helper_errStray)] }
def HelperKeepsSaid : Prop := helperKeepsRow.holds Tryd.pinned (OpenSpec.ofChange helperKeepsSpec)

/-- ITS FALSE NEIGHBOUR: 'it returns false'. Refute it at one input. -/
def helperKeepsWrong : ChangeSpec := { name := "helperKeeps", fn := fun _ => fun
  | [d1, d2, d3, d4, d5, d6] => { results := [.lit (.bool false)], args := [d1, d2, d3, d4, d5, d6] }
  | _ => none }
def HelperKeepsWrongFalsely : Prop := helperKeepsRow.holds Tryd.pinned (OpenSpec.ofChange helperKeepsWrong)

/-- 'clevislaw05.HelperSends': WHATEVER THE INPUT: true; the input reads as it did. -/
def helperSendsSpec : ChangeSpec := { name := "helperSends", fn := fun _ => fun
  | [d1, d2, d3, d4] => { results := [.lit (.bool true)], args := [d1, d2, d3, d4] }
  | _ => none }
def helperSendsRow : OpenClaim := { program := "ythckkdkijajadaadoor", sum := "3164c2a022fc9f91da09f1b4c968eeea557d60bed1dc573a2aef631f822536b4", func := "clevis/clevislaw05.HelperSends", spec := "helperSends", inPlace := ["internal/reflectlite.TypeOf"], unfollowed := true, recurses := true, named := ["clevis/helper.errNone", "clevis/helper.errFew", "clevis/helper.errSize", "clevis/helper.errPlace", "clevis/helper.errStray", "clevis/mem.errCount", "clevis/mem.errRange", "clevis/mem.errPerm", "clevis/mem.errStray"], apart := false, laid := [("clevis/mem.errCount", laid_clevis_mem_errCount), ("clevis/mem.errStray", laid_clevis_mem_errStray), ("clevis/mem.errRange", laid_clevis_mem_errRange), ("clevis/mem.errPerm", laid_clevis_mem_errPerm), ("clevis/helper.errNone", laid_clevis_helper_errNone), ("clevis/helper.errFew", laid_clevis_helper_errFew), ("clevis/helper.errSize", laid_clevis_helper_errSize), ("clevis/helper.errPlace", laid_clevis_helper_errPlace), ("clevis/helper.errStray", laid_clevis_helper_errStray)] }
def HelperSendsSaid : Prop := helperSendsRow.holds Tryd.pinned (OpenSpec.ofChange helperSendsSpec)

/-- ITS FALSE NEIGHBOUR: 'it returns false'. Refute it at one input. -/
def helperSendsWrong : ChangeSpec := { name := "helperSends", fn := fun _ => fun
  | [d1, d2, d3, d4] => { results := [.lit (.bool false)], args := [d1, d2, d3, d4] }
  | _ => none }
def HelperSendsWrongFalsely : Prop := helperSendsRow.holds Tryd.pinned (OpenSpec.ofChange helperSendsWrong)

/- THE SECOND FORM. 'bulk': how many values and letters a reading holds, each counted each time it is reached (what is shared counts as often as it is met; a slice's spare places count too). A statement '..UptoSaid' is the law's where the arguments, and the package variables that the reading takes, are together of bulk at most 1048576: NARROWER than '..Said'. Prove '..Said' where nothing that the law and all that it calls make is longer than what came in: it says more and counts as full. Else prove '..UptoSaid'. A law counts once. -/
mutual
def uptoBulk {H : Type} : DataW H → Nat
  | .lit (.string bytes) => bytes.length + 1
  | .lit _ => 1
  | .nil => 1
  | .ptr d => uptoBulk d + 1
  | .slice elems spare => uptoBulkAll elems + uptoBulkAll spare + 1
  | .agg parts => uptoBulkAll parts + 1
  | .iface _ d => uptoBulk d + 1
  | .map entries => uptoBulkEntries entries + 1
  | .held _ => 1
def uptoBulkAll {H : Type} : List (DataW H) → Nat
  | [] => 0
  | d :: r => uptoBulk d + uptoBulkAll r
def uptoBulkEntries {H : Type} : List (Lit × DataW H) → Nat
  | [] => 0
  | x :: r => uptoBulkEntry x + uptoBulkEntries r
def uptoBulkEntry {H : Type} : Lit × DataW H → Nat
  | (.string bytes, d) => bytes.length + uptoBulk d + 1
  | (_, d) => uptoBulk d + 1
 end
def uptoSmall : (H : Type) → List (DataW H) → Bool := fun _ ds => decide (uptoBulkAll ds ≤ 1048576)
def OpenSpec.upto (s : _root_.Go.ChangeSpec) : _root_.Go.OpenSpec := { _root_.Go.OpenSpec.ofChange s with cond := some uptoSmall }

/-- 'clevislaw05.HelperMixes', WHERE WHAT IT READS IS OF BULK AT MOST 1048576: true; the input reads as it did. -/
def helperMixesUptoRow : OpenClaim := { program := "ythckkdkijajadaadoor", sum := "3164c2a022fc9f91da09f1b4c968eeea557d60bed1dc573a2aef631f822536b4", func := "clevis/clevislaw05.HelperMixes", spec := "helperMixes", inPlace := ["internal/reflectlite.TypeOf"], unfollowed := true, recurses := true, named := ["clevis/helper.errNone", "clevis/helper.errFew", "clevis/helper.errSize", "clevis/helper.errPlace", "clevis/helper.errStray", "clevis/mem.errCount", "clevis/mem.errRange", "clevis/mem.errPerm", "clevis/mem.errStray"], apart := false, laid := [("clevis/mem.errCount", laid_clevis_mem_errCount), ("clevis/mem.errStray", laid_clevis_mem_errStray), ("clevis/mem.errRange", laid_clevis_mem_errRange), ("clevis/mem.errPerm", laid_clevis_mem_errPerm), ("clevis/helper.errNone", laid_clevis_helper_errNone), ("clevis/helper.errFew", laid_clevis_helper_errFew), ("clevis/helper.errSize", laid_clevis_helper_errSize), ("clevis/helper.errPlace", laid_clevis_helper_errPlace), ("clevis/helper.errStray", laid_clevis_helper_errStray)], narrowed := true }
def HelperMixesUptoSaid : Prop := helperMixesUptoRow.holds Tryd.pinned (OpenSpec.upto helperMixesSpec)

/-- 'clevislaw05.HelperTable', WHERE WHAT IT READS IS OF BULK AT MOST 1048576: true; the input reads as it did. -/
def helperTableUptoRow : OpenClaim := { program := "ythckkdkijajadaadoor", sum := "3164c2a022fc9f91da09f1b4c968eeea557d60bed1dc573a2aef631f822536b4", func := "clevis/clevislaw05.HelperTable", spec := "helperTable", inPlace := ["internal/reflectlite.TypeOf"], unfollowed := true, recurses := true, named := ["clevis/helper.errNone", "clevis/helper.errFew", "clevis/helper.errSize", "clevis/helper.errPlace", "clevis/helper.errStray", "clevis/mem.errCount", "clevis/mem.errRange", "clevis/mem.errPerm", "clevis/mem.errStray"], apart := false, laid := [("clevis/mem.errCount", laid_clevis_mem_errCount), ("clevis/mem.errStray", laid_clevis_mem_errStray), ("clevis/mem.errRange", laid_clevis_mem_errRange), ("clevis/mem.errPerm", laid_clevis_mem_errPerm), ("clevis/helper.errNone", laid_clevis_helper_errNone), ("clevis/helper.errFew", laid_clevis_helper_errFew), ("clevis/helper.errSize", laid_clevis_helper_errSize), ("clevis/helper.errPlace", laid_clevis_helper_errPlace), ("clevis/helper.errStray", laid_clevis_helper_errStray)], narrowed := true }
def HelperTableUptoSaid : Prop := helperTableUptoRow.holds Tryd.pinned (OpenSpec.upto helperTableSpec)

/-- 'clevislaw05.HelperDoes', WHERE WHAT IT READS IS OF BULK AT MOST 1048576: true; the input reads as it did. -/
def helperDoesUptoRow : OpenClaim := { program := "ythckkdkijajadaadoor", sum := "3164c2a022fc9f91da09f1b4c968eeea557d60bed1dc573a2aef631f822536b4", func := "clevis/clevislaw05.HelperDoes", spec := "helperDoes", inPlace := ["internal/reflectlite.TypeOf"], unfollowed := true, recurses := true, named := ["clevis/helper.errNone", "clevis/helper.errFew", "clevis/helper.errSize", "clevis/helper.errPlace", "clevis/helper.errStray", "clevis/mem.errCount", "clevis/mem.errRange", "clevis/mem.errPerm", "clevis/mem.errStray"], apart := false, laid := [("clevis/mem.errCount", laid_clevis_mem_errCount), ("clevis/mem.errStray", laid_clevis_mem_errStray), ("clevis/mem.errRange", laid_clevis_mem_errRange), ("clevis/mem.errPerm", laid_clevis_mem_errPerm), ("clevis/helper.errNone", laid_clevis_helper_errNone), ("clevis/helper.errFew", laid_clevis_helper_errFew), ("clevis/helper.errSize", laid_clevis_helper_errSize), ("clevis/helper.errPlace", laid_clevis_helper_errPlace), ("clevis/helper.errStray", laid_clevis_helper_errStray)], narrowed := true }
def HelperDoesUptoSaid : Prop := helperDoesUptoRow.holds Tryd.pinned (OpenSpec.upto helperDoesSpec)

/-- 'clevislaw05.HelperKeeps', WHERE WHAT IT READS IS OF BULK AT MOST 1048576: true; the input reads as it did. -/
def helperKeepsUptoRow : OpenClaim := { program := "ythckkdkijajadaadoor", sum := "3164c2a022fc9f91da09f1b4c968eeea557d60bed1dc573a2aef631f822536b4", func := "clevis/clevislaw05.HelperKeeps", spec := "helperKeeps", inPlace := ["internal/reflectlite.TypeOf"], unfollowed := true, recurses := true, named := ["clevis/helper.errNone", "clevis/helper.errFew", "clevis/helper.errSize", "clevis/helper.errPlace", "clevis/helper.errStray", "clevis/mem.errCount", "clevis/mem.errRange", "clevis/mem.errPerm", "clevis/mem.errStray"], apart := false, laid := [("clevis/mem.errCount", laid_clevis_mem_errCount), ("clevis/mem.errStray", laid_clevis_mem_errStray), ("clevis/mem.errRange", laid_clevis_mem_errRange), ("clevis/mem.errPerm", laid_clevis_mem_errPerm), ("clevis/helper.errNone", laid_clevis_helper_errNone), ("clevis/helper.errFew", laid_clevis_helper_errFew), ("clevis/helper.errSize", laid_clevis_helper_errSize), ("clevis/helper.errPlace", laid_clevis_helper_errPlace), ("clevis/helper.errStray", laid_clevis_helper_errStray)], narrowed := true }
def HelperKeepsUptoSaid : Prop := helperKeepsUptoRow.holds Tryd.pinned (OpenSpec.upto helperKeepsSpec)

/-- 'clevislaw05.HelperSends', WHERE WHAT IT READS IS OF BULK AT MOST 1048576: true; the input reads as it did. -/
def helperSendsUptoRow : OpenClaim := { program := "ythckkdkijajadaadoor", sum := "3164c2a022fc9f91da09f1b4c968eeea557d60bed1dc573a2aef631f822536b4", func := "clevis/clevislaw05.HelperSends", spec := "helperSends", inPlace := ["internal/reflectlite.TypeOf"], unfollowed := true, recurses := true, named := ["clevis/helper.errNone", "clevis/helper.errFew", "clevis/helper.errSize", "clevis/helper.errPlace", "clevis/helper.errStray", "clevis/mem.errCount", "clevis/mem.errRange", "clevis/mem.errPerm", "clevis/mem.errStray"], apart := false, laid := [("clevis/mem.errCount", laid_clevis_mem_errCount), ("clevis/mem.errStray", laid_clevis_mem_errStray), ("clevis/mem.errRange", laid_clevis_mem_errRange), ("clevis/mem.errPerm", laid_clevis_mem_errPerm), ("clevis/helper.errNone", laid_clevis_helper_errNone), ("clevis/helper.errFew", laid_clevis_helper_errFew), ("clevis/helper.errSize", laid_clevis_helper_errSize), ("clevis/helper.errPlace", laid_clevis_helper_errPlace), ("clevis/helper.errStray", laid_clevis_helper_errStray)], narrowed := true }
def HelperSendsUptoSaid : Prop := helperSendsUptoRow.holds Tryd.pinned (OpenSpec.upto helperSendsSpec)

end Rows
end Go.Proofs.YthckkdkijajadaaDoor
