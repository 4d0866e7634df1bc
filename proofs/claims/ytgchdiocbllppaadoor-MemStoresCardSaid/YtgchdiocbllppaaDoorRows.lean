/-
  NARROWER THAN 'FOR EVERY INPUT', by the rows' own cells (each row's printed sentence says how): MemFresh: laid · MemLays: laid · MemLoads: laid · MemStores: laid · MemBack: laid · MemParts: laid.
  DERIVED. THE GIVEN ROWS OF THIS SEAT. 6 by the template 'for every input the law returns true; each argument reads behind the call as it read before'; 0 by the template 'total and deterministic' (their statements: YtgchdiocbllppaaDoorTotals.lean).
  GIVEN WITH THE SEED: the statements are not yours to turn. If you find one false, say at which input.
  Laid BY PROGRAM, IN A SANDBOX (cutbox-rows.mjs): the forced cells as the released guide's own fill.sh prints them over the translation 667505fbac912b7d… (all of the seat's roots in one cut). By AI agents, Wed Nov 11 2026. No macro, syntax, notation, axiom, sorry.
-/
import Derived.Test.YtgchdiocbllppaaDoorChecked
import GoSem.Claim
import GoSem.ClaimJoined
import GoSem.ClaimMapViews
import Derived.JoinedTies
import Derived.KernelRfl
namespace Go.Proofs.YtgchdiocbllppaaDoor
/- THE CELL 'sum', in the pinned program and in every row, IS THE sha256 OF THE DUMP (.gsa) THAT YtgchdiocbllppaaDoorProg.lean LOADS. Nothing in Lean hashes anything: it is a label: what it is worth is what the hold of that sum in a sandbox is worth. -/
noncomputable def Tryd.pinned : Pinned := { name := "ytgchdiocbllppaadoor", sum := "667505fbac912b7d881f2a1eeebfc540250460a837553b68dbcdb0f4b618c208", checked := Tryd.checked }
namespace Rows
def none {H : Type} : Left H := { results := [], args := [] }

/- WHAT THE LISTED PACKAGE-LEVEL VARIABLES READ AS WHEN THE CALL BEGINS. Each datum BY PROGRAM (the guide's laid-datum.mjs) off the statement by which the dump's own 'gosem.cut.vars' lays the variable. In a bare row this is a premise. The card (YtgchdiocbllppaaDoorCards.lean) ties it to the program's text. -/
def laid_clevis_mem_errCount {H : Type} : DataW H := .iface "*errors.errorString" (.ptr (.agg [.lit (.string [110, 111, 32, 115, 117, 99, 104, 32, 110, 117, 109, 98, 101, 114, 32, 111, 102, 32, 98, 121, 116, 101, 115])]))
def laid_clevis_mem_errStray {H : Type} : DataW H := .iface "*errors.errorString" (.ptr (.agg [.lit (.string [97, 32, 109, 101, 109, 111, 114, 121, 32, 111, 102, 32, 97, 110, 111, 116, 104, 101, 114, 32, 108, 97, 121, 111, 117, 116])]))
def laid_clevis_mem_errRange {H : Type} : DataW H := .iface "*errors.errorString" (.ptr (.agg [.lit (.string [111, 117, 116, 115, 105, 100, 101, 32, 97, 108, 108, 32, 114, 101, 103, 105, 111, 110, 115])]))
def laid_clevis_mem_errPerm {H : Type} : DataW H := .iface "*errors.errorString" (.ptr (.agg [.lit (.string [110, 111, 116, 32, 116, 111, 32, 98, 101, 32, 119, 114, 105, 116, 116, 101, 110])]))

/-- 'clevislaw02.MemFresh': WHATEVER THE INPUT: true; the input reads as it did. -/
def memFreshSpec : ChangeSpec := { name := "memFresh", fn := fun _ => fun
  | [d1, d2, d3] => { results := [.lit (.bool true)], args := [d1, d2, d3] }
  | _ => none }
def memFreshRow : OpenClaim := { program := "ytgchdiocbllppaadoor", sum := "667505fbac912b7d881f2a1eeebfc540250460a837553b68dbcdb0f4b618c208", func := "clevis/clevislaw02.MemFresh", spec := "memFresh", inPlace := ["internal/reflectlite.TypeOf"], unfollowed := true, recurses := true, named := ["clevis/mem.errStray", "clevis/mem.errCount", "clevis/mem.errRange", "clevis/mem.errPerm"], apart := false, laid := [("clevis/mem.errCount", laid_clevis_mem_errCount), ("clevis/mem.errStray", laid_clevis_mem_errStray), ("clevis/mem.errRange", laid_clevis_mem_errRange), ("clevis/mem.errPerm", laid_clevis_mem_errPerm)] }
def MemFreshSaid : Prop := memFreshRow.holds Tryd.pinned (OpenSpec.ofChange memFreshSpec)

/-- ITS FALSE NEIGHBOUR: 'it returns false'. Refute it at one input. -/
def memFreshWrong : ChangeSpec := { name := "memFresh", fn := fun _ => fun
  | [d1, d2, d3] => { results := [.lit (.bool false)], args := [d1, d2, d3] }
  | _ => none }
def MemFreshWrongFalsely : Prop := memFreshRow.holds Tryd.pinned (OpenSpec.ofChange memFreshWrong)

/-- 'clevislaw02.MemLays': WHATEVER THE INPUT: true; the input reads as it did. -/
def memLaysSpec : ChangeSpec := { name := "memLays", fn := fun _ => fun
  | [d1, d2, d3, d4] => { results := [.lit (.bool true)], args := [d1, d2, d3, d4] }
  | _ => none }
def memLaysRow : OpenClaim := { program := "ytgchdiocbllppaadoor", sum := "667505fbac912b7d881f2a1eeebfc540250460a837553b68dbcdb0f4b618c208", func := "clevis/clevislaw02.MemLays", spec := "memLays", inPlace := ["internal/reflectlite.TypeOf"], unfollowed := true, recurses := true, named := ["clevis/mem.errCount", "clevis/mem.errRange", "clevis/mem.errPerm", "clevis/mem.errStray"], apart := false, laid := [("clevis/mem.errCount", laid_clevis_mem_errCount), ("clevis/mem.errStray", laid_clevis_mem_errStray), ("clevis/mem.errRange", laid_clevis_mem_errRange), ("clevis/mem.errPerm", laid_clevis_mem_errPerm)] }
def MemLaysSaid : Prop := memLaysRow.holds Tryd.pinned (OpenSpec.ofChange memLaysSpec)

/-- ITS FALSE NEIGHBOUR: 'it returns false'. Refute it at one input. -/
def memLaysWrong : ChangeSpec := { name := "memLays", fn := fun _ => fun
  | [d1, d2, d3, d4] => { results := [.lit (.bool false)], args := [d1, d2, d3, d4] }
  | _ => none }
def MemLaysWrongFalsely : Prop := memLaysRow.holds Tryd.pinned (OpenSpec.ofChange memLaysWrong)

/-- 'clevislaw02.MemLoads': WHATEVER THE INPUT: true; the input reads as it did. -/
def memLoadsSpec : ChangeSpec := { name := "memLoads", fn := fun _ => fun
  | [d1, d2, d3, d4] => { results := [.lit (.bool true)], args := [d1, d2, d3, d4] }
  | _ => none }
def memLoadsRow : OpenClaim := { program := "ytgchdiocbllppaadoor", sum := "667505fbac912b7d881f2a1eeebfc540250460a837553b68dbcdb0f4b618c208", func := "clevis/clevislaw02.MemLoads", spec := "memLoads", inPlace := ["internal/reflectlite.TypeOf"], unfollowed := true, recurses := true, named := ["clevis/mem.errStray", "clevis/mem.errCount", "clevis/mem.errRange", "clevis/mem.errPerm"], apart := false, laid := [("clevis/mem.errCount", laid_clevis_mem_errCount), ("clevis/mem.errStray", laid_clevis_mem_errStray), ("clevis/mem.errRange", laid_clevis_mem_errRange), ("clevis/mem.errPerm", laid_clevis_mem_errPerm)] }
def MemLoadsSaid : Prop := memLoadsRow.holds Tryd.pinned (OpenSpec.ofChange memLoadsSpec)

/-- ITS FALSE NEIGHBOUR: 'it returns false'. Refute it at one input. -/
def memLoadsWrong : ChangeSpec := { name := "memLoads", fn := fun _ => fun
  | [d1, d2, d3, d4] => { results := [.lit (.bool false)], args := [d1, d2, d3, d4] }
  | _ => none }
def MemLoadsWrongFalsely : Prop := memLoadsRow.holds Tryd.pinned (OpenSpec.ofChange memLoadsWrong)

/-- 'clevislaw02.MemStores': WHATEVER THE INPUT: true; the input reads as it did. -/
def memStoresSpec : ChangeSpec := { name := "memStores", fn := fun _ => fun
  | [d1, d2, d3, d4, d5, d6] => { results := [.lit (.bool true)], args := [d1, d2, d3, d4, d5, d6] }
  | _ => none }
def memStoresRow : OpenClaim := { program := "ytgchdiocbllppaadoor", sum := "667505fbac912b7d881f2a1eeebfc540250460a837553b68dbcdb0f4b618c208", func := "clevis/clevislaw02.MemStores", spec := "memStores", inPlace := ["internal/reflectlite.TypeOf"], unfollowed := true, recurses := true, named := ["clevis/mem.errStray", "clevis/mem.errCount", "clevis/mem.errRange", "clevis/mem.errPerm"], apart := false, laid := [("clevis/mem.errCount", laid_clevis_mem_errCount), ("clevis/mem.errStray", laid_clevis_mem_errStray), ("clevis/mem.errRange", laid_clevis_mem_errRange), ("clevis/mem.errPerm", laid_clevis_mem_errPerm)] }
def MemStoresSaid : Prop := memStoresRow.holds Tryd.pinned (OpenSpec.ofChange memStoresSpec)

/-- ITS FALSE NEIGHBOUR: 'it returns false'. Refute it at one input. -/
def memStoresWrong : ChangeSpec := { name := "memStores", fn := fun _ => fun
  | [d1, d2, d3, d4, d5, d6] => { results := [.lit (.bool false)], args := [d1, d2, d3, d4, d5, d6] }
  | _ => none }
def MemStoresWrongFalsely : Prop := memStoresRow.holds Tryd.pinned (OpenSpec.ofChange memStoresWrong)

/-- 'clevislaw02.MemBack': WHATEVER THE INPUT: true; the input reads as it did. -/
def memBackSpec : ChangeSpec := { name := "memBack", fn := fun _ => fun
  | [d1, d2, d3, d4, d5, d6] => { results := [.lit (.bool true)], args := [d1, d2, d3, d4, d5, d6] }
  | _ => none }
def memBackRow : OpenClaim := { program := "ytgchdiocbllppaadoor", sum := "667505fbac912b7d881f2a1eeebfc540250460a837553b68dbcdb0f4b618c208", func := "clevis/clevislaw02.MemBack", spec := "memBack", inPlace := ["internal/reflectlite.TypeOf"], unfollowed := true, recurses := true, named := ["clevis/mem.errStray", "clevis/mem.errCount", "clevis/mem.errRange", "clevis/mem.errPerm"], apart := false, laid := [("clevis/mem.errCount", laid_clevis_mem_errCount), ("clevis/mem.errStray", laid_clevis_mem_errStray), ("clevis/mem.errRange", laid_clevis_mem_errRange), ("clevis/mem.errPerm", laid_clevis_mem_errPerm)] }
def MemBackSaid : Prop := memBackRow.holds Tryd.pinned (OpenSpec.ofChange memBackSpec)

/-- ITS FALSE NEIGHBOUR: 'it returns false'. Refute it at one input. -/
def memBackWrong : ChangeSpec := { name := "memBack", fn := fun _ => fun
  | [d1, d2, d3, d4, d5, d6] => { results := [.lit (.bool false)], args := [d1, d2, d3, d4, d5, d6] }
  | _ => none }
def MemBackWrongFalsely : Prop := memBackRow.holds Tryd.pinned (OpenSpec.ofChange memBackWrong)

/-- 'clevislaw02.MemParts': WHATEVER THE INPUT: true; the input reads as it did. -/
def memPartsSpec : ChangeSpec := { name := "memParts", fn := fun _ => fun
  | [d1, d2] => { results := [.lit (.bool true)], args := [d1, d2] }
  | _ => none }
def memPartsRow : OpenClaim := { program := "ytgchdiocbllppaadoor", sum := "667505fbac912b7d881f2a1eeebfc540250460a837553b68dbcdb0f4b618c208", func := "clevis/clevislaw02.MemParts", spec := "memParts", inPlace := ["internal/reflectlite.TypeOf"], unfollowed := true, recurses := true, named := ["clevis/mem.errStray", "clevis/mem.errCount", "clevis/mem.errRange", "clevis/mem.errPerm"], apart := false, laid := [("clevis/mem.errCount", laid_clevis_mem_errCount), ("clevis/mem.errStray", laid_clevis_mem_errStray), ("clevis/mem.errRange", laid_clevis_mem_errRange), ("clevis/mem.errPerm", laid_clevis_mem_errPerm)] }
def MemPartsSaid : Prop := memPartsRow.holds Tryd.pinned (OpenSpec.ofChange memPartsSpec)

/-- ITS FALSE NEIGHBOUR: 'it returns false'. Refute it at one input. -/
def memPartsWrong : ChangeSpec := { name := "memParts", fn := fun _ => fun
  | [d1, d2] => { results := [.lit (.bool false)], args := [d1, d2] }
  | _ => none }
def MemPartsWrongFalsely : Prop := memPartsRow.holds Tryd.pinned (OpenSpec.ofChange memPartsWrong)

/- THE SECOND FORM. 'bulk': how many values and letters a reading holds, each counted each time it is reached (what is shared counts as often as it is met; a slice's spare places count too). A statement '..UptoSaid' is the law's where the arguments, and the package variables that the reading takes, are together of bulk at most 1048576: NARROWER than '..Said'. Prove '..Said' where nothing that the law and all that it calls make is longer than what came in: it says more and counts as full. Else prove '..UptoSaid'. A law counts once. -/
mutual
def uptoBulk {H : Type} : DataW H → Nat
  | .lit (.string bytes) => bytes.length + 1
  | .lit _ => 1
  | .nil => 1
  | .ptr d => uptoBulk d + 1
  | .slice elems spare => uptoBulkAll elems + uptoBulkAll spare + 1
  | .agg parts => uptoBulkAll parts + 1
  | .iface _ d => uptoBulk d + 1
  | .map entries => uptoBulkEntries entries + 1
  | .held _ => 1
def uptoBulkAll {H : Type} : List (DataW H) → Nat
  | [] => 0
  | d :: r => uptoBulk d + uptoBulkAll r
def uptoBulkEntries {H : Type} : List (Lit × DataW H) → Nat
  | [] => 0
  | x :: r => uptoBulkEntry x + uptoBulkEntries r
def uptoBulkEntry {H : Type} : Lit × DataW H → Nat
  | (.string bytes, d) => bytes.length + uptoBulk d + 1
  | (_, d) => uptoBulk d + 1
 end
def uptoSmall : (H : Type) → List (DataW H) → Bool := fun _ ds => decide (uptoBulkAll ds ≤ 1048576)
def OpenSpec.upto (s : _root_.Go.ChangeSpec) : _root_.Go.OpenSpec := { _root_.Go.OpenSpec.ofChange s with cond := some uptoSmall }

/-- 'clevislaw02.MemFresh', WHERE WHAT IT READS IS OF BULK AT MOST 1048576: true; the input reads as it did. -/
def memFreshUptoRow : OpenClaim := { program := "ytgchdiocbllppaadoor", sum := "667505fbac912b7d881f2a1eeebfc540250460a837553b68dbcdb0f4b618c208", func := "clevis/clevislaw02.MemFresh", spec := "memFresh", inPlace := ["internal/reflectlite.TypeOf"], unfollowed := true, recurses := true, named := ["clevis/mem.errStray", "clevis/mem.errCount", "clevis/mem.errRange", "clevis/mem.errPerm"], apart := false, laid := [("clevis/mem.errCount", laid_clevis_mem_errCount), ("clevis/mem.errStray", laid_clevis_mem_errStray), ("clevis/mem.errRange", laid_clevis_mem_errRange), ("clevis/mem.errPerm", laid_clevis_mem_errPerm)], narrowed := true }
def MemFreshUptoSaid : Prop := memFreshUptoRow.holds Tryd.pinned (OpenSpec.upto memFreshSpec)

/-- 'clevislaw02.MemLays', WHERE WHAT IT READS IS OF BULK AT MOST 1048576: true; the input reads as it did. -/
def memLaysUptoRow : OpenClaim := { program := "ytgchdiocbllppaadoor", sum := "667505fbac912b7d881f2a1eeebfc540250460a837553b68dbcdb0f4b618c208", func := "clevis/clevislaw02.MemLays", spec := "memLays", inPlace := ["internal/reflectlite.TypeOf"], unfollowed := true, recurses := true, named := ["clevis/mem.errCount", "clevis/mem.errRange", "clevis/mem.errPerm", "clevis/mem.errStray"], apart := false, laid := [("clevis/mem.errCount", laid_clevis_mem_errCount), ("clevis/mem.errStray", laid_clevis_mem_errStray), ("clevis/mem.errRange", laid_clevis_mem_errRange), ("clevis/mem.errPerm", laid_clevis_mem_errPerm)], narrowed := true }
def MemLaysUptoSaid : Prop := memLaysUptoRow.holds Tryd.pinned (OpenSpec.upto memLaysSpec)

/-- 'clevislaw02.MemLoads', WHERE WHAT IT READS IS OF BULK AT MOST 1048576: true; the input reads as it did. -/
def memLoadsUptoRow : OpenClaim := { program := "ytgchdiocbllppaadoor", sum := "667505fbac912b7d881f2a1eeebfc540250460a837553b68dbcdb0f4b618c208", func := "clevis/clevislaw02.MemLoads", spec := "memLoads", inPlace := ["internal/reflectlite.TypeOf"], unfollowed := true, recurses := true, named := ["clevis/mem.errStray", "clevis/mem.errCount", "clevis/mem.errRange", "clevis/mem.errPerm"], apart := false, laid := [("clevis/mem.errCount", laid_clevis_mem_errCount), ("clevis/mem.errStray", laid_clevis_mem_errStray), ("clevis/mem.errRange", laid_clevis_mem_errRange), ("clevis/mem.errPerm", laid_clevis_mem_errPerm)], narrowed := true }
def MemLoadsUptoSaid : Prop := memLoadsUptoRow.holds Tryd.pinned (OpenSpec.upto memLoadsSpec)

/-- 'clevislaw02.MemStores', WHERE WHAT IT READS IS OF BULK AT MOST 1048576: true; the input reads as it did. -/
def memStoresUptoRow : OpenClaim := { program := "ytgchdiocbllppaadoor", sum := "667505fbac912b7d881f2a1eeebfc540250460a837553b68dbcdb0f4b618c208", func := "clevis/clevislaw02.MemStores", spec := "memStores", inPlace := ["internal/reflectlite.TypeOf"], unfollowed := true, recurses := true, named := ["clevis/mem.errStray", "clevis/mem.errCount", "clevis/mem.errRange", "clevis/mem.errPerm"], apart := false, laid := [("clevis/mem.errCount", laid_clevis_mem_errCount), ("clevis/mem.errStray", laid_clevis_mem_errStray), ("clevis/mem.errRange", laid_clevis_mem_errRange), ("clevis/mem.errPerm", laid_clevis_mem_errPerm)], narrowed := true }
def MemStoresUptoSaid : Prop := memStoresUptoRow.holds Tryd.pinned (OpenSpec.upto memStoresSpec)

/-- 'clevislaw02.MemBack', WHERE WHAT IT READS IS OF BULK AT MOST 1048576: true; the input reads as it did. -/
def memBackUptoRow : OpenClaim := { program := "ytgchdiocbllppaadoor", sum := "667505fbac912b7d881f2a1eeebfc540250460a837553b68dbcdb0f4b618c208", func := "clevis/clevislaw02.MemBack", spec := "memBack", inPlace := ["internal/reflectlite.TypeOf"], unfollowed := true, recurses := true, named := ["clevis/mem.errStray", "clevis/mem.errCount", "clevis/mem.errRange", "clevis/mem.errPerm"], apart := false, laid := [("clevis/mem.errCount", laid_clevis_mem_errCount), ("clevis/mem.errStray", laid_clevis_mem_errStray), ("clevis/mem.errRange", laid_clevis_mem_errRange), ("clevis/mem.errPerm", laid_clevis_mem_errPerm)], narrowed := true }
def MemBackUptoSaid : Prop := memBackUptoRow.holds Tryd.pinned (OpenSpec.upto memBackSpec)

/-- 'clevislaw02.MemParts', WHERE WHAT IT READS IS OF BULK AT MOST 1048576: true; the input reads as it did. -/
def memPartsUptoRow : OpenClaim := { program := "ytgchdiocbllppaadoor", sum := "667505fbac912b7d881f2a1eeebfc540250460a837553b68dbcdb0f4b618c208", func := "clevis/clevislaw02.MemParts", spec := "memParts", inPlace := ["internal/reflectlite.TypeOf"], unfollowed := true, recurses := true, named := ["clevis/mem.errStray", "clevis/mem.errCount", "clevis/mem.errRange", "clevis/mem.errPerm"], apart := false, laid := [("clevis/mem.errCount", laid_clevis_mem_errCount), ("clevis/mem.errStray", laid_clevis_mem_errStray), ("clevis/mem.errRange", laid_clevis_mem_errRange), ("clevis/mem.errPerm", laid_clevis_mem_errPerm)], narrowed := true }
def MemPartsUptoSaid : Prop := memPartsUptoRow.holds Tryd.pinned (OpenSpec.upto memPartsSpec)

end Rows
end Go.Proofs.YtgchdiocbllppaaDoor
