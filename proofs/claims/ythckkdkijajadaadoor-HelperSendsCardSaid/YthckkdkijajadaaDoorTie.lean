/-
  DERIVED. GIVEN WITH THE SEED: THE PROGRAM's TIES (one call each: nine closed facts by the kernel) AND EACH ROW's TIE, after the 31st guide's Derived/Test/Toyas{Tie, Card}.lean. No idea stands in it: it is a product of the set-up. Laid BY PROGRAM, IN A SANDBOX (cutbox-door.mjs). By AI agents, Wed Nov 11 2026. No macro, syntax, notation, axiom, sorry.
-/
import Derived.Test.YthckkdkijajadaaDoorRows
import Derived.LaidByTextLater
import Derived.SevenTiedAt
import Derived.LaidSub
import Derived.LaidOnce
namespace Go.Proofs.YthckkdkijajadaaDoor
open Go
set_option maxRecDepth 100000
theorem seatTie1 : Tryd.prog.laidByTextLater [("clevis/mem.errCount", Rows.laid_clevis_mem_errCount), ("clevis/mem.errStray", Rows.laid_clevis_mem_errStray), ("clevis/mem.errRange", Rows.laid_clevis_mem_errRange), ("clevis/mem.errPerm", Rows.laid_clevis_mem_errPerm), ("clevis/helper.errNone", Rows.laid_clevis_helper_errNone), ("clevis/helper.errFew", Rows.laid_clevis_helper_errFew), ("clevis/helper.errSize", Rows.laid_clevis_helper_errSize), ("clevis/helper.errPlace", Rows.laid_clevis_helper_errPlace), ("clevis/helper.errStray", Rows.laid_clevis_helper_errStray)] [.sentinel, .sentinel, .sentinel, .sentinel, .sentinel, .sentinel, .sentinel, .sentinel, .sentinel] true :=
  Program.laidByTextLater_by_one 180 8 2 (by kernel_rfl) (by kernel_rfl) (by kernel_rfl) (by kernel_rfl) (by kernel_rfl) (by kernel_rfl) (fun _ _ => by kernel_rfl)
theorem noOwnUnsafe : Tryd.pinned.checked.prog.headLifts.contains "ownunsafe" = false := by kernel_rfl
theorem tie : Tryd.prog.laidByTextLater [("clevis/mem.errCount", Rows.laid_clevis_mem_errCount), ("clevis/mem.errStray", Rows.laid_clevis_mem_errStray), ("clevis/mem.errRange", Rows.laid_clevis_mem_errRange), ("clevis/mem.errPerm", Rows.laid_clevis_mem_errPerm), ("clevis/helper.errNone", Rows.laid_clevis_helper_errNone), ("clevis/helper.errFew", Rows.laid_clevis_helper_errFew), ("clevis/helper.errSize", Rows.laid_clevis_helper_errSize), ("clevis/helper.errPlace", Rows.laid_clevis_helper_errPlace), ("clevis/helper.errStray", Rows.laid_clevis_helper_errStray)] [.sentinel, .sentinel, .sentinel, .sentinel, .sentinel, .sentinel, .sentinel, .sentinel, .sentinel] true :=
  Program.laidByTextLater.sub seatTie1 ["clevis/mem.errCount", "clevis/mem.errStray", "clevis/mem.errRange", "clevis/mem.errPerm", "clevis/helper.errNone", "clevis/helper.errFew", "clevis/helper.errSize", "clevis/helper.errPlace", "clevis/helper.errStray"] (by kernel_rfl) (by kernel_rfl)
theorem helperMixes_row_tie : Rows.helperMixesRow.laidByTextAt .later Tryd.pinned [.sentinel, .sentinel, .sentinel, .sentinel, .sentinel, .sentinel, .sentinel, .sentinel, .sentinel] true :=
  OpenClaim.laidByTextAt_later rfl rfl tie noOwnUnsafe
theorem helperTable_row_tie : Rows.helperTableRow.laidByTextAt .later Tryd.pinned [.sentinel, .sentinel, .sentinel, .sentinel, .sentinel, .sentinel, .sentinel, .sentinel, .sentinel] true :=
  OpenClaim.laidByTextAt_later rfl rfl tie noOwnUnsafe
theorem helperDoes_row_tie : Rows.helperDoesRow.laidByTextAt .later Tryd.pinned [.sentinel, .sentinel, .sentinel, .sentinel, .sentinel, .sentinel, .sentinel, .sentinel, .sentinel] true :=
  OpenClaim.laidByTextAt_later rfl rfl tie noOwnUnsafe
theorem helperKeeps_row_tie : Rows.helperKeepsRow.laidByTextAt .later Tryd.pinned [.sentinel, .sentinel, .sentinel, .sentinel, .sentinel, .sentinel, .sentinel, .sentinel, .sentinel] true :=
  OpenClaim.laidByTextAt_later rfl rfl tie noOwnUnsafe
theorem helperSends_row_tie : Rows.helperSendsRow.laidByTextAt .later Tryd.pinned [.sentinel, .sentinel, .sentinel, .sentinel, .sentinel, .sentinel, .sentinel, .sentinel, .sentinel] true :=
  OpenClaim.laidByTextAt_later rfl rfl tie noOwnUnsafe
theorem helperMixesUpto_row_tie : Rows.helperMixesUptoRow.laidByTextAt .later Tryd.pinned [.sentinel, .sentinel, .sentinel, .sentinel, .sentinel, .sentinel, .sentinel, .sentinel, .sentinel] true :=
  OpenClaim.laidByTextAt_later rfl rfl tie noOwnUnsafe
theorem helperTableUpto_row_tie : Rows.helperTableUptoRow.laidByTextAt .later Tryd.pinned [.sentinel, .sentinel, .sentinel, .sentinel, .sentinel, .sentinel, .sentinel, .sentinel, .sentinel] true :=
  OpenClaim.laidByTextAt_later rfl rfl tie noOwnUnsafe
theorem helperDoesUpto_row_tie : Rows.helperDoesUptoRow.laidByTextAt .later Tryd.pinned [.sentinel, .sentinel, .sentinel, .sentinel, .sentinel, .sentinel, .sentinel, .sentinel, .sentinel] true :=
  OpenClaim.laidByTextAt_later rfl rfl tie noOwnUnsafe
theorem helperKeepsUpto_row_tie : Rows.helperKeepsUptoRow.laidByTextAt .later Tryd.pinned [.sentinel, .sentinel, .sentinel, .sentinel, .sentinel, .sentinel, .sentinel, .sentinel, .sentinel] true :=
  OpenClaim.laidByTextAt_later rfl rfl tie noOwnUnsafe
theorem helperSendsUpto_row_tie : Rows.helperSendsUptoRow.laidByTextAt .later Tryd.pinned [.sentinel, .sentinel, .sentinel, .sentinel, .sentinel, .sentinel, .sentinel, .sentinel, .sentinel] true :=
  OpenClaim.laidByTextAt_later rfl rfl tie noOwnUnsafe
end Go.Proofs.YthckkdkijajadaaDoor
