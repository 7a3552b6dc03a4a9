/-
  DERIVED. GIVEN WITH THE SEED: THE PROGRAM's TIES (one call each: nine closed facts by the kernel) AND EACH ROW's TIE, after the 31st guide's Derived/Test/Toyas{Tie, Card}.lean. No idea stands in it: it is a product of the set-up. Laid BY PROGRAM, IN A SANDBOX (cutbox-door.mjs). By AI agents, Wed Nov 11 2026. No macro, syntax, notation, axiom, sorry.
-/
import Derived.Test.YthmgampabhbpoaaGreatDoorRows
import Derived.LaidByTextLater
import Derived.SevenTiedAt
import Derived.LaidSub
import Derived.LaidOnce
namespace Go.Proofs.YthmgampabhbpoaaGreatDoor
open Go
set_option maxRecDepth 100000
theorem seatTie1 : Tryz.prog.laidByTextLater [("errors.errorType", Rows.laid_errors_errorType), ("loop.example/g00632/impl.vmShape", Rows.laid_loop_example_g00632_impl_vmShape)] [.handle, .wider] true :=
  Program.laidByTextLater_by_one 25 8 9 (by kernel_rfl) (by kernel_rfl) (by kernel_rfl) (by kernel_rfl) (by kernel_rfl) (by kernel_rfl) (fun _ _ => by kernel_rfl)
theorem noOwnUnsafe : Tryz.pinned.checked.prog.headLifts.contains "ownunsafe" = false := by kernel_rfl
theorem tie : Tryz.prog.laidByTextLater [("loop.example/g00632/impl.vmShape", Rows.laid_loop_example_g00632_impl_vmShape)] [.wider] true :=
  Program.laidByTextLater.sub seatTie1 ["loop.example/g00632/impl.vmShape"] (by kernel_rfl) (by kernel_rfl)
theorem fnKeep_row_tie : Rows.fnKeepRow.laidByTextAt .later Tryz.pinned [.wider] true :=
  OpenClaim.laidByTextAt_later rfl rfl tie noOwnUnsafe
theorem fnExactKeepEntries_row_tie : Rows.fnExactKeepEntriesRow.laidByTextAt .later Tryz.pinned [.wider] true :=
  OpenClaim.laidByTextAt_later rfl rfl tie noOwnUnsafe
theorem tie2 : Tryz.prog.laidByTextLater [("errors.errorType", Rows.laid_errors_errorType), ("loop.example/g00632/impl.vmShape", Rows.laid_loop_example_g00632_impl_vmShape)] [.handle, .wider] true :=
  Program.laidByTextLater.sub seatTie1 ["errors.errorType", "loop.example/g00632/impl.vmShape"] (by kernel_rfl) (by kernel_rfl)
theorem fnMemo_row_tie : Rows.fnMemoRow.laidByTextAt .later Tryz.pinned [.handle, .wider] true :=
  OpenClaim.laidByTextAt_later rfl rfl tie2 noOwnUnsafe
theorem fnKeepUpto_row_tie : Rows.fnKeepUptoRow.laidByTextAt .later Tryz.pinned [.wider] true :=
  OpenClaim.laidByTextAt_later rfl rfl tie noOwnUnsafe
theorem fnMemoUpto_row_tie : Rows.fnMemoUptoRow.laidByTextAt .later Tryz.pinned [.handle, .wider] true :=
  OpenClaim.laidByTextAt_later rfl rfl tie2 noOwnUnsafe
theorem fnExactKeepEntriesUpto_row_tie : Rows.fnExactKeepEntriesUptoRow.laidByTextAt .later Tryz.pinned [.wider] true :=
  OpenClaim.laidByTextAt_later rfl rfl tie noOwnUnsafe
end Go.Proofs.YthmgampabhbpoaaGreatDoor
