/-
  DERIVED. GIVEN WITH THE SEED: THE PROGRAM's TIES (one call each: nine closed facts by the kernel) AND EACH ROW's TIE, after the 31st guide's Derived/Test/Toyas{Tie, Card}.lean. No idea stands in it: it is a product of the set-up. Laid BY PROGRAM, IN A SANDBOX (cutbox-door.mjs). By AI agents, Wed Nov 11 2026. No macro, syntax, notation, axiom, sorry.
-/
import Derived.Test.YtdopgkbegjfhjaaGreatDoorRows
import Derived.LaidByTextLater
import Derived.SevenTiedAt
import Derived.LaidSub
import Derived.LaidOnce
namespace Go.Proofs.YtdopgkbegjfhjaaGreatDoor
open Go
set_option maxRecDepth 100000
theorem seatTie1 : Tryz.prog.laidByTextLater [("math/bits.deBruijn32tab", Rows.laid_math_bits_deBruijn32tab), ("math/bits.deBruijn64tab", Rows.laid_math_bits_deBruijn64tab), ("internal/strconv.uint64pow10", Rows.laid_internal_strconv_uint64pow10), ("errors.errorType", Rows.laid_errors_errorType), ("loop.example/g00632/impl.vmShape", Rows.laid_loop_example_g00632_impl_vmShape)] [.data, .data, .data, .handle, .wider] true :=
  Program.laidByTextLater_by_one 40 8 65 (by kernel_rfl) (by kernel_rfl) (by kernel_rfl) (by kernel_rfl) (by kernel_rfl) (by kernel_rfl) (fun _ _ => by kernel_rfl)
theorem noOwnUnsafe : Tryz.pinned.checked.prog.headLifts.contains "ownunsafe" = false := by kernel_rfl
theorem tie : Tryz.prog.laidByTextLater [("math/bits.deBruijn32tab", Rows.laid_math_bits_deBruijn32tab), ("math/bits.deBruijn64tab", Rows.laid_math_bits_deBruijn64tab), ("internal/strconv.uint64pow10", Rows.laid_internal_strconv_uint64pow10), ("errors.errorType", Rows.laid_errors_errorType), ("loop.example/g00632/impl.vmShape", Rows.laid_loop_example_g00632_impl_vmShape)] [.data, .data, .data, .handle, .wider] true :=
  Program.laidByTextLater.sub seatTie1 ["math/bits.deBruijn32tab", "math/bits.deBruijn64tab", "internal/strconv.uint64pow10", "errors.errorType", "loop.example/g00632/impl.vmShape"] (by kernel_rfl) (by kernel_rfl)
theorem fnLog_row_tie : Rows.fnLogRow.laidByTextAt .later Tryz.pinned [.data, .data, .data, .handle, .wider] true :=
  OpenClaim.laidByTextAt_later rfl rfl tie noOwnUnsafe
theorem fnTornLog_row_tie : Rows.fnTornLogRow.laidByTextAt .later Tryz.pinned [.data, .data, .data, .handle, .wider] true :=
  OpenClaim.laidByTextAt_later rfl rfl tie noOwnUnsafe
theorem fnExactRecordText_row_tie : Rows.fnExactRecordTextRow.laidByTextAt .later Tryz.pinned [.data, .data, .data, .handle, .wider] true :=
  OpenClaim.laidByTextAt_later rfl rfl tie noOwnUnsafe
theorem fnExactAppendRecord_row_tie : Rows.fnExactAppendRecordRow.laidByTextAt .later Tryz.pinned [.data, .data, .data, .handle, .wider] true :=
  OpenClaim.laidByTextAt_later rfl rfl tie noOwnUnsafe
theorem tie2 : Tryz.prog.laidByTextLater [("errors.errorType", Rows.laid_errors_errorType), ("loop.example/g00632/impl.vmShape", Rows.laid_loop_example_g00632_impl_vmShape)] [.handle, .wider] true :=
  Program.laidByTextLater.sub seatTie1 ["errors.errorType", "loop.example/g00632/impl.vmShape"] (by kernel_rfl) (by kernel_rfl)
theorem fnExactRecordOK_row_tie : Rows.fnExactRecordOKRow.laidByTextAt .later Tryz.pinned [.handle, .wider] true :=
  OpenClaim.laidByTextAt_later rfl rfl tie2 noOwnUnsafe
theorem fnExactReadLog_row_tie : Rows.fnExactReadLogRow.laidByTextAt .later Tryz.pinned [.handle, .wider] true :=
  OpenClaim.laidByTextAt_later rfl rfl tie2 noOwnUnsafe
theorem fnExactRecoverLog_row_tie : Rows.fnExactRecoverLogRow.laidByTextAt .later Tryz.pinned [.handle, .wider] true :=
  OpenClaim.laidByTextAt_later rfl rfl tie2 noOwnUnsafe
theorem fnLogUpto_row_tie : Rows.fnLogUptoRow.laidByTextAt .later Tryz.pinned [.data, .data, .data, .handle, .wider] true :=
  OpenClaim.laidByTextAt_later rfl rfl tie noOwnUnsafe
theorem fnTornLogUpto_row_tie : Rows.fnTornLogUptoRow.laidByTextAt .later Tryz.pinned [.data, .data, .data, .handle, .wider] true :=
  OpenClaim.laidByTextAt_later rfl rfl tie noOwnUnsafe
theorem fnExactRecordOKUpto_row_tie : Rows.fnExactRecordOKUptoRow.laidByTextAt .later Tryz.pinned [.handle, .wider] true :=
  OpenClaim.laidByTextAt_later rfl rfl tie2 noOwnUnsafe
theorem fnExactRecordTextUpto_row_tie : Rows.fnExactRecordTextUptoRow.laidByTextAt .later Tryz.pinned [.data, .data, .data, .handle, .wider] true :=
  OpenClaim.laidByTextAt_later rfl rfl tie noOwnUnsafe
theorem fnExactAppendRecordUpto_row_tie : Rows.fnExactAppendRecordUptoRow.laidByTextAt .later Tryz.pinned [.data, .data, .data, .handle, .wider] true :=
  OpenClaim.laidByTextAt_later rfl rfl tie noOwnUnsafe
theorem fnExactReadLogUpto_row_tie : Rows.fnExactReadLogUptoRow.laidByTextAt .later Tryz.pinned [.handle, .wider] true :=
  OpenClaim.laidByTextAt_later rfl rfl tie2 noOwnUnsafe
theorem fnExactRecoverLogUpto_row_tie : Rows.fnExactRecoverLogUptoRow.laidByTextAt .later Tryz.pinned [.handle, .wider] true :=
  OpenClaim.laidByTextAt_later rfl rfl tie2 noOwnUnsafe
end Go.Proofs.YtdopgkbegjfhjaaGreatDoor
