
/-
  FnExactBugText: what the row's condition gives its walk.
-/
import Derived.Test.YtkmnnmgopnoffaaDoorBugTxt
import Derived.Test.YtkmnnmgopnoffaaDoorWordsLaid
namespace Go.Proofs.YtkmnnmgopnoffaaDoor
open Go.RowKit
theorem fnExactBugText_laid {W : World} (h : laidMetH Tryd.prog Rows.fnExactBugTextRow.laid W) : Table W := by
  rw [MakeChecks.laidMetH_plain _ _ _ (by kernel_rfl)] at h
  exact table_of_met h.tail.tail.tail
theorem fnExactBugText_door_met (os : Os) (args : Array Value) : laidMetH Tryd.prog Rows.fnExactBugTextRow.laid ((World.doorLaid Tryd.prog 400 os).forCall (fun _ _ => 0) ⟨#[], args, []⟩).memory :=
  laidMetH_of_parts3 (fuel := 8) (laidMet_of_run' 8 (by kernel_rfl) (by kernel_rfl)) (by kernel_rfl) (by kernel_rfl)
end Go.Proofs.YtkmnnmgopnoffaaDoor
