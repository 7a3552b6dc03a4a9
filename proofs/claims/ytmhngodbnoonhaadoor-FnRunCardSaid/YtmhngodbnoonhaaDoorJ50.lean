/-
  FnRun, part 50 of 50 (FrEnd).
-/
import Derived.Test.YtmhngodbnoonhaaDoorJ49

/-
  FnRun: the row's condition on vmShape is met at the door.
-/
namespace Go.Proofs.YtmhngodbnoonhaaDoor
open Go.RowKit

theorem fnRun_door_met (os : Os) (args : Array Value) : laidMetH Tryd.prog Rows.fnRunRow.laid ((World.doorLaid Tryd.prog 400 os).forCall (fun _ _ => 0) ⟨#[], args, []⟩).memory :=
  laidMetH_of_parts3 (fuel := 8) (laidMet_of_run' 8 (by kernel_rfl) (by kernel_rfl)) (by kernel_rfl) (by kernel_rfl)
end Go.Proofs.YtmhngodbnoonhaaDoor
