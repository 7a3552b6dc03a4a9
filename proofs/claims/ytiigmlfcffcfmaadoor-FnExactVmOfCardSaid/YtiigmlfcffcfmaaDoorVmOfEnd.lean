
/-
  FnExactVmOf: the walk over what both answer, and what the row's condition on vmShape gives it.
-/
import Derived.Test.YtiigmlfcffcfmaaDoorVmOfWalk
import Derived.Test.YtiigmlfcffcfmaaDoorVmOfS
import Derived.Test.YtiigmlfcffcfmaaDoorVmLaid
namespace Go.Proofs.YtiigmlfcffcfmaaDoor
open Go.RowKit

theorem fnExactVmOf_walk (a0 : ByteArray) (w0 : a0.size ≤ maxLen) (w : World) (hG : VmShape w) :
    Calls Tryd.prog 11 #[.string a0] w fun e w' => e = .returned (.bool true) ∧ Below w.heap.size w w' :=
  fnExactVmOf_of a0 w0 (vmOfZ a0) (vmOfZ_fits a0) (vmOfZ_len a0) (vmOfC a0) w hG
    (fun w hs => specVmOf_is a0 w hs)
    (fun w hs hG => implVmOf_is a0 w hs hG)

theorem fnExactVmOf_laid {W : World} (h : laidMetH Tryd.prog Rows.fnExactVmOfRow.laid W) : VmShape W := vmShape_of_laid rfl h
theorem fnExactVmOf_door_met (os : Os) (args : Array Value) : laidMetH Tryd.prog Rows.fnExactVmOfRow.laid ((World.doorLaid Tryd.prog 400 os).forCall (fun _ _ => 0) ⟨#[], args, []⟩).memory :=
  laidMetH_of_parts3 (fuel := 8) (laidMet_of_run' 8 (by kernel_rfl) (by kernel_rfl)) (by kernel_rfl) (by kernel_rfl)
end Go.Proofs.YtiigmlfcffcfmaaDoor
