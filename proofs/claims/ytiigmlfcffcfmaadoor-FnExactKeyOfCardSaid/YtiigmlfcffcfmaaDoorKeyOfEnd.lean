
/-
  FnExactKeyOf: the walk over what both answer, and what the row's condition on vmShape gives it.
-/
import Derived.Test.YtiigmlfcffcfmaaDoorKeyOfWalk
import Derived.Test.YtiigmlfcffcfmaaDoorKeyA
import Derived.Test.YtiigmlfcffcfmaaDoorVmLaid
namespace Go.Proofs.YtiigmlfcffcfmaaDoor
open Go.RowKit

theorem fnExactKeyOf_walk (s0 : S4) (m0 : V4) (w : World) (h0 : Vmem w s0 m0) (hG : VmShape w) :
    Calls Tryd.prog 10 #[s0.val] w fun e w' => e = .returned (.bool true) ∧ Below w.heap.size w w' :=
  fnExactKeyOf_of s0 m0 _ _ w h0 hG
    (fun s w h => specKeyOf_is s m0 w h)
    (fun s w h hG => implKeyOf_is s m0 w h hG)

theorem fnExactKeyOf_laid {W : World} (h : laidMetH Tryd.prog Rows.fnExactKeyOfRow.laid W) : VmShape W := vmShape_of_laid rfl h
theorem fnExactKeyOf_door_met (os : Os) (args : Array Value) : laidMetH Tryd.prog Rows.fnExactKeyOfRow.laid ((World.doorLaid Tryd.prog 400 os).forCall (fun _ _ => 0) ⟨#[], args, []⟩).memory :=
  laidMetH_of_parts3 (fuel := 8) (laidMet_of_run' 8 (by kernel_rfl) (by kernel_rfl)) (by kernel_rfl) (by kernel_rfl)
end Go.Proofs.YtiigmlfcffcfmaaDoor
