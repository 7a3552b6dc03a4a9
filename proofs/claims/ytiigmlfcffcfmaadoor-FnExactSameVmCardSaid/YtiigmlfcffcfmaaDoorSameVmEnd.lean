
/-
  FnExactSameVm: the walk over what both answer, and what the row's condition on vmShape gives it.
-/
import Derived.Test.YtiigmlfcffcfmaaDoorSameVmWalk
import Derived.Test.YtiigmlfcffcfmaaDoorSameVmI
import Derived.Test.YtiigmlfcffcfmaaDoorVmLaid
namespace Go.Proofs.YtiigmlfcffcfmaaDoor
open Go.RowKit

theorem fnExactSameVm_walk (s0 : S4) (m0 : V4) (s1 : S4) (m1 : V4) (w : World) (h0 : Vmem w s0 m0) (h1 : Vmem w s1 m1) (hG : VmShape w) :
    Calls Tryd.prog 12 #[s0.val, s1.val] w fun e w' => e = .returned (.bool true) ∧ Below w.heap.size w w' :=
  fnExactSameVm_of s0 m0 s1 m1 _ w h0 h1 hG
    (fun s t w hA hB => specSameVm_is s m0 t m1 w hA hB)
    (fun s t w hA hB hG => implSameVm_is s m0 t m1 w hA hB hG)

theorem fnExactSameVm_laid {W : World} (h : laidMetH Tryd.prog Rows.fnExactSameVmRow.laid W) : VmShape W := vmShape_of_laid rfl h
theorem fnExactSameVm_door_met (os : Os) (args : Array Value) : laidMetH Tryd.prog Rows.fnExactSameVmRow.laid ((World.doorLaid Tryd.prog 400 os).forCall (fun _ _ => 0) ⟨#[], args, []⟩).memory :=
  laidMetH_of_parts3 (fuel := 8) (laidMet_of_run' 8 (by kernel_rfl) (by kernel_rfl)) (by kernel_rfl) (by kernel_rfl)
end Go.Proofs.YtiigmlfcffcfmaaDoor
