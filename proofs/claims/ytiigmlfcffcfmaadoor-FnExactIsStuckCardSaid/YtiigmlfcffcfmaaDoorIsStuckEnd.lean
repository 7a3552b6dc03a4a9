
/-
  FnExactIsStuck: the walk over what both answer, and what the row's condition on vmShape gives it.
-/
import Derived.Test.YtiigmlfcffcfmaaDoorIsStuckWalk
import Derived.Test.YtiigmlfcffcfmaaDoorDoneA
import Derived.Test.YtiigmlfcffcfmaaDoorVmLaid
namespace Go.Proofs.YtiigmlfcffcfmaaDoor
open Go.RowKit

theorem fnExactIsStuck_walk (a0 : Option Addr) (n0 c0 : Nat) (r0 : List (List I3)) (s1 : S4) (m1 : V4) (w : World) (h0 : Codes w a0 n0 c0 r0) (h1 : Vmem w s1 m1) (hG : VmShape w) :
    Calls Tryd.prog 9 #[.agg #[.slice a0 n0 c0], s1.val] w fun e w' => e = .returned (.bool true) ∧ Below w.heap.size w w' :=
  fnExactIsStuck_of a0 n0 c0 r0 s1 m1 _ _ w h0 h1 hG
    (fun a n c s w hC h => specIsStuck_is a n c r0 s m1 w hC h)
    (fun a n c s w hC h hG => implIsStuck_is a n c r0 s m1 w hC h hG)

theorem fnExactIsStuck_laid {W : World} (h : laidMetH Tryd.prog Rows.fnExactIsStuckRow.laid W) : VmShape W := vmShape_of_laid rfl h
theorem fnExactIsStuck_door_met (os : Os) (args : Array Value) : laidMetH Tryd.prog Rows.fnExactIsStuckRow.laid ((World.doorLaid Tryd.prog 400 os).forCall (fun _ _ => 0) ⟨#[], args, []⟩).memory :=
  laidMetH_of_parts3 (fuel := 8) (laidMet_of_run' 8 (by kernel_rfl) (by kernel_rfl)) (by kernel_rfl) (by kernel_rfl)
end Go.Proofs.YtiigmlfcffcfmaaDoor
