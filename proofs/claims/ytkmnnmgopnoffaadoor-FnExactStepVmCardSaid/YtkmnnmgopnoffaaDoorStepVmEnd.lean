
/-
  FnExactStepVm: the walk over what both answer, and what the row's condition on vmShape gives it.
-/
import Derived.Test.YtkmnnmgopnoffaaDoorStepVmWalk
import Derived.Test.YtkmnnmgopnoffaaDoorStepQ
import Derived.Test.YtkmnnmgopnoffaaDoorVmLaid
namespace Go.Proofs.YtkmnnmgopnoffaaDoor
open Go.RowKit

theorem fnExactStepVm_walk (a0 : Option Addr) (n0 c0 : Nat) (r0 : List (List I3)) (s1 : S4) (m1 : V4) (i2 : Int) (_wi2 : (Lit.int .i64 i2).wf = true) (w : World) (h0 : Codes w a0 n0 c0 r0) (h1 : Vmem w s1 m1) (hG : VmShape w) :
    Calls Tryd.prog 8 #[.agg #[.slice a0 n0 c0], s1.val, .int .i64 i2] w fun e w' => e = .returned (.bool true) ∧ Below w.heap.size w w' :=
  fnExactStepVm_of a0 n0 c0 r0 s1 m1 i2 (stepZ r0 m1 i2) (stepZ_fits r0 m1 i2).1 (stepZ_fits r0 m1 i2).2 (stepF r0 m1 i2) (stepC r0 m1 i2) w h0 h1 hG
    (fun a n c s w hC h => specStepVm_is a n c r0 s m1 i2 w hC h)
    (fun a n c s w hC h hG => implStepVm_is a n c r0 s m1 i2 w hC h hG)

theorem fnExactStepVm_laid {W : World} (h : laidMetH Tryd.prog Rows.fnExactStepVmRow.laid W) : VmShape W := vmShape_of_laid rfl h
theorem fnExactStepVm_door_met (os : Os) (args : Array Value) : laidMetH Tryd.prog Rows.fnExactStepVmRow.laid ((World.doorLaid Tryd.prog 400 os).forCall (fun _ _ => 0) ⟨#[], args, []⟩).memory :=
  laidMetH_of_parts3 (fuel := 8) (laidMet_of_run' 8 (by kernel_rfl) (by kernel_rfl)) (by kernel_rfl) (by kernel_rfl)
end Go.Proofs.YtkmnnmgopnoffaaDoor
