/-
  Joined: ReccE.
-/
import Derived.Test.YtdopgkbegjfhjaaGreatDoorR49
import Derived.Test.YtdopgkbegjfhjaaGreatDoorR56

namespace Go.Proofs.YtdopgkbegjfhjaaGreatDoor
set_option maxRecDepth 100000
set_option maxHeartbeats 16000000
open Go.RowKit
set_option linter.unusedVariables false

theorem fnExactRecoverLog_walk (y0:D2) (w:World) (h0:y0.fits) (hG:LogVars w) :
  Calls Tryz.prog 9 #[y0.val] w fun e w'=>e=.returned (.bool true)∧Below w.heap.size w w':=
 fnExactRecoverLog_of LogVars logVars_below y0 w h0 hG (fun w h hz=>implRecoverLog_is y0 w hz h.1 h.2)
theorem fnExactRecoverLog_laid {W:World} (h:laidMetH Tryz.prog Rows.fnExactRecoverLogRow.laid W):LogVars W:=by
 have h':=laid_two13 (W:=W) rfl rfl h
 exact ⟨vmShape_of_laid rfl h'.2,errType_of_laid rfl h'.1⟩
theorem fnExactRecoverLog_door_met (os:Os) (args:Array Value):laidMetH Tryz.prog Rows.fnExactRecoverLogRow.laid ((World.doorLaid Tryz.prog 400 os).forCall (fun _ _=>0) ⟨#[],args,[]⟩).memory:=
 laidMetH_of_parts3 (fuel:=8) (laidMet_of_run' 8 (by kernel_rfl) (by kernel_rfl)) (by kernel_rfl) (by kernel_rfl)
end Go.Proofs.YtdopgkbegjfhjaaGreatDoor
