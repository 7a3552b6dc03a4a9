/-
  Joined: ReceE.
-/
import Derived.Test.YtdopgkbegjfhjaaGreatDoorR51
import Derived.Test.YtdopgkbegjfhjaaGreatDoorR52

namespace Go.Proofs.YtdopgkbegjfhjaaGreatDoor
set_option maxRecDepth 100000
set_option maxHeartbeats 16000000
open Go.RowKit
set_option linter.unusedVariables false

theorem fnExactAppendRecord_walk (y0:D2) (y1:R2) (w:World) (h0:y0.fits) (h1:y1.fits) (hG:LogVars w) :
  Calls Tryz.prog 7 #[y0.val,y1.val] w fun e w'=>e=.returned (.bool true)∧Below w.heap.size w w':=
 fnExactAppendRecord_of LogVars logVars_below y0 y1 w h0 h1 hG (fun w h hd hz=>implAppendRecord_is y0 y1 w hd hz h.1 h.2)
theorem fnExactAppendRecord_laid {W:World} (h:laidMetH Tryz.prog Rows.fnExactAppendRecordRow.laid W):LogVars W:=by
 have h':=laid_five13 (W:=W) rfl rfl rfl rfl rfl h
 exact ⟨vmShape_of_laid rfl h'.2,errType_of_laid rfl h'.1⟩
theorem fnExactAppendRecord_door_met (os:Os) (args:Array Value):laidMetH Tryz.prog Rows.fnExactAppendRecordRow.laid ((World.doorLaid Tryz.prog 400 os).forCall (fun _ _=>0) ⟨#[],args,[]⟩).memory:=
 laidMetH_of_parts3 (fuel:=8) (laidMet_of_run' 8 (by kernel_rfl) (by kernel_rfl)) (by kernel_rfl) (by kernel_rfl)
end Go.Proofs.YtdopgkbegjfhjaaGreatDoor
