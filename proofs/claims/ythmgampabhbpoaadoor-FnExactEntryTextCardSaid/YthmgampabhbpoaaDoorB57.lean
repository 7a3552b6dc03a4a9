/-
  Joined: EtxE.
-/
import Derived.Test.YthmgampabhbpoaaDoorB56

namespace Go.Proofs.YthmgampabhbpoaaDoor
set_option maxRecDepth 100000
set_option maxHeartbeats 16000000
open Go.RowKit

theorem fnExactEntryText_walk (e0:E3) (s0:Sl2) (w:World) (h0:Emem w s0 e0) (hG:VmShape w) :
  Calls Tryd.prog 7 #[entV e0.1 s0] w fun e w'=>e=.returned (.bool true)∧Below w.heap.size w w':=
 fnExactEntryText_of e0 s0 _ _ w h0 hG (fun s w h=>specEntryText_is e0 s w h) (fun s w h hV=>implEntryText_is e0 s w h hV)

theorem fnExactEntryText_laid {W:World} (h:laidMetH Tryd.prog Rows.fnExactEntryTextRow.laid W):VmShape W:=vmShape_of_laid rfl h
theorem fnExactEntryText_door_met (os:Os) (args:Array Value):laidMetH Tryd.prog Rows.fnExactEntryTextRow.laid ((World.doorLaid Tryd.prog 400 os).forCall (fun _ _=>0) ⟨#[],args,[]⟩).memory:=
 laidMetH_of_parts3 (fuel:=8) (laidMet_of_run' 8 (by kernel_rfl) (by kernel_rfl)) (by kernel_rfl) (by kernel_rfl)
end Go.Proofs.YthmgampabhbpoaaDoor
