/-
  Joined: MokE.
-/
import Derived.Test.YthmgampabhbpoaaDoorA22
import Derived.Test.YthmgampabhbpoaaDoorA44
import Derived.Test.YthmgampabhbpoaaDoorA46
import Derived.Test.YthmgampabhbpoaaDoorA47

namespace Go.Proofs.YthmgampabhbpoaaDoor
set_option maxRecDepth 100000
set_option maxHeartbeats 16000000
open Go.RowKit

theorem fnExactMemoOK_walk (a0:Option Addr) (n0 c0:Nat) (z0:List E3) (w:World) (h0:Ents w a0 n0 c0 z0) (hG:VmShape w) :
  Calls Tryd.prog 4 #[.agg #[.slice a0 n0 c0]] w fun e w'=>e=.returned (.bool true)∧Below w.heap.size w w':=
 fnExactMemoOK_of a0 n0 c0 z0 _ w h0 hG (fun a n c w h=>specMemoOK_is a n c z0 w h) (fun a n c w h hV=>implMemoOK_is a n c z0 w h hV)

theorem fnExactMemoOK_laid {W:World} (h:laidMetH Tryd.prog Rows.fnExactMemoOKRow.laid W):VmShape W:=vmShape_of_laid rfl h
theorem fnExactMemoOK_door_met (os:Os) (args:Array Value):laidMetH Tryd.prog Rows.fnExactMemoOKRow.laid ((World.doorLaid Tryd.prog 400 os).forCall (fun _ _=>0) ⟨#[],args,[]⟩).memory:=
 laidMetH_of_parts3 (fuel:=8) (laidMet_of_run' 8 (by kernel_rfl) (by kernel_rfl)) (by kernel_rfl) (by kernel_rfl)
end Go.Proofs.YthmgampabhbpoaaDoor
