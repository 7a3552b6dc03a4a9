/-
  Joined: SmeE.
-/
import Derived.Test.YthmgampabhbpoaaDoorC46
import Derived.Test.YthmgampabhbpoaaDoorC47

namespace Go.Proofs.YthmgampabhbpoaaDoor
set_option maxRecDepth 100000
set_option maxHeartbeats 16000000
open Go.RowKit

theorem fnExactSameMemo_walk (a0:Option Addr) (n0 c0:Nat) (z0:List E3) (a1:Option Addr) (n1 c1:Nat) (z1:List E3) (w:World) (h0:Ents w a0 n0 c0 z0) (h1:Ents w a1 n1 c1 z1) (hG:VmShape w) :
  Calls Tryd.prog 9 #[.agg #[.slice a0 n0 c0],.agg #[.slice a1 n1 c1]] w fun e w'=>e=.returned (.bool true)∧Below w.heap.size w w':=
 fnExactSameMemo_of a0 n0 c0 z0 a1 n1 c1 z1 _ w h0 h1 hG (fun a n c a' n' c' w h h'=>specSameMemo_is a n c z0 a' n' c' z1 w h h') (fun a n c a' n' c' w h h' hV=>implSameMemo_is a n c z0 a' n' c' z1 w h h' hV)

theorem fnExactSameMemo_laid {W:World} (h:laidMetH Tryd.prog Rows.fnExactSameMemoRow.laid W):VmShape W:=vmShape_of_laid rfl h
theorem fnExactSameMemo_door_met (os:Os) (args:Array Value):laidMetH Tryd.prog Rows.fnExactSameMemoRow.laid ((World.doorLaid Tryd.prog 400 os).forCall (fun _ _=>0) ⟨#[],args,[]⟩).memory:=
 laidMetH_of_parts3 (fuel:=8) (laidMet_of_run' 8 (by kernel_rfl) (by kernel_rfl)) (by kernel_rfl) (by kernel_rfl)
end Go.Proofs.YthmgampabhbpoaaDoor
