/-
  Joined: MttE.
-/
import Derived.Test.YtnffeclgboomoaaGreatDoorT49

namespace Go.Proofs.YtnffeclgboomoaaGreatDoor
set_option maxRecDepth 100000
set_option maxHeartbeats 16000000
open Go.RowKit

theorem fnExactMemoTrue_walk (a0:Option Addr) (n0 c0:Nat) (z0:List (List I3)) (a1:Option Addr) (n1 c1:Nat) (z1:List E3) (w:World) (h0:ZZ w a0 n0 c0 z0) (h1:Yo w a1 n1 c1 z1) (hG:ZL w) :
  Calls Tryz.prog 9 #[.agg #[.slice a0 n0 c0],.agg #[.slice a1 n1 c1]] w fun e w'=>e=.returned (.bool true)∧Below w.heap.size w w':=
 UP a0 n0 c0 z0 a1 n1 c1 z1 _ _ w h0 h1 hG (fun a n c a' n' c' w h h'=>SR a n c z0 a' n' c' z1 w h h') (fun a n c a' n' c' w h h' hV=>SM a n c z0 a' n' c' z1 w h h' hV)

theorem fnExactMemoTrue_laid {W:World} (h:laidMetH Tryz.prog Rows.fnExactMemoTrueRow.laid W):ZL W:=VE rfl h
theorem fnExactMemoTrue_door_met (os:Os) (args:Array Value):laidMetH Tryz.prog Rows.fnExactMemoTrueRow.laid ((World.doorLaid Tryz.prog 400 os).forCall (fun _ _=>0) ⟨#[],args,[]⟩).memory:=
 laidMetH_of_parts3 (fuel:=8) (laidMet_of_run' 8 (by kernel_rfl) (by kernel_rfl)) (by kernel_rfl) (by kernel_rfl)
end Go.Proofs.YtnffeclgboomoaaGreatDoor
