/-
  Joined: EttE.
-/
import Derived.Test.YtnffeclgboomoaaGreatDoorT49

namespace Go.Proofs.YtnffeclgboomoaaGreatDoor
set_option maxRecDepth 100000
set_option maxHeartbeats 16000000
open Go.RowKit

theorem fnExactEntryTrue_walk (a0:Option Addr) (n0 c0:Nat) (z0:List (List I3)) (e1:E3) (s1:Sl2) (w:World) (h0:ZZ w a0 n0 c0 z0) (h1:Z1 w s1 e1) (hG:ZL w) :
  Calls Tryz.prog 8 #[.agg #[.slice a0 n0 c0],ZR e1.1 s1] w fun e w'=>e=.returned (.bool true)∧Below w.heap.size w w':=
 UF a0 n0 c0 z0 e1 s1 _ _ w h0 h1 hG (fun a n c s w h h'=>Sh a n c z0 e1 s w h h') (fun a n c s w h h' hV=>T7 a n c z0 e1 s w h h' hV)

theorem fnExactEntryTrue_laid {W:World} (h:laidMetH Tryz.prog Rows.fnExactEntryTrueRow.laid W):ZL W:=VE rfl h
theorem fnExactEntryTrue_door_met (os:Os) (args:Array Value):laidMetH Tryz.prog Rows.fnExactEntryTrueRow.laid ((World.doorLaid Tryz.prog 400 os).forCall (fun _ _=>0) ⟨#[],args,[]⟩).memory:=
 laidMetH_of_parts3 (fuel:=8) (laidMet_of_run' 8 (by kernel_rfl) (by kernel_rfl)) (by kernel_rfl) (by kernel_rfl)
end Go.Proofs.YtnffeclgboomoaaGreatDoor
