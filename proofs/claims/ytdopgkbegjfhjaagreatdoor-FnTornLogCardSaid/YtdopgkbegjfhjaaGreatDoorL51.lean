/-
  Joined: RechE.
-/
import Derived.Test.YtdopgkbegjfhjaaGreatDoorL47
import Derived.Test.YtdopgkbegjfhjaaGreatDoorL49

namespace Go.Proofs.YtdopgkbegjfhjaaGreatDoor
set_option maxRecDepth 100000
set_option maxHeartbeats 16000000
open Go.RowKit
set_option linter.unusedVariables false

theorem fnTornLog_walk (a0:Option Addr) (len0 cap0:Nat) (z0:List Int) (a1:Option Addr) (len1 cap1:Nat) (z1:List Int) (w:World) (h0:IsRow .u8 w a0 len0 cap0 z0) (h1:IsRow .u8 w a1 len1 cap1 z1) (hG:LogVars w) :
  Calls Tryz.prog 4 #[.slice a0 len0 cap0,.slice a1 len1 cap1] w fun e w'=>e=.returned (.bool true)∧Below w.heap.size w w':=
 fnTornLog_of LogVars logVars_below a0 len0 cap0 z0 a1 len1 cap1 z1 w h0 h1 hG (fun d r w h hd hz=>implAppendRecord_is d r w hd hz h.1 h.2) (fun d w h hd=>implReadLog_is d w hd h.1 h.2) 
theorem fnTornLog_laid {W:World} (h:laidMetH Tryz.prog Rows.fnTornLogRow.laid W):LogVars W:=by
 have h':=laid_five13 (W:=W) rfl rfl rfl rfl rfl h
 exact ⟨vmShape_of_laid rfl h'.2,errType_of_laid rfl h'.1⟩
theorem fnTornLog_door_met (os:Os) (args:Array Value):laidMetH Tryz.prog Rows.fnTornLogRow.laid ((World.doorLaid Tryz.prog 400 os).forCall (fun _ _=>0) ⟨#[],args,[]⟩).memory:=
 laidMetH_of_parts3 (fuel:=8) (laidMet_of_run' 8 (by kernel_rfl) (by kernel_rfl)) (by kernel_rfl) (by kernel_rfl)
end Go.Proofs.YtdopgkbegjfhjaaGreatDoor
