/-
  Joined: NewVmS.
-/
import Derived.Test.YtmhlokahmblboaaGreatDoorQ15

namespace Go.Proofs.YtmhlokahmblboaaGreatDoor
set_option maxRecDepth 100000
set_option maxHeartbeats 16000000
open Go.RowKit

theorem VH (w:World) :
  Calls Tryz.prog 34 #[] w fun e w'=>(∃ s:S4,e=.returned s.val∧ZI w' w.heap.size s ZD)∧Below w.heap.size w w':=by
 have r3:=G5
 have r4:=G6
 have r2:=G4
 have r6:=G7
 go_enter Tryz.func34,Tryz.ntmps34
 go_wp2
 go_region
 all_goals (clear r3 r4 r2 r6;go_wp2;go_returns;refine ⟨⟨_,rfl,Pb (B:=w.heap.size) ?_ ?_ ?_ ?_ ⟨⟨by omega,by omega⟩,by omega,by omega⟩ ⟨⟨by omega,by omega,by omega⟩,⟨by omega,by omega⟩,by omega⟩⟩,by go_grown⟩<;>(refine Blk.drew ?_;repeat (first | exact JM _ _ _ (by simp) | refine Lz _ ?_)))
end Go.Proofs.YtmhlokahmblboaaGreatDoor
