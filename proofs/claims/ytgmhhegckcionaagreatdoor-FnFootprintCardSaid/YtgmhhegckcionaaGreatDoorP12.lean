/-
  Joined: NewVmS.
-/
import Derived.Test.YtgmhhegckcionaaGreatDoorP11

namespace Go.Proofs.YtgmhhegckcionaaGreatDoor
set_option maxRecDepth 100000
set_option maxHeartbeats 16000000
open Go.RowKit

theorem specNewVm_is (w:World) :
  Calls Tryz.prog 79 #[] w fun e w'=>(∃ s:S4,e=.returned s.val∧OwnV w' w.heap.size s zeroV)∧Below w.heap.size w w':=by
 have r3:=make3
 have r4:=make4
 have r2:=make2
 have r6:=make6
 go_enter Tryz.func79,Tryz.ntmps79
 go_wp2
 go_region
 all_goals (clear r3 r4 r2 r6;go_wp2;go_returns;refine ⟨⟨_,rfl,newVm_own (B:=w.heap.size) ?_ ?_ ?_ ?_ ⟨⟨by omega,by omega⟩,by omega,by omega⟩ ⟨⟨by omega,by omega,by omega⟩,⟨by omega,by omega⟩,by omega⟩⟩,by go_grown⟩<;>(refine Blk.drew ?_;repeat (first | exact blk_at _ _ _ (by simp) | refine blk_old _ ?_)))
end Go.Proofs.YtgmhhegckcionaaGreatDoor
