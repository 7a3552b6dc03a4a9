/-
  Joined: NewVmS.
-/
import Derived.Test.YtgmhhegckcionaaGreatDoorF11

namespace Go.Proofs.YtgmhhegckcionaaGreatDoor
set_option maxRecDepth 100000
set_option maxHeartbeats 16000000
open Go.RowKit

theorem Mp (w:World) :
  Calls Tryz.prog 79 #[] w fun e w'=>(∃ s:S4,e=.returned s.val∧Z3 w' w.heap.size s Zu)∧Below w.heap.size w w':=by
 have r3:=CD
 have r4:=CE
 have r2:=CC
 have r6:=CF
 go_enter Tryz.func79,Tryz.ntmps79
 go_wp2
 go_region
 all_goals (clear r3 r4 r2 r6;go_wp2;go_returns;refine ⟨⟨_,rfl,Nd (B:=w.heap.size) ?_ ?_ ?_ ?_ ⟨⟨by omega,by omega⟩,by omega,by omega⟩ ⟨⟨by omega,by omega,by omega⟩,⟨by omega,by omega⟩,by omega⟩⟩,by go_grown⟩<;>(refine Blk.drew ?_;repeat (first | exact Fd _ _ _ (by simp) | refine K2 _ ?_)))
end Go.Proofs.YtgmhhegckcionaaGreatDoor
