/-
  Joined: NewVmS.
-/
import Derived.Test.YtnffeclgboomoaaGreatDoorT11

namespace Go.Proofs.YtnffeclgboomoaaGreatDoor
set_option maxRecDepth 100000
set_option maxHeartbeats 16000000
open Go.RowKit

theorem TP (w:World) :
  Calls Tryz.prog 119 #[] w fun e w'=>(∃ s:S4,e=.returned s.val∧ZJ w' w.heap.size s Qh)∧Below w.heap.size w w':=by
 have r3:=Fd
 have r4:=Fe
 have r2:=Fc
 have r6:=Ff
 go_enter Tryz.func119,Tryz.ntmps119
 go_wp2
 go_region
 all_goals (clear r3 r4 r2 r6;go_wp2;go_returns;refine ⟨⟨_,rfl,QW (B:=w.heap.size) ?_ ?_ ?_ ?_ ⟨⟨by omega,by omega⟩,by omega,by omega⟩ ⟨⟨by omega,by omega,by omega⟩,⟨by omega,by omega⟩,by omega⟩⟩,by go_grown⟩<;>(refine Blk.drew ?_;repeat (first | exact J3 _ _ _ (by simp) | refine LD _ ?_)))
end Go.Proofs.YtnffeclgboomoaaGreatDoor
