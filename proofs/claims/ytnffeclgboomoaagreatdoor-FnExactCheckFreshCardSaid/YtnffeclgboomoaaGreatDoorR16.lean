/-
  Joined: NewVmS.
-/
import Derived.Test.YtnffeclgboomoaaGreatDoorR15

namespace Go.Proofs.YtnffeclgboomoaaGreatDoor
set_option maxRecDepth 100000
set_option maxHeartbeats 16000000
open Go.RowKit

theorem PE (w:World) :
  Calls Tryz.prog 119 #[] w fun e w'=>(∃ s:S4,e=.returned s.val∧ZY w' w.heap.size s ZF)∧Below w.heap.size w w':=by
 have r3:=Gf
 have r4:=Gg
 have r2:=Ge
 have r6:=Gh
 go_enter Tryz.func119,Tryz.ntmps119
 go_wp2
 go_region
 all_goals (clear r3 r4 r2 r6;go_wp2;go_returns;refine ⟨⟨_,rfl,QM (B:=w.heap.size) ?_ ?_ ?_ ?_ ⟨⟨by omega,by omega⟩,by omega,by omega⟩ ⟨⟨by omega,by omega,by omega⟩,⟨by omega,by omega⟩,by omega⟩⟩,by go_grown⟩<;>(refine Blk.drew ?_;repeat (first | exact K3 _ _ _ (by simp) | refine MV _ ?_)))
end Go.Proofs.YtnffeclgboomoaaGreatDoor
