/-
  Joined: NewVmS.
-/
import Derived.Test.YtifoggpohlegmaaGreatDoorE16

namespace Go.Proofs.YtifoggpohlegmaaGreatDoor
set_option maxRecDepth 100000
set_option maxHeartbeats 16000000
open Go.RowKit

theorem XZ (w:World) :
  Calls Tryz.prog 106 #[] w fun e w'=>(∃ s:S4,e=.returned s.val∧ZQ w' w.heap.size s Zl)∧Below w.heap.size w w':=by
 have r3:=Ft
 have r4:=Fu
 have r2:=Fs
 have r6:=Fv
 go_enter Tryz.func106,Tryz.ntmps106
 go_wp2
 go_region
 all_goals (clear r3 r4 r2 r6;go_wp2;go_returns;refine ⟨⟨_,rfl,Q6 (B:=w.heap.size) ?_ ?_ ?_ ?_ ⟨⟨by omega,by omega⟩,by omega,by omega⟩ ⟨⟨by omega,by omega,by omega⟩,⟨by omega,by omega⟩,by omega⟩⟩,by go_grown⟩<;>(refine Blk.drew ?_;repeat (first | exact JP _ _ _ (by simp) | refine Lk _ ?_)))
end Go.Proofs.YtifoggpohlegmaaGreatDoor
