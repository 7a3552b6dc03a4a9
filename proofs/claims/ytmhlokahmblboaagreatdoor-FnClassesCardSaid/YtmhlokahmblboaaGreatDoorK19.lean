/-
  Joined: NewVmS.
-/
import Derived.Test.YtmhlokahmblboaaGreatDoorK18

namespace Go.Proofs.YtmhlokahmblboaaGreatDoor
set_option maxRecDepth 100000
set_option maxHeartbeats 16000000
open Go.RowKit

theorem XV (w:World) :
  Calls Tryz.prog 34 #[] w fun e w'=>(∃ s:S4,e=.returned s.val∧ZP w' w.heap.size s Zl)∧Below w.heap.size w w':=by
 have r3:=Fs
 have r4:=Ft
 have r2:=Fr
 have r6:=Fu
 go_enter Tryz.func34,Tryz.ntmps34
 go_wp2
 go_region
 all_goals (clear r3 r4 r2 r6;go_wp2;go_returns;refine ⟨⟨_,rfl,QU (B:=w.heap.size) ?_ ?_ ?_ ?_ ⟨⟨by omega,by omega⟩,by omega,by omega⟩ ⟨⟨by omega,by omega,by omega⟩,⟨by omega,by omega⟩,by omega⟩⟩,by go_grown⟩<;>(refine Blk.drew ?_;repeat (first | exact JL _ _ _ (by simp) | refine Lf _ ?_)))
end Go.Proofs.YtmhlokahmblboaaGreatDoor
