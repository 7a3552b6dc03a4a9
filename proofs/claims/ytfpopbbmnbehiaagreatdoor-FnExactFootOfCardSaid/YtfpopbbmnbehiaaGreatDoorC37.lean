/-
  Joined: NewVmS, ProgL.
-/
import Derived.Test.YtfpopbbmnbehiaaGreatDoorC22

namespace Go.Proofs.YtfpopbbmnbehiaaGreatDoor
set_option maxRecDepth 100000
set_option maxHeartbeats 16000000
open Go.RowKit

theorem specNewVm_is (w:World) :
  Calls Tryz.prog 101 #[] w fun e w'=>(∃ s:S4,e=.returned s.val∧OwnV w' w.heap.size s zeroV)∧Below w.heap.size w w':=by
 have r3:=make3
 have r4:=make4
 have r2:=make2
 have r6:=make6
 go_enter Tryz.func101,Tryz.ntmps101
 go_wp2
 go_region
 all_goals (clear r3 r4 r2 r6;go_wp2;go_returns;refine ⟨⟨_,rfl,newVm_own (B:=w.heap.size) ?_ ?_ ?_ ?_ ⟨⟨by omega,by omega⟩,by omega,by omega⟩ ⟨⟨by omega,by omega,by omega⟩,⟨by omega,by omega⟩,by omega⟩⟩,by go_grown⟩<;>(refine Blk.drew ?_;repeat (first | exact blk_at _ _ _ (by simp) | refine blk_old _ ?_)))


theorem owns_lower {w:World} {B B' e s n:Nat} {v:Value} {cs:List Value} (h:w.ownsRow B e s v n cs) (hB:B'≤B):w.ownsRow B' e s v n cs:=by
 refine ⟨h.1,?_⟩
 rcases h.2 with h0 | ⟨g,cap,cur,hv,hg,r⟩
 ·exact .inl h0
 ·exact .inr ⟨g,cap,cur,hv,by omega,r⟩

end Go.Proofs.YtfpopbbmnbehiaaGreatDoor
