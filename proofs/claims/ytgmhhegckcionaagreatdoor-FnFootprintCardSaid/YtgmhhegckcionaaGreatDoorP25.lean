/-
  Joined: FndS.
-/
import Derived.Test.YtgmhhegckcionaaGreatDoorP21

namespace Go.Proofs.YtgmhhegckcionaaGreatDoor
set_option maxRecDepth 100000
set_option maxHeartbeats 16000000
open Go.RowKit
set_option linter.unusedVariables false
set_option linter.unusedSimpArgs false

theorem goM_nat (rows:List (List I3)) (m:V4) (k:Nat):goM rows m (k:Int)=stepM m (insM rows m k) k:=by unfold goM;rw [Int.toNat_natCast]
end Go.Proofs.YtgmhhegckcionaaGreatDoor
