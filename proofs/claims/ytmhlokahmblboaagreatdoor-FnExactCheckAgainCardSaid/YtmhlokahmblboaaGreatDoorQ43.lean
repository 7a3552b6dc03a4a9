/-
  Joined: VisN.
-/
import Derived.Test.YtmhlokahmblboaaGreatDoorQ41

namespace Go.Proofs.YtmhlokahmblboaaGreatDoor
set_option maxRecDepth 100000
set_option maxHeartbeats 16000000
open Go.RowKit
set_option linter.unusedVariables false
set_option linter.unusedSimpArgs false

theorem Kp {e:E3} (h:Yg e) (hk:e.1.size≤maxLen):e.fits:=⟨hk,fun x hx=>XB (h.2.1 x hx),fun x hx=>S0 (h.2.2.2 x hx)⟩
end Go.Proofs.YtmhlokahmblboaaGreatDoor
