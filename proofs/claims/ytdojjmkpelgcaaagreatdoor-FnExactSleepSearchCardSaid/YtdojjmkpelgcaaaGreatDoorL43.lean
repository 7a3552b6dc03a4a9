/-
  Joined: StsS.
-/
import Derived.Test.YtdojjmkpelgcaaaGreatDoorL16
import Derived.Test.YtdojjmkpelgcaaaGreatDoorL36

namespace Go.Proofs.YtdojjmkpelgcaaaGreatDoor
set_option maxRecDepth 100000
open Go.RowKit
set_option linter.unusedVariables false
set_option linter.unusedSimpArgs false

theorem Off3.blk {wi w : World} {v1 v2 v3 u1 u2 u3 : Value} {B g t : Nat} {ts : List ByteArray} {fs bs : List Int} {cs : List Value} (h : Off3 wi w v1 v2 v3 u1 u2 u3) (p : Blk wi g t cs) (hT : Tri wi B v1 v2 v3 ts fs bs) (h1 : 9 ≠ t) (h2 : 3 ≠ t) : Blk w g t cs :=
 (h.keep g p.lt (own_ne_blk hT.ks p h1) (own_ne_blk hT.fr p h2) (own_ne_blk hT.bw p h2)).trans p
end Go.Proofs.YtdojjmkpelgcaaaGreatDoor
