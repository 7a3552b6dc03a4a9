/-
  Joined: MemI.
-/
import Derived.Test.YthmgampabhbpoaaDoorD40

namespace Go.Proofs.YthmgampabhbpoaaDoor
set_option maxRecDepth 100000
set_option maxHeartbeats 16000000
open Go.RowKit
set_option linter.unusedVariables false
set_option linter.unusedSimpArgs false

theorem EntGot.lower {x:Ending} {w':World} {B B':Nat} {e:E3} (h:EntGot x w' B e) (hB:B'≤B):EntGot x w' B' e:=by
 obtain ⟨s,h1,h2⟩:=h
 exact ⟨s,h1,h2.lower hB⟩
end Go.Proofs.YthmgampabhbpoaaDoor
