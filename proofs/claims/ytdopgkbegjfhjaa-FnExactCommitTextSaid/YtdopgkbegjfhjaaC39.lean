/-
  Joined: RciP.
-/
import Derived.Deep.Cut
import Derived.Test.YtdopgkbegjfhjaaC37

namespace Go.Proofs.Ytdopgkbegjfhjaa
set_option maxRecDepth 100000
set_option maxHeartbeats 16000000
open Go.RowKit
set_option linter.unusedVariables false
set_option linter.unusedSimpArgs false

theorem unT_row:∀ xs:List I3,rowNums xs=unT xs
 | []=>rfl
 | x::xs=>by
  show [x.1,x.2.1,x.2.2]++rowNums xs=_
  rw [unT_row xs]
  rfl
end Go.Proofs.Ytdopgkbegjfhjaa
