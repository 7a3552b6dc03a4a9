/-
  Joined: DoneA.
-/
import Derived.Laws.BytesArg
import Derived.Deep.RegionLaw
import Derived.Laws.OwnMore
import Derived.Laws.CopyOwn
import Derived.Laws.Tables
import Derived.BigRegion
import Derived.Test.YtojcgajjnmjjpaaDoorL24

namespace Go.Proofs.YtojcgajjnmjjpaaDoor
set_option maxRecDepth 100000
open Go.RowKit

def stuckC (rows:List (List I3)) (m:V4):Int:=if progOk rows && shapeOk m then 0 else 1
theorem both_ok {rows:List (List I3)} {m:V4} (h:(progOk rows && shapeOk m)=true):progOk rows=true∧shapeOk m=true:=by simpa using h

end Go.Proofs.YtojcgajjnmjjpaaDoor
