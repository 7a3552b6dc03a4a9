/-
  Joined: MgiI.
-/
import Derived.Maps.AppendAt
import Derived.Lib.Hide
import Derived.Maps.OwnSet
import Derived.Maps.OwnOps
import Derived.Maps.Own
import Derived.Shelf.SlIterI.Nil
import Derived.Shelf.SortM.Plain
import Derived.Shelf.SortM.SortNone
import Derived.Test.YthmgampabhbpoaaDoorA24

namespace Go.Proofs.YthmgampabhbpoaaDoor
set_option maxRecDepth 100000
set_option maxHeartbeats 16000000
open Go.RowKit
set_option linter.unusedVariables false
set_option linter.unusedSimpArgs false

def allIt (xs:List Int):Bool:=xs.all itOk
def wfs (xs:List Int):Prop:=∀ x ∈ xs,(Lit.int .i64 x).wf=true
theorem allIt_drop {xs:List Int} {k:Nat} (h:k<xs.length):allIt (xs.drop k)=(itOk (xs.getD k 0) && allIt (xs.drop (k+1))):=by
 unfold allIt
 rw [List.drop_eq_getElem_cons h,List.all_cons]
 simp [List.getD,List.getElem?_eq_getElem h]
end Go.Proofs.YthmgampabhbpoaaDoor
