/-
  Joined: RpB.
-/
import Derived.Shelf.Abstract
import Derived.Laws.BytesArg
import Derived.Deep.RegionLaw
import Derived.Laws.OwnMore
import Derived.BigRegion
import Derived.Laws.CopyOwn
import Derived.Laws.Tables
import Derived.Maps.AppendAt
import Derived.Stop.Asserts
import Derived.Test.YtdojjmkpelgcaaaDoorX02

namespace Go.Proofs.YtdojjmkpelgcaaaDoor
set_option maxRecDepth 100000
open Go.RowKit
set_option linter.unusedVariables false
set_option linter.unusedSimpArgs false

def RunKept (w w' : World) : Prop := ∀ (j : Nat) (cur : Array Value) (e : TypeId) (fz : Nat × Nat), w.heap[j]? = some (Obj.cells cur e fz) → e ≠ 167 → e ≠ 133 → w'.heap[j]? = some (Obj.cells cur e fz)
theorem RunKept.refl (w : World) : RunKept w w := fun _ _ _ _ h _ _ => h
theorem RunKept.trans {a b c : World} (h : RunKept a b) (k : RunKept b c) : RunKept a c := fun j cur e fz h0 he h9 => k j cur e fz (h j cur e fz h0 he h9) he h9
end Go.Proofs.YtdojjmkpelgcaaaDoor
