/-
  Joined: MatP, NrmS.
-/
import Derived.Test.YtifoggpohlegmaaGreatDoorW18
import Derived.Test.YtifoggpohlegmaaGreatDoorW43

namespace Go.Proofs.YtifoggpohlegmaaGreatDoor
set_option maxRecDepth 100000
set_option maxHeartbeats 16000000
set_option linter.unusedVariables false

noncomputable def befB (D:Nat→Nat→Bool) (i k:Nat):Bool:=@decide (Bef D i k) (Classical.propDecidable _)


def evAt (es:List I4) (i:Nat):I4:=es.getD i (0,0,0,0)
def thE (es:List I4) (i:Nat):Nat:=(evAt es i).1.toNat
def depE (es:List I4) (i k:Nat):Bool:=depM (evAt es i) (evAt es k)
end Go.Proofs.YtifoggpohlegmaaGreatDoor
