/-
  Joined: MachP.
-/
import Derived.BigRegion
import Derived.Laws.CopyOwn
import Derived.Laws.Tables
import Derived.Test.YtbdfbdbpjijcdaaGreatDoorM04

namespace Go.Proofs.YtbdfbdbpjijcdaaGreatDoor
set_option maxRecDepth 100000
set_option maxHeartbeats 16000000
open Go.RowKit
set_option linter.unusedVariables false
set_option linter.unusedSimpArgs false

def LenOk (m:V4):Prop:=m.1.length=3∧m.2.1.length=4∧m.2.2.1.length=2∧m.2.2.2.length=6
theorem LenOk.of {m:V4} (h:shapeOk m=true):LenOk m:=by
 obtain ⟨a,b,c,d,_⟩:=shape_parts h
 exact ⟨a,b,c,d⟩
section
variable (c0 c1 c2 : Value) (m : V4) (h : LenOk m)
include h
end
end Go.Proofs.YtbdfbdbpjijcdaaGreatDoor
