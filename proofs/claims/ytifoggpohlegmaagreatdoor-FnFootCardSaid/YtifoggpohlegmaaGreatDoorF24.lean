/-
  Joined: RunQ, Ev0.
-/
import Derived.Test.YtifoggpohlegmaaGreatDoorF23

namespace Go.Proofs.YtifoggpohlegmaaGreatDoor
set_option maxRecDepth 100000
set_option maxHeartbeats 16000000
open Go.RowKit
set_option linter.unusedVariables false

theorem goM_shape {rows:List (List I3)} {m:V4} {k:Int} (hp:progOk rows=true) (hs:shapeOk m=true) (hz:haltM rows m k=0):shapeOk (goM rows m k).1=true:=by
 obtain ⟨h0,h2,hd,hc⟩:=halt_can hz
 exact shape_step hp hs (by omega) hd

open Go.RowKit Go.ChangeShapes Go.WideShapes Go.Joins
set_option linter.unusedSimpArgs false

abbrev I4:=Int × Int × Int × Int
def I4.val (x:I4):Value:=.agg #[.int .i64 x.1,.int .i64 x.2.1,.int .i64 x.2.2.1,.int .i64 x.2.2.2]

def depM (a b:I4):Bool:=decide (a.1=b.1) || (decide (0≤a.2.2.2) && decide (a.2.2.2=b.2.2.2) && !(decide (a.2.2.1=1) && decide (b.2.2.1=1)))

end Go.Proofs.YtifoggpohlegmaaGreatDoor
