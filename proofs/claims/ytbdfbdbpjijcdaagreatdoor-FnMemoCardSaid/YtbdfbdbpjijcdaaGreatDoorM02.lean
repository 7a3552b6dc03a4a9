/-
  Joined: InstrI.
-/
import Derived.Shelf.Abstract
import Derived.Test.YtbdfbdbpjijcdaaGreatDoorM01

namespace Go.Proofs.YtbdfbdbpjijcdaaGreatDoor
set_option maxRecDepth 100000
set_option maxHeartbeats 16000000
open Go.RowKit

def okI (x:I3):Bool:=
 if x.1=1 then inB x.2.1 0 1 && inB x.2.2 0 3
 else if x.1=2 then inB x.2.1 0 3 && inB x.2.2 0 1
 else if x.1=3∨x.1=4∨x.1=8 then inB x.2.1 0 1 && inB x.2.2 0 9
 else if x.1=5∨x.1=6 then inB x.2.1 0 1 && inB x.2.2 0 0
 else if x.1=7 then inB x.2.1 0 1 && inB x.2.2 1 6
 else false

theorem op_cases (x:I3):x.1=1∨x.1=2∨x.1=3∨x.1=4∨x.1=5∨x.1=6∨x.1=7∨x.1=8∨(x.1≠1∧x.1≠2∧x.1≠3∧x.1≠4∧x.1≠5∧x.1≠6∧x.1≠7∧x.1≠8):=by omega

end Go.Proofs.YtbdfbdbpjijcdaaGreatDoor
