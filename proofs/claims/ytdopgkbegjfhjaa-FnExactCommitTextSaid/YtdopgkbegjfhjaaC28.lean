/-
  Joined: RwL9.
-/
import Derived.Test.YtdopgkbegjfhjaaC17
import Derived.Test.YtdopgkbegjfhjaaC21

namespace Go.Proofs.Ytdopgkbegjfhjaa
set_option maxRecDepth 100000
set_option maxHeartbeats 16000000
open Go.RowKit
set_option linter.unusedVariables false

def OwnL9 (w:World) (B:Nat) (v:Value) (z:List Int):Prop:=w.ownsRow B 3 1 v z.length (z.map (Value.int .i64))
def HeldL9 (w:World) (B:Nat) (v:Value) (z:List Int):Prop:=w.ownsRow B 3 1 v z.length ((mkTo 1 z z.length).map (Value.int .i64))
theorem OwnL9.below {w w':World} {B:Nat} {v:Value} {z:List Int} (h:OwnL9 w B v z) (hb:Below w.heap.size w w'):OwnL9 w' B v z:=owns8 h hb
theorem HeldL9.below {w w':World} {B:Nat} {v:Value} {z:List Int} (h:HeldL9 w B v z) (hb:Below w.heap.size w w'):HeldL9 w' B v z:=owns8 h hb
end Go.Proofs.Ytdopgkbegjfhjaa
