/-
  Joined: Ent2.
-/
import Derived.Shelf.Abstract
import Derived.Laws.BytesArg
import Derived.Deep.RegionLaw
import Derived.Laws.OwnMore
import Derived.Laws.CopyOwn
import Derived.Laws.Tables
import Derived.Test.YtdopgkbegjfhjaaC10
import Derived.Test.YtdopgkbegjfhjaaC21

namespace Go.Proofs.Ytdopgkbegjfhjaa
set_option maxRecDepth 100000
set_option maxHeartbeats 16000000
open Go.RowKit
set_option linter.unusedVariables false
set_option linter.unusedSimpArgs false

def OwnE (w:World) (B:Nat) (vb vf:Value) (e:E3):Prop:=w.ownsRow B 33 3 vb e.2.1.length (flat e.2.1)∧w.ownsRow B 3 1 vf e.2.2.length (e.2.2.map (Value.int .i64))
theorem OwnE.below {w w':World} {B:Nat} {vb vf:Value} {e:E3} (h:OwnE w B vb vf e) (hb:Below w.heap.size w w'):OwnE w' B vb vf e:=⟨owns8 h.1 hb,owns8 h.2 hb⟩
theorem OwnE.lower {w:World} {B B':Nat} {vb vf:Value} {e:E3} (h:OwnE w B vb vf e) (hB:B'≤B):OwnE w B' vb vf e:=⟨lower8 h.1 hB,lower8 h.2 hB⟩
end Go.Proofs.Ytdopgkbegjfhjaa
