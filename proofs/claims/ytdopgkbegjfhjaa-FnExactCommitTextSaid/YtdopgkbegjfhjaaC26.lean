/-
  Joined: MrkT.
-/
import Derived.Shelf.Abstract
import Derived.Laws.BytesArg
import Derived.Deep.RegionLaw
import Derived.Laws.OwnMore
import Derived.Test.YtdopgkbegjfhjaaC07

namespace Go.Proofs.Ytdopgkbegjfhjaa
set_option maxRecDepth 100000
set_option maxHeartbeats 16000000
open Go.RowKit
set_option linter.unusedVariables false
set_option linter.unusedSimpArgs false

def Mid9 (B T:Nat) (w w':World):Prop:=Below B w w'∧∀ j,T≤j→j<w.heap.size→w'.heap[j]?=w.heap[j]?
theorem Mid9.refl (B T:Nat) (w:World):Mid9 B T w w:=⟨Below.refl _ _,fun _ _ _=>rfl⟩
end Go.Proofs.Ytdopgkbegjfhjaa
