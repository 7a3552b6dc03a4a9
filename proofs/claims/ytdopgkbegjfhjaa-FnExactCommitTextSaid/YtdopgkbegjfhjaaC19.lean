/-
  Joined: EntP.
-/
import Derived.Lib.Hide
import Derived.Laws.Strings
import Derived.OwnWalk
import Derived.Shelf.Abstract
import Derived.Laws.BytesArg
import Derived.Deep.RegionLaw
import Derived.Laws.OwnMore
import Derived.BigRegion
import Derived.Laws.CopyOwn
import Derived.Laws.Tables
import Derived.Test.YtdopgkbegjfhjaaC05
import Derived.Test.YtdopgkbegjfhjaaC11

namespace Go.Proofs.Ytdopgkbegjfhjaa
set_option maxRecDepth 100000
set_option maxHeartbeats 16000000
open Go.RowKit
set_option linter.unusedVariables false
set_option linter.unusedSimpArgs false

theorem allR_false {f:Nat→Bool} {n k:Nat} (hk:k<n) (h:f k=false):(List.range n).all f=false:=by
 rw [List.all_eq_false]
 exact ⟨k,List.mem_range.2 hk,by rw [h];simp⟩
theorem allR_true {f:Nat→Bool} {n:Nat} (h:∀ k,k<n→f k=true):(List.range n).all f=true:=by
 rw [List.all_eq_true]
 exact fun k hk=>h k (List.mem_range.1 hk)
def bStep (xs:List I3) (i:Nat):Bool:=okB (xs.getD i (0,0,0)) && (decide (i=0) || ltB (xs.getD (i - 1) (0,0,0)) (xs.getD i (0,0,0)))
def riseB (xs:List I3):Bool:=(List.range xs.length).all (bStep xs)
end Go.Proofs.Ytdopgkbegjfhjaa
