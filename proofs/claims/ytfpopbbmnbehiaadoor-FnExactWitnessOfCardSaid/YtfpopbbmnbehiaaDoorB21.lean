/-
  Joined: NorS, Src.
-/
import Derived.Shelf.Abstract
import Derived.Laws.BytesArg
import Derived.Deep.RegionLaw
import Derived.Laws.OwnMore
import Derived.Laws.CopyOwn
import Derived.Laws.Tables
import Derived.BigRegion
import Derived.Maps.AppendAt
import Derived.Deep.Cut
import Derived.IntWalk
import Derived.Test.YtfpopbbmnbehiaaDoorB02

namespace Go.Proofs.YtfpopbbmnbehiaaDoor
set_option maxRecDepth 100000
set_option maxHeartbeats 16000000
open Go.RowKit
set_option linter.unusedVariables false
set_option linter.unusedSimpArgs false

theorem owns_sliceN {w:World} {B e s n:Nat} {v:Value} {xs:List Value} (h:w.ownsRow B e s v n xs):∃ a cap,v=.slice a n cap:=by
 rcases h.2 with ⟨rfl,rfl⟩ | ⟨g,cap,cur,rfl,_⟩
 ·exact ⟨_,_,rfl⟩
 ·exact ⟨_,_,rfl⟩


def Code (w:World) (p:Nat) (a:Option Addr) (n cap:Nat):Prop:=∃ zs:List Int,Ints .u8 w a n cap zs∧(∀ z ∈ zs,0≤z∧z≤255)∧n≤1048576∧∀ x,a=some x→n≠0→x.block<p

end Go.Proofs.YtfpopbbmnbehiaaDoor
