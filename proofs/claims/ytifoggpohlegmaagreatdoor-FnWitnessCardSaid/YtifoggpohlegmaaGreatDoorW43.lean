/-
  Joined: Tab, OrdP.
-/
import Derived.Test.YtifoggpohlegmaaGreatDoorProg
import Derived.Deep.RegionHeld3
import Derived.KernelRfl
import Derived.Tactics
import Derived.WalkKit
import Derived.WalkSpells
import Derived.WalkLawsBesides
import Derived.RegionTactic
import Derived.BigQuiet
import Derived.Deep.QuietTactic
import Derived.Deep.Slices
import Derived.Deep.Strs
import Derived.Deep.Fields
import Derived.ChangeSame
import Derived.ChangeSlices
import Derived.Lib.SmallJoins
import Derived.Handy
import Derived.OwnWalk
import Derived.Shelf.Abstract
import Derived.Laws.BytesArg
import Derived.Deep.RegionLaw
import Derived.Laws.OwnMore
import Derived.Laws.CopyOwn
import Derived.Laws.Tables
import Derived.IntWalk

namespace Go.Proofs.YtifoggpohlegmaaGreatDoor
set_option maxRecDepth 100000
set_option maxHeartbeats 16000000
open Go.RowKit
set_option linter.unusedVariables false

def tab (n:Nat) (f:Nat→Value):List Value:=(List.range n).map f
def tab2 (n:Nat) (F:Nat→Nat→Bool):List Value:=tab (n*n) fun j=>.bool (F (j / n) (j % n))


inductive Bef (D:Nat→Nat→Bool):Nat→Nat→Prop
 | one {i k:Nat}:i<k→D i k=true→Bef D i k
 | more {i j k:Nat}:Bef D i j→j<k→D j k=true→Bef D i k
theorem Bef.trans {D:Nat→Nat→Bool} {i j k:Nat} (h:Bef D i j) (g:Bef D j k):Bef D i k:=by
 induction g with
 | one h1 h2=>exact .more h h1 h2
 | more _ h1 h2 ih=>exact .more ih h1 h2
end Go.Proofs.YtifoggpohlegmaaGreatDoor
