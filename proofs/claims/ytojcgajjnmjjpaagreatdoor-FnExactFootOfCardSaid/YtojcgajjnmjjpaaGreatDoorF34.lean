/-
  Joined: Ev0.
-/
import Derived.Test.YtojcgajjnmjjpaaGreatDoorProg
import Derived.Deep.RegionHeld3
import Derived.KernelRfl
import Derived.Tactics
import Derived.WalkKit
import Derived.WalkSpells
import Derived.WalkLawsBesides
import Derived.RegionTactic
import Derived.BigQuiet
import Derived.Deep.QuietTactic
import Derived.Deep.Slices
import Derived.Deep.Strs
import Derived.Deep.Fields
import Derived.ChangeSame
import Derived.ChangeSlices
import Derived.Lib.SmallJoins
import Derived.Handy

namespace Go.Proofs.YtojcgajjnmjjpaaGreatDoor
set_option maxRecDepth 100000
open Go.RowKit Go.ChangeShapes Go.WideShapes Go.Joins
set_option linter.unusedVariables false
set_option linter.unusedSimpArgs false

abbrev I4:=Int × Int × Int × Int
def I4.val (x:I4):Value:=.agg #[.int .i64 x.1,.int .i64 x.2.1,.int .i64 x.2.2.1,.int .i64 x.2.2.2]

def depM (a b:I4):Bool:=decide (a.1=b.1) || (decide (0≤a.2.2.2) && decide (a.2.2.2=b.2.2.2) && !(decide (a.2.2.1=1) && decide (b.2.2.1=1)))

end Go.Proofs.YtojcgajjnmjjpaaGreatDoor
