
/-
  The bytes of a number: the program's appendNumber and the specification's l01Number lay the same bytes ('pack'), by contracts.
-/
import Derived.Test.YtkfaodbkgahgbaaConv
import Derived.Test.YtkfaodbkgahgbaaProg
import Derived.Test.YtkfaodbkgahgbaaPlain
import Derived.WalkKit
import Derived.WalkSpells
import Derived.WalkLawsBesides
import Derived.Laws.BytesArg
namespace Go.Proofs.Ytkfaodbkgahgbaa
open Go.RowKit

end Go.Proofs.Ytkfaodbkgahgbaa
