
/-
  l01In: a number in its bounds.
-/
import Derived.Test.YtiigmlfcffcfmaaProg
import Derived.WalkKit
import Derived.WalkSpells
import Derived.WalkLawsBesides
namespace Go.Proofs.Ytiigmlfcffcfmaa
open Go.RowKit

end Go.Proofs.Ytiigmlfcffcfmaa
