
/-
  spec.ProgramOK: which programs are right.
-/
import Derived.Test.YtiigmlfcffcfmaaCodeI
import Derived.Test.YtiigmlfcffcfmaaInstrS
namespace Go.Proofs.Ytiigmlfcffcfmaa
open Go.RowKit

end Go.Proofs.Ytiigmlfcffcfmaa
