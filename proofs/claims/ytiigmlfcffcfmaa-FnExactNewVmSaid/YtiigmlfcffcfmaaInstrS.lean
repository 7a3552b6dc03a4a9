
/-
  spec.InstrOK: which instructions are right.
-/
import Derived.Test.YtiigmlfcffcfmaaInstrI
import Derived.Test.YtiigmlfcffcfmaaInOK
namespace Go.Proofs.Ytiigmlfcffcfmaa
open Go.RowKit

end Go.Proofs.Ytiigmlfcffcfmaa
