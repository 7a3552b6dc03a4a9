
/-
  FnExactNewVm: the walk over what both answer.
-/
import Derived.Test.YtiigmlfcffcfmaaNewVmWalk
import Derived.Test.YtiigmlfcffcfmaaNewVmI
import Derived.Test.YtiigmlfcffcfmaaNewVmS
namespace Go.Proofs.Ytiigmlfcffcfmaa
open Go.RowKit

theorem fnExactNewVm_walk (w : World) :
    Calls Try.prog 3 #[] w fun e w' => e = .returned (.bool true) ∧ Below w.heap.size w w' :=
  fnExactNewVm_of zeroV ⟨by decide, by decide, by decide, by decide⟩ ⟨by decide, by decide, by decide, by decide⟩ w specNewVm_is implNewVm_is
end Go.Proofs.Ytiigmlfcffcfmaa
