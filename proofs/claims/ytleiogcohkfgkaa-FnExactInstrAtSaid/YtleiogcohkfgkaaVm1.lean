
/-
  szVm, eqVm: how much a state holds; a state and its like are alike.
-/
import Derived.Test.YtleiogcohkfgkaaVm0
import Derived.Test.YtleiogcohkfgkaaEqInts
import Derived.Test.YtleiogcohkfgkaaProg4
namespace Go.Proofs.Ytleiogcohkfgkaa
open Go.RowKit

/-- What szVm tells: more than is left, or what is left then; each slice is no longer than that was. -/
def SzV (s : S4) (left r : Int) : Prop := r = -1 ∨ (0 ≤ r ∧ r ≤ left ∧ (s.1.2.1 : Int) ≤ left ∧ (s.2.1.2.1 : Int) ≤ left ∧ (s.2.2.1.2.1 : Int) ≤ left ∧ (s.2.2.2.2.1 : Int) ≤ left)

end Go.Proofs.Ytleiogcohkfgkaa
