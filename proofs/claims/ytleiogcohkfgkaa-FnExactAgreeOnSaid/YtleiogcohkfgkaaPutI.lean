
/-
  The specification's l08Put: a number put into a list in order, in memory of its own; l08Merge.
-/
import Derived.Test.YtleiogcohkfgkaaKit8
import Derived.Test.YtleiogcohkfgkaaSetP
import Derived.Deep.RegionHeld3
import Derived.Deep.Fields
import Derived.Handy
namespace Go.Proofs.Ytleiogcohkfgkaa
open Go.RowKit
set_option linter.unusedVariables false
set_option linter.unusedSimpArgs false

theorem lone8 {w : World} {G : Nat} {a : Value} (h0 : w.cell? ⟨G, 0, none⟩ = some a) : ∀ j u, [a][j]? = some u → w.cell? ((⟨G, 0, none⟩ : Addr).add j) = some u := by
  intro j u hj
  match j, hj with
  | 0, hj => simp at hj; subst hj; simpa [Addr.add] using h0
  | (j + 1), hj => simp at hj
end Go.Proofs.Ytleiogcohkfgkaa
