
/-
  FnExactMergeItems: both merge alike; no argument is changed, and the answer owns its memory.
-/
import Derived.Test.YtleiogcohkfgkaaMgiJ
import Derived.Test.YtleiogcohkfgkaaMk8
namespace Go.Proofs.Ytleiogcohkfgkaa
open Go.RowKit
set_option linter.unusedVariables false
set_option linter.unusedSimpArgs false

theorem isRow_wfs {w : World} {a : Option Addr} {n c : Nat} {zs : List Int} (h : IsRow .i64 w a n c zs) : wfs (zs.take n) := by
  rcases h with ⟨rfl, rfl, rfl, rfl⟩ | ⟨x, _, _, _, _, _, h⟩
  · intro x hx
    simp at hx
  · exact fun x hx => h x (List.mem_of_mem_take hx)
end Go.Proofs.Ytleiogcohkfgkaa
