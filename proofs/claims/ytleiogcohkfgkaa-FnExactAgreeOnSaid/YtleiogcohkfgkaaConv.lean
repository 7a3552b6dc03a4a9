
/-
  string of a row of bytes of the call's own.
-/
import Derived.Test.YtleiogcohkfgkaaProg
import Derived.Test.YtleiogcohkfgkaaPlain
import Derived.WalkKit
import Derived.WalkSpells
import Derived.WalkLawsBesides
import Derived.Laws.BytesArg
namespace Go.Proofs.Ytleiogcohkfgkaa
open Go.RowKit

theorem info_u8 : (Try.prog.info? 5).map (fun i => (i.zero, i.size, i.bytes)) = some (some (.int .u8 0), 1, 1) := by kernel_rfl
abbrev u8s (xs : List Int) : List Value := xs.map (Value.int .u8)

theorem one_u8 (n : Int) : ∀ u ∈ [Value.int .u8 n], u.oneCell' = true := by intro u hu; simp at hu; subst hu; rfl
end Go.Proofs.Ytleiogcohkfgkaa
