
/-
  The numbers that the specification draws: at most seven, each from 0 to 999999999; and the law's own choice 'at': a number below n.
-/
import Derived.Test.YtojcgajjnmjjpaaDrawn
namespace Go.Proofs.Ytojcgajjnmjjpaa
open Go.RowKit

theorem one_i64' (n : Int) : ∀ u ∈ [Value.int .i64 n], u.oneCell' = true := by intro u hu; simp at hu; subst hu; rfl

end Go.Proofs.Ytojcgajjnmjjpaa
