
/-
  What the specification draws: a text of n letters, a list of at most seven numbers in their bounds, and the law's own choice 'at'.
-/
import Derived.Test.YtleiogcohkfgkaaSrc2
import Derived.Test.YtleiogcohkfgkaaNum
namespace Go.Proofs.Ytleiogcohkfgkaa
open Go.RowKit

theorem owns_went {p base e size n : Nat} {v : Value} {xs : List Value} {w w' : World} (h : w.ownsRow base e size v n xs) (hw : Went p w w') (hp : p < base) : w'.ownsRow base e size v n xs :=
  h.kept hw (by
    rcases hv : v.ownBlock with _ | g
    · exact .inl rfl
    · right
      have := (h.lt g hv).1
      intro e
      cases e
      omega)

end Go.Proofs.Ytleiogcohkfgkaa
