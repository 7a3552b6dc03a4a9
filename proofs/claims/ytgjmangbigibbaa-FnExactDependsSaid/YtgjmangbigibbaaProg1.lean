
/-
  Instructions: copied and compared (laws' toInstr, eqInstr), their count (szInstrS, szInstrSS, szProgram).
-/
import Derived.Test.YtgjmangbigibbaaProg0
import Derived.Handy
namespace Go.Proofs.Ytgjmangbigibbaa
open Go.RowKit

/-- What is left when n is taken from 'left': -1 if that is below 0. -/
def less (left n : Int) : Int := if left - n < 0 then -1 else left - n

/-- What is left behind all rows. -/
def lessAll (left : Int) : List (List I3) → Int
  | [] => left
  | r :: rs => if left < r.length then -1 else lessAll (left - r.length) rs

theorem lessAll_neg_or : ∀ (rows : List (List I3)) (left : Int), 0 ≤ left → lessAll left rows = -1 ∨ (0 ≤ lessAll left rows ∧ lessAll left rows ≤ left)
  | [], left, h => .inr ⟨h, Int.le_refl _⟩
  | r :: rs, left, h => by
    unfold lessAll
    split
    · exact .inl rfl
    · rcases lessAll_neg_or rs (left - r.length) (by omega) with h' | ⟨h1, h2⟩
      · exact .inl h'
      · exact .inr ⟨h1, by omega⟩

theorem lessAll_step {rows : List (List I3)} {k : Nat} {l : Int} (hk : k < rows.length) : lessAll l (rows.drop k) = if l < (rows.getD k []).length then -1 else lessAll (l - (rows.getD k []).length) (rows.drop (k + 1)) := by
  rw [List.drop_eq_getElem_cons hk]
  show (if l < (rows[k]).length then -1 else lessAll (l - (rows[k]).length) (rows.drop (k + 1))) = _
  simp [List.getD, hk]

/-- What is left behind a program: its rows, and what is in them. -/
def sizeLeft (left : Int) (rows : List (List I3)) : Int := if left < rows.length then -1 else lessAll (left - rows.length) rows

theorem sizeLeft_or (rows : List (List I3)) (left : Int) (_h : 0 ≤ left) : sizeLeft left rows = -1 ∨ (0 ≤ sizeLeft left rows ∧ sizeLeft left rows ≤ left) := by
  unfold sizeLeft
  split
  · exact .inl rfl
  · rcases lessAll_neg_or rows (left - rows.length) (by omega) with h' | h'
    · exact .inl h'
    · exact .inr ⟨h'.1, by omega⟩

end Go.Proofs.Ytgjmangbigibbaa
