
/-
  The marks of a program in memory of its own are found (heldInstrS, heldInstrSS, heldProgram).
-/
import Derived.Test.YtkmnnmgopnoffaaMarkP
import Derived.Test.YtkmnnmgopnoffaaProg4
namespace Go.Proofs.Ytkmnnmgopnoffaa
open Go.RowKit

theorem flat_at {xs : List I3} {t : Nat} (ht : t < xs.length) : (flat xs)[t * 3]? = some (.int .i64 (xs.getD t (0, 0, 0)).1) ∧ (flat xs)[t * 3 + 1]? = some (.int .i64 (xs.getD t (0, 0, 0)).2.1) ∧ (flat xs)[t * 3 + 2]? = some (.int .i64 (xs.getD t (0, 0, 0)).2.2) := by
  have hsplit : flat xs = flat (xs.take t) ++ ((xs.getD t (0, 0, 0)).cells ++ flat (xs.drop (t + 1))) := by
    rw [← List.append_assoc, ← flat_take_succ ht]
    unfold flat
    rw [← List.flatMap_append, List.take_append_drop]
  have hlt : (flat (xs.take t)).length = t * 3 := by rw [flat_length, List.length_take]; rw [Nat.min_eq_left (by omega)]
  have h : ∀ j, j < 3 → (flat xs)[t * 3 + j]? = ((xs.getD t (0, 0, 0)).cells)[j]? := fun j hj => by
    rw [hsplit, List.getElem?_append_right (by omega), hlt, Nat.add_sub_cancel_left, List.getElem?_append_left (by simp [I3.cells]; omega)]
  exact ⟨by simpa [I3.cells] using h 0 (by omega), by simpa [I3.cells] using h 1 (by omega), by simpa [I3.cells] using h 2 (by omega)⟩

end Go.Proofs.Ytkmnnmgopnoffaa
