
/-
  Operands: what each kind of an instruction's number may be (impl's methods right), and how an operand's method is found.
-/
import Derived.Test.YtkmnnmgopnoffaaProg1
namespace Go.Proofs.Ytkmnnmgopnoffaa
open Go.RowKit

/-- A number from a to b. -/
def inB (n a b : Int) : Bool := decide (a ≤ n ∧ n ≤ b)

theorem inB_true {n a b : Int} : inB n a b = true ↔ a ≤ n ∧ n ≤ b := by simp [inB]
theorem inB_false {n a b : Int} : inB n a b = false ↔ ¬ (a ≤ n ∧ n ≤ b) := by simp only [inB, decide_eq_false_iff_not]


end Go.Proofs.Ytkmnnmgopnoffaa
