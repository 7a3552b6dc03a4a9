
/-
  impl.textOfInstr, InstrText on both sides.
-/
import Derived.Test.YtkmnnmgopnoffaaDoorTextS
import Derived.Test.YtkmnnmgopnoffaaDoorTells
namespace Go.Proofs.YtkmnnmgopnoffaaDoor
open Go.RowKit

/-- The program's table of words is there, as its text lays it. -/
def opCells : List Value := opWL.map fun l => Value.string ⟨l.toArray⟩
theorem opCells_at (n : Nat) (hn : n < 9) : opCells[n]? = some (.string (opB n)) := by
  have hl : n < opWL.length := hn
  simp [opCells, opB, List.getElem?_eq_getElem hl]
theorem okI_nats {x : I3} (h : okI x = true) : ∃ k a b : Nat, x = ((k : Int), (a : Int), (b : Int)) ∧ k ≠ 0 ∧ k < 9 ∧ a < 10 ∧ b < 10 := by
  have hs : (1 ≤ x.1 ∧ x.1 ≤ 8) ∧ (0 ≤ x.2.1 ∧ x.2.1 ≤ 9) ∧ (0 ≤ x.2.2 ∧ x.2.2 ≤ 9) := by
    unfold okI at h
    rcases op_cases x with h' | h' | h' | h' | h' | h' | h' | h' | h'
    all_goals first
      | (simp [h'] at h; simp only [inB_true] at h; omega)
      | (obtain ⟨h1, h2, h3, h4, h5, h6, h7, h8⟩ := h'; simp [h1, h2, h3, h4, h5, h6, h7, h8] at h)
  obtain ⟨c, a, b⟩ := x
  simp only [] at hs
  refine ⟨c.toNat, a.toNat, b.toNat, ?_, by omega, by omega, by omega, by omega⟩
  rw [Int.toNat_of_nonneg (by omega), Int.toNat_of_nonneg (by omega), Int.toNat_of_nonneg (by omega)]

end Go.Proofs.YtkmnnmgopnoffaaDoor
