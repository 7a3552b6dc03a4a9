
/-
  The specification's source of choices: byte hands a number from 0 to 255 and goes one place on; nothing but the source's own struct turns.
-/
import Derived.Test.YtleiogcohkfgkaaInts0
import Derived.BigRegion
namespace Go.Proofs.Ytleiogcohkfgkaa
open Go.RowKit

/-- The code's bytes lie below the source. -/
def Code (w : World) (p : Nat) (a : Option Addr) (n cap : Nat) : Prop := ∃ zs : List Int, Ints .u8 w a n cap zs ∧ (∀ z ∈ zs, 0 ≤ z ∧ z ≤ 255) ∧ n ≤ 1048576 ∧ ∀ x, a = some x → n ≠ 0 → x.block < p

theorem src_cells {w : World} {p : Nat} {c x y : Value} {t : TypeId} (h : w.heap[p]? = some (.cells #[c, x, y] t (0, 0))) :
    w.cell? ⟨p, 0, none⟩ = some c ∧ w.cell? ⟨p, 1, none⟩ = some x ∧ w.cell? ⟨p, 2, none⟩ = some y ∧ w.frozen? ⟨p, 1, none⟩ = false ∧ w.frozen? ⟨p, 2, none⟩ = false :=
  ⟨by rw [cell_of_row w p 0 _ _ _ h]; rfl, by rw [cell_of_row w p 1 _ _ _ h]; rfl, by rw [cell_of_row w p 2 _ _ _ h]; rfl, frozen_of_row w p 1 _ _ h, frozen_of_row w p 2 _ _ h⟩

/-- What a step of the source leaves: nothing below it has turned, no block is new. -/
def Stepped (p : Nat) (w w' : World) : Prop := Below p w w' ∧ w'.heap.size = w.heap.size ∧ ∀ k, k ≠ p → w'.heap[k]? = w.heap[k]?

end Go.Proofs.Ytleiogcohkfgkaa
