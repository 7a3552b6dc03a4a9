
/-
  The specification's VmOK: l03All, l03Shape, and a program that is right.
-/
import Derived.Test.YtleiogcohkfgkaaVm2
import Derived.Test.YtleiogcohkfgkaaInOK
import Derived.Test.YtleiogcohkfgkaaCodeS
namespace Go.Proofs.Ytleiogcohkfgkaa
open Go.RowKit

/-- n numbers, each from 0 to high. -/
def allIn (zs : List Int) (n high : Int) : Bool := zs.all (fun z => decide (0 ≤ z ∧ z ≤ high)) && decide ((zs.length : Int) = n)
/-- A state that has its shape. -/
def shapeOk (m : V4) : Bool := allIn m.1 3 6 && (allIn m.2.1 4 9 && (allIn m.2.2.1 2 3 && allIn m.2.2.2 6 9))
theorem allIn_no {zs : List Int} {n high : Int} {k : Nat} (hk : k < zs.length) (h : ¬ (0 ≤ zs.getD k 0 ∧ zs.getD k 0 ≤ high)) : allIn zs n high = false := by
  unfold allIn
  have : zs.all (fun z => decide (0 ≤ z ∧ z ≤ high)) = false := by
    rw [List.all_eq_false]
    refine ⟨zs.getD k 0, by simp [List.getD, hk], ?_⟩
    simpa using h
  rw [this]; rfl
theorem allIn_end {zs : List Int} {n high : Int} (h : ∀ i, i < zs.length → 0 ≤ zs.getD i 0 ∧ zs.getD i 0 ≤ high) : allIn zs n high = decide ((zs.length : Int) = n) := by
  unfold allIn
  have : zs.all (fun z => decide (0 ≤ z ∧ z ≤ high)) = true := by
    rw [List.all_eq_true]
    intro z hz
    obtain ⟨i, hi, rfl⟩ := List.getElem_of_mem hz
    have := h i hi
    simpa [List.getD, hi] using this
  rw [this]; rfl

end Go.Proofs.Ytleiogcohkfgkaa
