
/-
  merged at integers: all numbers of some rows, rising, each once: the library's contracts of maps.Keys, slices.Sorted and slices.Sort laid at this program in plain words; the walk.
-/
import Derived.Shelf.SlIterI.Nil
import Derived.Shelf.SortM.Plain
import Derived.Shelf.SortM.SortNone
import Derived.Test.YtleiogcohkfgkaaMapI
import Derived.Test.YtleiogcohkfgkaaSetP
import Derived.Test.YtleiogcohkfgkaaKit8
namespace Go.Proofs.Ytleiogcohkfgkaa
open Go.RowKit Go.Maps Go.Sort Go.Shelf
set_option linter.unusedVariables false
set_option linter.unusedSimpArgs false

theorem keys_set {w : World} {b nn : Nat} {D : DataW Unit} {xs ss : List Int} (hown : w.ownsMap Try.prog 3 (plainElem Try.prog 3) b nn D) (hS : SetD D xs) (hp : ss.Perm (intKeys D)) : ss.mergeSort (fun x y => decide (x ≤ y)) = mrgI xs := by
  obtain ⟨es, hD, hpw, _⟩ := hown.entries law_int8
  obtain ⟨es', hD', hko⟩ := hown.keysOf
  obtain rfl : es = es' := by rw [hD] at hD'; simpa using hD'
  subst hD
  have hp2 : (mrgI xs).Perm (intKeys (.map es)) := perm_intKeys hpw (fun p hp => by obtain ⟨v, hv⟩ := hko p hp; obtain ⟨x, _, hx, _⟩ := Maps.keyOf_i64 Try.underlying3 hv; exact ⟨x, hx⟩) (rises_nodup (mrgI_rises xs)) (fun x => by rw [mrgI_mem, hS.has])
  have hp3 : (ss.mergeSort (fun x y => decide (x ≤ y))).Perm (mrgI xs) := (List.mergeSort_perm _ _).trans (hp.trans hp2.symm)
  have tr : ∀ a b c : Int, decide (a ≤ b) = true → decide (b ≤ c) = true → decide (a ≤ c) = true := fun a b c h1 h2 => by simp only [decide_eq_true_eq] at *; exact Int.le_trans h1 h2
  have to : ∀ a b : Int, (decide (a ≤ b) || decide (b ≤ a)) = true := fun a b => by simp only [Bool.or_eq_true, decide_eq_true_eq]; exact Int.le_total a b
  refine hp3.eq_of_pairwise (le := fun a b => a ≤ b) (fun a b _ _ h1 h2 => Int.le_antisymm h1 h2) ?_ ((mrgI_rises xs).imp (fun h => Int.le_of_lt h))
  have := List.pairwise_mergeSort tr to ss
  exact this.imp (fun h => by simpa using h)
end Go.Proofs.Ytleiogcohkfgkaa
