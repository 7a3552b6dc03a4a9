/-
  Joined: Marks.
-/
import Derived.Test.YtmhngodbnoonhaaDoorProg
import Derived.Deep.RegionHeld3
import Derived.KernelRfl
import Derived.Tactics
import Derived.WalkKit
import Derived.WalkSpells
import Derived.WalkLawsBesides
import Derived.RegionTactic
import Derived.BigQuiet
import Derived.Deep.QuietTactic

/-
  The laws' helpers that mark a slice of integers and look whether the marks are held: markIntS writes k, k + 1, ... into a slice of the call's own; heldIntS finds them.
-/
namespace Go.Proofs.YtmhngodbnoonhaaDoor
open Go.RowKit

def mkTo : Int → List Int → Nat → List Int
  | _, xs, 0 => xs
  | _, [], _ + 1 => []
  | k, _ :: xs, j + 1 => k :: mkTo (k + 1) xs j
theorem mkTo_len : ∀ (k : Int) (xs : List Int) (j : Nat), (mkTo k xs j).length = xs.length
  | _, xs, 0 => by simp [mkTo]
  | _, [], _ + 1 => by simp [mkTo]
  | k, _ :: xs, j + 1 => by simp [mkTo, mkTo_len]
theorem mkTo_set : ∀ (k : Int) (xs : List Int) (j : Nat), j < xs.length → (mkTo k xs j).set j (k + j) = mkTo k xs (j + 1)
  | _, [], j, h => by simp at h
  | k, x :: xs, 0, _ => by simp [mkTo]
  | k, x :: xs, j + 1, h => by
    have ih := mkTo_set (k + 1) xs j (by simpa using h)
    have e : k + ((j + 1 : Nat) : Int) = k + 1 + (j : Int) := by omega
    rw [e]
    simp only [mkTo, List.set_cons_succ, ih]
end Go.Proofs.YtmhngodbnoonhaaDoor

