
/-
  spec.l02Text: an instruction's text.
-/
import Derived.Test.YtkmnnmgopnoffaaDoorDigits
import Derived.Test.YtkmnnmgopnoffaaDoorProg4
import Derived.BigQuiet
import Derived.Deep.QuietTactic
import Derived.Deep.RegionHeld3
namespace Go.Proofs.YtkmnnmgopnoffaaDoor
open Go.RowKit

def opWL : List (List UInt8) := [[], [108, 111, 97, 100], [115, 116, 111, 114, 101], [115, 101, 116], [97, 100, 100], [108, 111, 99, 107], [117, 110, 108, 111, 99, 107], [106, 117, 109, 112], [97, 115, 115, 101, 114, 116]]
/-- An instruction's word. -/
def opB (k : Nat) : ByteArray := ⟨(opWL.getD k []).toArray⟩

theorem bel_drewN' (w : World) (n : Nat) : Below w.heap.size w (w.drewN n) := ⟨rfl, rfl, rfl, Nat.le_refl _, fun _ _ => rfl⟩

theorem opB_size (k : Nat) : (opB k).size ≤ 6 := by
  match k with
  | 0 => decide
  | 1 => decide
  | 2 => decide
  | 3 => decide
  | 4 => decide
  | 5 => decide
  | 6 => decide
  | 7 => decide
  | 8 => decide
  | (k + 9) =>
    have : opWL.getD (k + 9) [] = [] := by simp [opWL]
    unfold opB
    rw [this]
    decide
theorem digT_size (a : Nat) : (digT a).size = 1 := rfl

/-- The text of an instruction that tells one number. -/
def txt1 (k a : Nat) : ByteArray := (opB k ++ ⟨#[32]⟩) ++ digT a

/-- .. that tells two. -/
def txt2 (k a b : Nat) : ByteArray := (txt1 k a ++ ⟨#[32]⟩) ++ digT b

end Go.Proofs.YtkmnnmgopnoffaaDoor
