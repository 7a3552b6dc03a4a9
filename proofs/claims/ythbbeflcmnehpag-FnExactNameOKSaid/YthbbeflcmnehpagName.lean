/-
  A text is found to be a name by the program just where the specification finds it one: the letters and digits, both loops (over bytes; over runes), by contracts on each function.
-/
import Derived.Test.YthbbeflcmnehpagProg
import Derived.WalkKit
import Derived.WalkSpells
import Derived.WalkLawsBesides
import Derived.Laws.RangeString
import Derived.Laws.RangeAny
import Derived.Laws.Runes
import Derived.LoopTactic
namespace Go.Proofs.Ythbbeflcmnehpag
open Go.RowKit

/-- The call answers a bool, and it is true just if P. -/
def Ans (e : Ending) (P : Prop) : Prop := ∃ b, e = .returned (.bool b) ∧ (b = true ↔ P)
theorem ans_mk {b : Bool} {P : Prop} (h : b = true ↔ P) : Ans (.returned (.bool b)) P := ⟨b, rfl, h⟩

def isLet (n : Int) : Prop := (97 ≤ n ∧ n ≤ 122) ∨ (65 ≤ n ∧ n ≤ 90) ∨ n = 95
def isDig (n : Int) : Prop := 48 ≤ n ∧ n ≤ 57
/-- A byte that may stand at place i of a name. -/
def fits (i : Nat) (n : Int) : Prop := isLet n ∨ (0 < i ∧ isDig n)
def isName (s : ByteArray) : Prop := 0 < s.size ∧ s.size ≤ 40 ∧ ∀ i (h : i < s.size), fits i (s[i]'h).toNat

theorem isLetter_any (n : Int) (w : World) :
    Calls Try.prog 15 #[.int .i32 n] w fun e w' => Ans e (isLet n) ∧ w' = w := by
  go_enter Try.func15, Try.ntmps15
  go_wp2
  all_goals (go_ret; refine ⟨ans_mk ?_, rfl⟩; unfold isLet; simp; try omega)

theorem isDigit_any (n : Int) (w : World) :
    Calls Try.prog 16 #[.int .i32 n] w fun e w' => Ans e (isDig n) ∧ w' = w := by
  go_enter Try.func16, Try.ntmps16
  go_wp2
  all_goals (go_ret; refine ⟨ans_mk ?_, rfl⟩; unfold isDig; simp; try omega)

theorem l00Letter_any (n : Int) (w : World) :
    Calls Try.prog 22 #[.int .u8 n] w fun e w' => Ans e (isLet n) ∧ w' = w := by
  go_enter Try.func22, Try.ntmps22
  go_wp2
  all_goals (go_ret; refine ⟨ans_mk ?_, rfl⟩; unfold isLet; simp; try omega)

theorem l00Digit_any (n : Int) (w : World) :
    Calls Try.prog 23 #[.int .u8 n] w fun e w' => Ans e (isDig n) ∧ w' = w := by
  go_enter Try.func23, Try.ntmps23
  go_wp2
  all_goals (go_ret; refine ⟨ans_mk ?_, rfl⟩; unfold isDig; simp; try omega)
end Go.Proofs.Ythbbeflcmnehpag
