/-
  numberOK: a number from 0 to 999999999.
-/
import Derived.Test.YtiokkoaalakakaaDoorProg
import Derived.WalkKit
import Derived.WalkSpells
import Derived.WalkLawsBesides
namespace Go.Proofs.YtiokkoaalakakaaDoor
open Go.RowKit

theorem numberOK_yes (n : Int) (w : World) (h : 0 ≤ n ∧ n ≤ 999999999) : Calls Tryd.prog 83 #[.int .i64 n] w fun e w' => e = .returned (.bool true) ∧ w = w' := by
  obtain ⟨h1, h2⟩ := h
  go_enter Tryd.func83, Tryd.ntmps83
  go_wp2
  go_ret
  exact ⟨rfl, rfl⟩
theorem numberOK_no (n : Int) (w : World) (h : ¬ (0 ≤ n ∧ n ≤ 999999999)) : Calls Tryd.prog 83 #[.int .i64 n] w fun e w' => e = .returned (.bool false) ∧ w = w' := by
  by_cases h1 : 0 ≤ n
  · have h2 : decide (n ≤ 999999999) = false := by simp; omega
    clear h
    go_enter Tryd.func83, Tryd.ntmps83
    go_wp2
    go_ret
    exact ⟨rfl, rfl⟩
  · clear h
    go_enter Tryd.func83, Tryd.ntmps83
    go_wp2
    go_ret
    exact ⟨rfl, rfl⟩

end Go.Proofs.YtiokkoaalakakaaDoor
