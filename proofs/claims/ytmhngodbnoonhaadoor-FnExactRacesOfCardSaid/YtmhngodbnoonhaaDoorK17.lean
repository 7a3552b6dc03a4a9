/-
  Joined: Bug0.
-/
import Derived.Test.YtmhngodbnoonhaaDoorProg
import Derived.Deep.RegionHeld3
import Derived.KernelRfl
import Derived.Tactics
import Derived.WalkKit
import Derived.WalkSpells
import Derived.WalkLawsBesides
import Derived.RegionTactic
import Derived.BigQuiet
import Derived.Deep.QuietTactic
import Derived.Deep.Slices
import Derived.Deep.Strs
import Derived.Deep.Fields
import Derived.ChangeSame
import Derived.Handy
import Derived.Test.YtmhngodbnoonhaaDoorK01
import Derived.Test.YtmhngodbnoonhaaDoorK02

/-
  Bugs: which are right; isThread; both sides' BugOK; the laws' toBug, eqBug; a bug that came in.
-/
namespace Go.Proofs.YtmhngodbnoonhaaDoor
open Go.RowKit
set_option linter.unusedVariables false

theorem l01In_isB (n a b : Int) (w : World) : Calls Tryd.prog 97 #[.int .i64 n, .int .i64 a, .int .i64 b] w fun e w' => e = .returned (.bool (inB n a b)) ∧ w = w' := by
  cases h : inB n a b
  · exact l01In_no n a b w (inB_false.1 h)
  · exact l01In_yes n a b w (inB_true.1 h)

def okB (x : I3) : Bool :=
  if x.1 = 14 then decide (x.2.1 = 0) && decide (x.2.2 = 0)
  else if x.1 = 12 ∨ x.1 = 13 then inB x.2.1 0 2 && inB x.2.2 0 5
  else false

theorem isThread_is (n : Int) (w : World) : Calls Tryd.prog 104 #[.int .i64 n] w fun e w' => e = .returned (.bool (inB n 0 2)) ∧ w = w' := by
  cases h : inB n 0 2
  · rw [inB_false] at h
    by_cases h1 : 0 ≤ n
    · have h2 : decide (n < 3) = false := by simp; omega
      clear h
      go_enter Tryd.func104, Tryd.ntmps104
      go_wp2
      go_ret
      exact ⟨rfl, rfl⟩
    · clear h
      go_enter Tryd.func104, Tryd.ntmps104
      go_wp2
      go_ret
      exact ⟨rfl, rfl⟩
  · rw [inB_true] at h
    obtain ⟨h1, h3⟩ := h
    have h2 : decide (n < 3) = true := by simp; omega
    clear h3
    go_enter Tryd.func104, Tryd.ntmps104
    go_wp2
    go_ret
    exact ⟨by simp_all, rfl⟩

end Go.Proofs.YtmhngodbnoonhaaDoor

