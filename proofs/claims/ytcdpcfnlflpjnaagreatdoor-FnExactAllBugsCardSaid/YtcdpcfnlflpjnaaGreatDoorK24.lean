/-
  Joined: Bug0.
-/
import Derived.Test.YtcdpcfnlflpjnaaGreatDoorProg
import Derived.Deep.RegionHeld3
import Derived.KernelRfl
import Derived.Tactics
import Derived.WalkKit
import Derived.WalkSpells
import Derived.WalkLawsBesides
import Derived.RegionTactic
import Derived.BigQuiet
import Derived.Deep.QuietTactic
import Derived.Deep.Slices
import Derived.Deep.Strs
import Derived.Deep.Fields
import Derived.ChangeSame
import Derived.Handy
import Derived.Test.YtcdpcfnlflpjnaaGreatDoorK01
import Derived.Test.YtcdpcfnlflpjnaaGreatDoorK02

/-
  Bugs: which are right; isThread; both sides' BugOK; the laws' toBug, eqBug; a bug that came in.
-/
namespace Go.Proofs.YtcdpcfnlflpjnaaGreatDoor
open Go.RowKit
set_option linter.unusedVariables false

set_option maxHeartbeats 1000000 in
theorem eqBug_same (x : I3) (w : World) : Calls Tryz.prog 70 #[x.val, x.val] w fun e w' => e = .returned (.bool true) ∧ Below w.heap.size w w' := by
  obtain ⟨p, q, r⟩ := x
  unfold I3.val
  go_enter Tryz.func70, Tryz.ntmps70
  go_wp2
  go_returns
  exact ⟨rfl, by go_grown⟩

def okB (x : I3) : Bool :=
  if x.1 = 14 then decide (x.2.1 = 0) && decide (x.2.2 = 0)
  else if x.1 = 12 ∨ x.1 = 13 then inB x.2.1 0 2 && inB x.2.2 0 5
  else false

end Go.Proofs.YtcdpcfnlflpjnaaGreatDoor

