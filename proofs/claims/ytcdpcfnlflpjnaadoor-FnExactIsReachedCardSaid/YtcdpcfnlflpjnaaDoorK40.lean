/-
  Joined: FndS.
-/
import Derived.Test.YtcdpcfnlflpjnaaDoorProg
import Derived.Deep.RegionHeld3
import Derived.KernelRfl
import Derived.Tactics
import Derived.WalkKit
import Derived.WalkSpells
import Derived.WalkLawsBesides
import Derived.RegionTactic
import Derived.BigQuiet
import Derived.Deep.QuietTactic
import Derived.Deep.Slices
import Derived.Deep.Strs
import Derived.Deep.Fields
import Derived.ChangeSame
import Derived.ChangeSlices
import Derived.Lib.SmallJoins
import Derived.Handy
import Derived.OwnWalk
import Derived.Shelf.Abstract
import Derived.Laws.BytesArg
import Derived.Deep.RegionLaw
import Derived.Laws.OwnMore
import Derived.BigRegion
import Derived.Laws.CopyOwn
import Derived.Laws.Tables
import Derived.Maps.AppendAt
import Derived.Laws.RangeString
import Derived.Laws.RangeAny
import Derived.Laws.Bits
import Derived.Lib.FieldsP
import Derived.Test.YtcdpcfnlflpjnaaDoorK01
import Derived.Test.YtcdpcfnlflpjnaaDoorK02
import Derived.Test.YtcdpcfnlflpjnaaDoorK11
import Derived.Test.YtcdpcfnlflpjnaaDoorK36

/-
  The specification's l04Found: a step, and what it finds.
-/
namespace Go.Proofs.YtcdpcfnlflpjnaaDoor
open Go.RowKit
set_option linter.unusedVariables false
set_option linter.unusedSimpArgs false

theorem goM_nat (rows : List (List I3)) (m : V4) (k : Nat) : goM rows m (k : Int) = stepM m (insM rows m k) k := by unfold goM; rw [Int.toNat_natCast]
end Go.Proofs.YtcdpcfnlflpjnaaDoor

