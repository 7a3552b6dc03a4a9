/-
  Joined: RpH.
-/
import Derived.Test.YtmhngodbnoonhaaDoorProg
import Derived.Deep.RegionHeld3
import Derived.KernelRfl
import Derived.Tactics
import Derived.WalkKit
import Derived.WalkSpells
import Derived.WalkLawsBesides
import Derived.RegionTactic
import Derived.BigQuiet
import Derived.Deep.QuietTactic
import Derived.Deep.Slices
import Derived.Deep.Strs
import Derived.Deep.Fields
import Derived.ChangeSame
import Derived.Handy
import Derived.OwnWalk
import Derived.ChangeSlices
import Derived.Lib.SmallJoins
import Derived.Shelf.Abstract
import Derived.Laws.BytesArg
import Derived.Deep.RegionLaw
import Derived.Laws.OwnMore
import Derived.Laws.CopyOwn
import Derived.Laws.Tables
import Derived.BigRegion
import Derived.Maps.AppendAt
import Derived.Stop.Asserts
import Derived.Recover
import Derived.Laws.RangeString
import Derived.Laws.RangeAny
import Derived.Laws.Bits
import Derived.Lib.FieldsP
import Derived.Shelf.SlSortCmp.NoneTotal
import Derived.Shelf.Spec.SlicesGrow
import Derived.Laws.AppendOwnNone
import Derived.Lib.SliceRun
import Derived.Test.YtmhngodbnoonhaaDoorK01
import Derived.Test.YtmhngodbnoonhaaDoorK03
import Derived.Test.YtmhngodbnoonhaaDoorK04
import Derived.Test.YtmhngodbnoonhaaDoorK05
import Derived.Test.YtmhngodbnoonhaaDoorK07
import Derived.Test.YtmhngodbnoonhaaDoorK20
import Derived.Test.YtmhngodbnoonhaaDoorK28
import Derived.Test.YtmhngodbnoonhaaDoorK34

/-
  The program's RunSchedule.
-/
namespace Go.Proofs.YtmhngodbnoonhaaDoor
open Go.RowKit
set_option linter.unusedVariables false
set_option linter.unusedSimpArgs false

def RunGot (e : Ending) (w : World) (B : Nat) (z : V4) (fs : List I3) (c : Int) : Prop := ∃ (t : S4) (v : Value), e = .returned (.tuple #[t.val, v, .int .i64 c]) ∧ OwnV w B t z ∧ w.ownsRow B 40 3 v fs.length (flat fs)
theorem RunGot.mk9 {e : Ending} {w : World} {B : Nat} {z : V4} {fs : List I3} {c : Int} (t : S4) (v : Value) (he : e = .returned (.tuple #[t.val, v, .int .i64 c])) (h1 : OwnV w B t z) (h2 : w.ownsRow B 40 3 v fs.length (flat fs)) : RunGot e w B z fs c := ⟨t, v, he, h1, h2⟩
def runF (rows : List (List I3)) (ks : List Int) : List I3 := if 4096 < ks.length then [] else if progOk rows then mergeB (runI rows zeroV [] ks).2.1 (deadM rows (runI rows zeroV [] ks).1) else []
def runC (rows : List (List I3)) (ks : List Int) : Int := if 4096 < ks.length then 2 else if progOk rows then (runI rows zeroV [] ks).2.2 else 1
end Go.Proofs.YtmhngodbnoonhaaDoor

