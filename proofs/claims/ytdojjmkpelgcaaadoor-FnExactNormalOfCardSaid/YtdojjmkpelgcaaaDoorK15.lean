/-
  Joined: NewVmS.
-/
import Derived.Test.YtdojjmkpelgcaaaDoorProg
import Derived.Deep.RegionHeld3
import Derived.KernelRfl
import Derived.Tactics
import Derived.WalkKit
import Derived.WalkSpells
import Derived.WalkLawsBesides
import Derived.RegionTactic
import Derived.BigQuiet
import Derived.Deep.QuietTactic
import Derived.Deep.Slices
import Derived.Deep.Strs
import Derived.Deep.Fields
import Derived.ChangeSame
import Derived.Handy
import Derived.OwnWalk
import Derived.ChangeSlices
import Derived.Lib.SmallJoins
import Derived.Shelf.Abstract
import Derived.Laws.BytesArg
import Derived.Deep.RegionLaw
import Derived.Laws.OwnMore
import Derived.BigRegion
import Derived.Test.YtdojjmkpelgcaaaDoorK01
import Derived.Test.YtdojjmkpelgcaaaDoorK02
import Derived.Test.YtdojjmkpelgcaaaDoorK08
import Derived.Test.YtdojjmkpelgcaaaDoorK14

/-
  The specification's NewVm: a state of noughts in memory of its own.
-/
namespace Go.Proofs.YtdojjmkpelgcaaaDoor
open Go.RowKit

set_option maxHeartbeats 16000000 in
set_option maxRecDepth 100000 in
theorem specNewVm_is (w : World) :
    Calls Tryd.prog 66 #[] w fun e w' => (∃ s : S4, e = .returned s.val ∧ OwnV w' w.heap.size s zeroV) ∧ Below w.heap.size w w' := by
  have r3 := make3
  have r4 := make4
  have r2 := make2
  have r6 := make6
  go_enter Tryd.func66, Tryd.ntmps66
  go_wp2
  go_region
  all_goals (clear r3 r4 r2 r6; go_wp2; go_returns; refine ⟨⟨_, rfl, newVm_own (B := w.heap.size) ?_ ?_ ?_ ?_ ⟨⟨by omega, by omega⟩, by omega, by omega⟩ ⟨⟨by omega, by omega, by omega⟩, ⟨by omega, by omega⟩, by omega⟩⟩, by go_grown⟩ <;> (refine Blk.drew ?_; repeat (first | exact blk_at _ _ _ (by simp) | refine blk_old _ ?_)))
end Go.Proofs.YtdojjmkpelgcaaaDoor

