/-
  Joined: MarkV.
-/
import Derived.Test.YtdojjmkpelgcaaaDoorN08

namespace Go.Proofs.YtdojjmkpelgcaaaDoor
set_option maxRecDepth 100000
open Go.RowKit

theorem OwnI.kept {w w' : World} {B : Nat} {s s' : Sl} {zs : List Int} (h : OwnI w B s zs) (hg : w.grownBy w' (Value.slice s'.1 s'.2.1 s'.2.2).ownBlock) (ha : Apart s s') : OwnI w' B s zs := by
 refine World.ownsRow.kept h hg ?_
 cases hb : (Value.slice s.1 s.2.1 s.2.2).ownBlock with
 | none => exact .inl rfl
 | some g => exact .inr fun e => ha g hb e.symm
theorem Apart.symm {s s' : Sl} (h : Apart s s') : Apart s' s := fun g h1 h2 => h g h2 h1

end Go.Proofs.YtdojjmkpelgcaaaDoor
