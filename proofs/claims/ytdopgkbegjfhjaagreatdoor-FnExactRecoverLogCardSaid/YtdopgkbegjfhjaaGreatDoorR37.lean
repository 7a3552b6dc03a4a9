/-
  Joined: Put.
-/
import Derived.Test.YtdopgkbegjfhjaaGreatDoorProg
import Derived.Deep.RegionHeld3
import Derived.KernelRfl
import Derived.Tactics
import Derived.WalkKit
import Derived.WalkSpells
import Derived.WalkLawsBesides
import Derived.RegionTactic
import Derived.BigQuiet
import Derived.Deep.QuietTactic
import Derived.Deep.Slices
import Derived.Deep.Strs
import Derived.Deep.Fields
import Derived.ChangeSame
import Derived.Handy
import Derived.OwnWalk
import Derived.Shelf.Abstract
import Derived.Deep.RegionLaw
import Derived.Laws.OwnMore
import Derived.Maps.AppendAt
import Derived.Deep.Cut

namespace Go.Proofs.YtdopgkbegjfhjaaGreatDoor
set_option maxRecDepth 100000
set_option maxHeartbeats 16000000
open Go.RowKit
set_option linter.unusedVariables false
set_option linter.unusedSimpArgs false

theorem cell_grownB {w w':World} {row:Option Nat} (g:w.grownBy w' row) {p:Addr} {v:Value} (hc:w.cell? p=some v) (hne:some p.block≠row):w'.cell? p=some v:=by
 have hl:=World.block_lt_of_cell? _ _ hc
 rw [← hc]
 unfold World.cell?
 rw [g.block p.block hl hne]
end Go.Proofs.YtdopgkbegjfhjaaGreatDoor
