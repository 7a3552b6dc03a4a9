/-
  Joined: Kit8, DedI.
-/
import Derived.Maps.AppendAt
import Derived.Lib.Hide
import Derived.Shelf.Abstract
import Derived.Deep.RegionLaw
import Derived.Laws.OwnMore
import Derived.Deep.Cut
import Derived.Test.YtifoggpohlegmaaGreatDoorS02

namespace Go.Proofs.YtifoggpohlegmaaGreatDoor
set_option maxRecDepth 100000
set_option maxHeartbeats 16000000
open Go.RowKit
set_option linter.unusedVariables false

theorem bel8 {a b c:World} (h:Below a.heap.size a b) (k:Below b.heap.size b c):Below a.heap.size a c:=h.trans (k.mono h.size)

set_option linter.unusedSimpArgs false

def RowD (e:Ending) (w':World) (B:Nat) (xs:List I3):Prop:=∃ v,e=.returned v∧w'.ownsRow B 64 3 v xs.length (flat xs)
theorem deadlock_of {w:World} {p:Addr} {b:Bool} (k:Calls Tryz.prog 91 #[.pointer (some p)] w fun e w'=>e=.returned (.bool b)∧Below w.heap.size w w') :
  Calls Tryz.prog 123 #[.pointer (some p)] w fun e w'=>RowD e w' w.heap.size (if b then [(14,0,0)] else [])∧Below w.heap.size w w':=by
 cases b
 ·go_enter Tryz.func123,Tryz.ntmps123
  go_wp2_with fail
  refine k.mono ?_
  rintro e w1 ⟨rfl,hb⟩
  go_wp2
  go_ret
  exact ⟨⟨_,rfl,World.ownsRow_nil _ _ _ _⟩,hb⟩
 ·go_enter Tryz.func123,Tryz.ntmps123
  go_wp2_with fail
  refine k.mono ?_
  rintro e w1 ⟨rfl,hb⟩
  have q:=World.ownsRow_lit (e:=64) (base:=w.heap.size) (size:=3) w1 #[.int .i64 14,.int .i64 0,.int .i64 0] 1 hb.size (by unfold maxLen;omega) rfl
  have HD:Hid (RowD (.returned (.slice (some ⟨w1.heap.size,0,none⟩) 1 1)) (w1.alloc (.cells #[.int .i64 14,.int .i64 0,.int .i64 0] 64)) w.heap.size [(14,0,0)]):=⟨_,rfl,q⟩
  clear q
  go_wp2
  go_ret
  exact ⟨HD.out,bel8 hb (by go_grown)⟩
end Go.Proofs.YtifoggpohlegmaaGreatDoor
