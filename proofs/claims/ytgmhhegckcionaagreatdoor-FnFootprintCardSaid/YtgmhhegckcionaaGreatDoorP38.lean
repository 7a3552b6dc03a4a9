/-
  Joined: LptI.
-/
import Derived.Lib.Strings
import Derived.Lib.Walk
import Derived.Lib.BufferWrite
import Derived.Lib.UnsafeStr
import Derived.Laws.MakeOwn
import Derived.Shelf.Small.Strs
import Derived.Test.YtgmhhegckcionaaGreatDoorP30

namespace Go.Proofs.YtgmhhegckcionaaGreatDoor
set_option maxRecDepth 100000
set_option maxHeartbeats 16000000
open Go.RowKit
set_option linter.unusedVariables false
set_option linter.unusedSimpArgs false

def putQ (L:List EQ) (e:E3) (s:Sl2):List EQ:=(L.take (plcE (L.map (·.1)) e.1)++[(e,s)])++L.drop (if isE (L.map (·.1)) e.1 then plcE (L.map (·.1)) e.1+1 else plcE (L.map (·.1)) e.1)
theorem putQ_map (L:List EQ) (e:E3) (s:Sl2):(putQ L e s).map (·.1)=putE (L.map (·.1)) e:=by
 rw [putQ,putE,List.map_append,List.map_append,List.map_take,List.map_drop]
 rfl
theorem putQ_mem {L:List EQ} {e:E3} {s:Sl2} {x:EQ} (hx:x ∈ putQ L e s):x ∈ L∨x=(e,s):=by
 unfold putQ at hx
 simp only [List.mem_append,List.mem_singleton] at hx
 rcases hx with (hx | hx) | hx
 ·exact .inl (List.mem_of_mem_take hx)
 ·exact .inr hx
 ·exact .inl (List.mem_of_mem_drop hx)
end Go.Proofs.YtgmhhegckcionaaGreatDoor
