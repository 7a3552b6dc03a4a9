/-
  Joined: VmOfS.
-/
import Derived.Test.YtdopgkbegjfhjaaGreatDoorL12

namespace Go.Proofs.YtdopgkbegjfhjaaGreatDoor
set_option maxRecDepth 100000
set_option maxHeartbeats 16000000
open Go.RowKit
set_option linter.unusedVariables false

def vmOfZ (s:ByteArray):V4:=if s.size≠15 then ([],[],[],[]) else if shapeOk (bytesV s) then bytesV s else ([],[],[],[])
def vmOfC (s:ByteArray):Int:=if 65536<s.size then 2 else if s.size≠15 then 3 else if shapeOk (bytesV s) then 0 else 3
theorem implVmOf_is (s:ByteArray) (w:World) (hs:s.size≤1048576) (hV:VmShape w) :
  Calls Tryz.prog 129 #[.string s] w fun e w'=>VmGot e w' w.heap.size (vmOfZ s) (vmOfC s)∧Below w.heap.size w w':=by
 unfold vmOfZ vmOfC
 by_cases hl:65536<s.size
 ·rw [if_pos (show s.size≠15 by omega),if_pos hl]
  refine (implVmOf_long s w hs hl).mono ?_
  rintro e w' ⟨rfl,hb⟩
  exact ⟨VmGot.mk9 ((none,0,0),(none,0,0),(none,0,0),(none,0,0)) rfl (ownV_nil _ _),hb⟩
 ·rw [if_neg hl]
  by_cases h15:s.size=15
  ·have hn:¬ (s.size≠15):=fun h=>h h15
   simp only [if_neg hn]
   exact implVmOf_15 s w h15 hV
  ·rw [if_pos h15,if_pos h15]
   refine (implVmOf_size s w (by omega) h15).mono ?_
   rintro e w' ⟨rfl,hb⟩
   exact ⟨VmGot.mk9 ((none,0,0),(none,0,0),(none,0,0),(none,0,0)) rfl (ownV_nil _ _),hb⟩
end Go.Proofs.YtdopgkbegjfhjaaGreatDoor
