/-
  Joined: VmOfS.
-/
import Derived.Test.YtnffeclgboomoaaGreatDoorR17

namespace Go.Proofs.YtnffeclgboomoaaGreatDoor
set_option maxRecDepth 100000
set_option maxHeartbeats 16000000
open Go.RowKit
set_option linter.unusedVariables false

def Gp (s:ByteArray):V4:=if s.size≠15 then ([],[],[],[]) else if Zh (XL s) then XL s else ([],[],[],[])
def JY (s:ByteArray):Int:=if 65536<s.size then 2 else if s.size≠15 then 3 else if Zh (XL s) then 0 else 3
theorem P4 (s:ByteArray) (w:World) (hs:s.size≤1048576) (hV:Z0 w) :
  Calls Tryz.prog 112 #[.string s] w fun e w'=>Yo e w' w.heap.size (Gp s) (JY s)∧Below w.heap.size w w':=by
 unfold Gp JY
 by_cases hl:65536<s.size
 ·rw [if_pos (show s.size≠15 by omega),if_pos hl]
  refine (R7 s w hs hl).mono ?_
  rintro e w' ⟨rfl,hb⟩
  exact ⟨Yo.mk9 ((none,0,0),(none,0,0),(none,0,0),(none,0,0)) rfl (Tm _ _),hb⟩
 rw [if_neg hl]
 by_cases h15:s.size=15
 ·have hn:¬ (s.size≠15):=fun h=>h h15
  simp only [if_neg hn]
  exact P3 s w h15 hV
 rw [if_pos h15,if_pos h15]
 refine (R8 s w (by omega) h15).mono ?_
 rintro e w' ⟨rfl,hb⟩
 exact ⟨Yo.mk9 ((none,0,0),(none,0,0),(none,0,0),(none,0,0)) rfl (Tm _ _),hb⟩
end Go.Proofs.YtnffeclgboomoaaGreatDoor
