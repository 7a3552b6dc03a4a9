/-
  Joined: MrgA.
-/
import Derived.OwnWalk
import Derived.Test.YtdopgkbegjfhjaaC11

namespace Go.Proofs.Ytdopgkbegjfhjaa
set_option maxRecDepth 100000
set_option maxHeartbeats 16000000
open Go.RowKit
set_option linter.unusedVariables false
set_option linter.unusedSimpArgs false

theorem l04Less_is (x y:I3) (w:World):Calls Try.prog 17 #[x.val,y.val] w fun e w'=>e=.returned (.bool (ltB x y))∧Below w.heap.size w w':=by
 obtain ⟨a0,a1,a2⟩:=x
 obtain ⟨b0,b1,b2⟩:=y
 unfold I3.val
 by_cases h0:a0=b0
 ·subst h0
  by_cases h1:a1=b1
  ·subst h1
   have e:ltB (a0,a1,a2) (a0,a1,b2)=decide (a2<b2):=by simp [ltB]
   rw [e]
   clear e
   go_enter Try.func17,Try.ntmps17
   go_wp2
   go_ret
   exact ⟨rfl,by go_grown⟩
  ·have e:ltB (a0,a1,a2) (a0,b1,b2)=decide (a1<b1):=by simp [ltB,h1]
   rw [e]
   clear e
   go_enter Try.func17,Try.ntmps17
   go_wp2
   go_ret
   exact ⟨rfl,by go_grown⟩
 ·have e:ltB (a0,a1,a2) (b0,b1,b2)=decide (a0<b0):=by simp [ltB,h0]
  rw [e]
  clear e
  go_enter Try.func17,Try.ntmps17
  go_wp2
  go_ret
  exact ⟨rfl,by go_grown⟩

end Go.Proofs.Ytdopgkbegjfhjaa
