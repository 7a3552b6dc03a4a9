/-
  Joined: Vm1.
-/
import Derived.ChangeSlices
import Derived.Lib.SmallJoins
import Derived.Test.YthmgampabhbpoaaGreatDoorK02

namespace Go.Proofs.YthmgampabhbpoaaGreatDoor
set_option maxRecDepth 100000
set_option maxHeartbeats 16000000
open Go.RowKit

theorem szIntS_less (a:Option Addr) (len cap:Nat) (left:Int) (w:World) (hl:len≤maxLen) (h0:0≤left) (h1:left≤2 ^ 20) :
  Calls Tryz.prog 136 #[.slice a len cap,.int .i64 left] w fun e w'=>e=.returned (.int .i64 (less left len))∧w=w':=by
 unfold maxLen at hl
 unfold less
 go_enter Tryz.func136,Tryz.ntmps136
 by_cases h:left - len<0
 ·rw [if_pos h]
  go_wp2
  go_ret
  exact ⟨rfl,rfl⟩
 ·rw [if_neg h]
  go_wp2
  go_ret
  exact ⟨rfl,rfl⟩
theorem szIntS_neg (a:Option Addr) (len cap:Nat) (left:Int) (w:World) (hl:len≤maxLen) (h0:0≤left) (h1:left≤2 ^ 20) (h:left - len<0) :
  Calls Tryz.prog 136 #[.slice a len cap,.int .i64 left] w fun e w'=>e=.returned (.int .i64 (-1))∧w=w':=by
 have:=szIntS_less a len cap left w hl h0 h1
 unfold less at this
 rwa [if_pos h] at this
theorem szIntS_pos (a:Option Addr) (len cap:Nat) (left:Int) (w:World) (hl:len≤maxLen) (h0:0≤left) (h1:left≤2 ^ 20) (h:0≤left - len) :
  Calls Tryz.prog 136 #[.slice a len cap,.int .i64 left] w fun e w'=>e=.returned (.int .i64 (left - len))∧w=w':=by
 have:=szIntS_less a len cap left w hl h0 h1
 unfold less at this
 rwa [if_neg (by omega)] at this

end Go.Proofs.YthmgampabhbpoaaGreatDoor
