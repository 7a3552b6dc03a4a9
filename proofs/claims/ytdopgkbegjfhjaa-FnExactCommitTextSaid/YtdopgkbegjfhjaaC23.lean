/-
  Joined: NumOK.
-/
import Derived.Test.YtdopgkbegjfhjaaProg
import Derived.Deep.RegionHeld3
import Derived.KernelRfl
import Derived.Tactics
import Derived.WalkKit
import Derived.WalkSpells
import Derived.WalkLawsBesides

namespace Go.Proofs.Ytdopgkbegjfhjaa
set_option maxRecDepth 100000
set_option maxHeartbeats 16000000
open Go.RowKit

theorem numberOK_yes (n:Int) (w:World) (h:0≤n∧n≤999999999):Calls Try.prog 23 #[.int .i64 n] w fun e w'=>e=.returned (.bool true)∧w=w':=by
 obtain ⟨h1,h2⟩:=h
 go_enter Try.func23,Try.ntmps23
 go_wp2
 go_ret
 exact ⟨rfl,rfl⟩
theorem numberOK_no (n:Int) (w:World) (h:¬ (0≤n∧n≤999999999)):Calls Try.prog 23 #[.int .i64 n] w fun e w'=>e=.returned (.bool false)∧w=w':=by
 by_cases h1:0≤n
 ·have h2:decide (n≤999999999)=false:=by simp;omega
  clear h
  go_enter Try.func23,Try.ntmps23
  go_wp2
  go_ret
  exact ⟨rfl,rfl⟩
 ·clear h
  go_enter Try.func23,Try.ntmps23
  go_wp2
  go_ret
  exact ⟨rfl,rfl⟩

end Go.Proofs.Ytdopgkbegjfhjaa
