/-
  Joined: InOK, Prog1.
-/
import Derived.Test.YtdopgkbegjfhjaaProg
import Derived.Deep.RegionHeld3
import Derived.KernelRfl
import Derived.Tactics
import Derived.WalkKit
import Derived.WalkSpells
import Derived.WalkLawsBesides
import Derived.RegionTactic
import Derived.BigQuiet
import Derived.Deep.QuietTactic
import Derived.Deep.Slices
import Derived.Deep.Strs
import Derived.Deep.Fields
import Derived.ChangeSame
import Derived.Handy

namespace Go.Proofs.Ytdopgkbegjfhjaa
set_option maxRecDepth 100000
set_option maxHeartbeats 16000000
open Go.RowKit

theorem l01In_yes (n a b:Int) (w:World) (h:a≤n∧n≤b):Calls Try.prog 24 #[.int .i64 n,.int .i64 a,.int .i64 b] w fun e w'=>e=.returned (.bool true)∧w=w':=by
 obtain ⟨h1,h2⟩:=h
 go_enter Try.func24,Try.ntmps24
 go_wp2
 go_ret
 exact ⟨rfl,rfl⟩
theorem l01In_no (n a b:Int) (w:World) (h:¬ (a≤n∧n≤b)):Calls Try.prog 24 #[.int .i64 n,.int .i64 a,.int .i64 b] w fun e w'=>e=.returned (.bool false)∧w=w':=by
 by_cases h1:a≤n
 ·have h2:decide (n≤b)=false:=by simp;omega
  clear h
  go_enter Try.func24,Try.ntmps24
  go_wp2
  go_ret
  exact ⟨rfl,rfl⟩
 ·clear h
  go_enter Try.func24,Try.ntmps24
  go_wp2
  go_ret
  exact ⟨rfl,rfl⟩


def less (left n:Int):Int:=if left - n<0 then -1 else left - n

end Go.Proofs.Ytdopgkbegjfhjaa
