/-
  Joined: InOK, Ops.
-/
import Derived.Test.YtjgffnlmjmibgaaDoorProg
import Derived.Deep.RegionHeld3
import Derived.KernelRfl
import Derived.Tactics
import Derived.WalkKit
import Derived.WalkSpells
import Derived.WalkLawsBesides
import Derived.RegionTactic
import Derived.BigQuiet
import Derived.Deep.QuietTactic
import Derived.Deep.Slices
import Derived.Deep.Strs
import Derived.Deep.Fields
import Derived.ChangeSame
import Derived.Handy

namespace Go.Proofs.YtjgffnlmjmibgaaDoor
set_option maxRecDepth 100000
set_option maxHeartbeats 16000000
open Go.RowKit

theorem l01In_yes (n a b:Int) (w:World) (h:a≤n∧n≤b):Calls Tryd.prog 66 #[.int .i64 n,.int .i64 a,.int .i64 b] w fun e w'=>e=.returned (.bool true)∧w=w':=by
 obtain ⟨h1,h2⟩:=h
 go_enter Tryd.func66,Tryd.ntmps66
 go_wp2
 go_ret
 exact ⟨rfl,rfl⟩
theorem l01In_no (n a b:Int) (w:World) (h:¬ (a≤n∧n≤b)):Calls Tryd.prog 66 #[.int .i64 n,.int .i64 a,.int .i64 b] w fun e w'=>e=.returned (.bool false)∧w=w':=by
 by_cases h1:a≤n
 ·have h2:decide (n≤b)=false:=by simp;omega
  clear h
  go_enter Tryd.func66,Tryd.ntmps66
  go_wp2
  go_ret
  exact ⟨rfl,rfl⟩
 ·clear h
  go_enter Tryd.func66,Tryd.ntmps66
  go_wp2
  go_ret
  exact ⟨rfl,rfl⟩


def inB (n a b:Int):Bool:=decide (a≤n∧n≤b)

theorem inB_true {n a b:Int}:inB n a b=true↔a≤n∧n≤b:=by simp [inB]
theorem inB_false {n a b:Int}:inB n a b=false↔¬ (a≤n∧n≤b):=by simp only [inB,decide_eq_false_iff_not]

theorem meth_register (v:Value) (w:World):(Go.method 347 228 v "loop.example/g00632/impl.right").run Tryd.prog w=.ok (169,v) w:=by kernel_rfl

theorem right_register (n:Int) (w:World):Calls Tryd.prog 169 #[.int .i64 n] w fun e w'=>e=.returned (.bool (inB n 0 1))∧w=w':=by
 cases h:inB n 0 1
 ·rw [inB_false] at h
  by_cases h1:0≤n
  ·have h2:decide (n<2)=false:=by simp;omega
   clear h
   go_enter Tryd.func169,Tryd.ntmps169
   go_wp2
   go_ret
   exact ⟨rfl,rfl⟩
  ·clear h
   go_enter Tryd.func169,Tryd.ntmps169
   go_wp2
   go_ret
   exact ⟨rfl,rfl⟩
 ·rw [inB_true] at h
  obtain ⟨h1,h3⟩:=h
  have h2:decide (n<2)=true:=by simp;omega
  clear h3
  go_enter Tryd.func169,Tryd.ntmps169
  go_wp2
  go_ret
  exact ⟨by simp_all,rfl⟩

theorem meth_shared (v:Value) (w:World):(Go.method 347 229 v "loop.example/g00632/impl.right").run Tryd.prog w=.ok (170,v) w:=by kernel_rfl

theorem right_shared (n:Int) (w:World):Calls Tryd.prog 170 #[.int .i64 n] w fun e w'=>e=.returned (.bool (inB n 0 3))∧w=w':=by
 cases h:inB n 0 3
 ·rw [inB_false] at h
  by_cases h1:0≤n
  ·have h2:decide (n<4)=false:=by simp;omega
   clear h
   go_enter Tryd.func170,Tryd.ntmps170
   go_wp2
   go_ret
   exact ⟨rfl,rfl⟩
  ·clear h
   go_enter Tryd.func170,Tryd.ntmps170
   go_wp2
   go_ret
   exact ⟨rfl,rfl⟩
 ·rw [inB_true] at h
  obtain ⟨h1,h3⟩:=h
  have h2:decide (n<4)=true:=by simp;omega
  clear h3
  go_enter Tryd.func170,Tryd.ntmps170
  go_wp2
  go_ret
  exact ⟨by simp_all,rfl⟩

theorem meth_lock (v:Value) (w:World):(Go.method 347 231 v "loop.example/g00632/impl.right").run Tryd.prog w=.ok (172,v) w:=by kernel_rfl

theorem right_lock (n:Int) (w:World):Calls Tryd.prog 172 #[.int .i64 n] w fun e w'=>e=.returned (.bool (inB n 0 1))∧w=w':=by
 cases h:inB n 0 1
 ·rw [inB_false] at h
  by_cases h1:0≤n
  ·have h2:decide (n<2)=false:=by simp;omega
   clear h
   go_enter Tryd.func172,Tryd.ntmps172
   go_wp2
   go_ret
   exact ⟨rfl,rfl⟩
  ·clear h
   go_enter Tryd.func172,Tryd.ntmps172
   go_wp2
   go_ret
   exact ⟨rfl,rfl⟩
 ·rw [inB_true] at h
  obtain ⟨h1,h3⟩:=h
  have h2:decide (n<2)=true:=by simp;omega
  clear h3
  go_enter Tryd.func172,Tryd.ntmps172
  go_wp2
  go_ret
  exact ⟨by simp_all,rfl⟩

theorem meth_value (v:Value) (w:World):(Go.method 347 230 v "loop.example/g00632/impl.right").run Tryd.prog w=.ok (171,v) w:=by kernel_rfl

theorem right_value (n:Int) (w:World):Calls Tryd.prog 171 #[.int .i64 n] w fun e w'=>e=.returned (.bool (inB n 0 9))∧w=w':=by
 cases h:inB n 0 9
 ·rw [inB_false] at h
  by_cases h1:0≤n
  ·have h2:decide (n≤9)=false:=by simp;omega
   clear h
   go_enter Tryd.func171,Tryd.ntmps171
   go_wp2
   go_ret
   exact ⟨rfl,rfl⟩
  ·clear h
   go_enter Tryd.func171,Tryd.ntmps171
   go_wp2
   go_ret
   exact ⟨rfl,rfl⟩
 ·rw [inB_true] at h
  obtain ⟨h1,h3⟩:=h
  have h2:decide (n≤9)=true:=by simp;omega
  clear h3
  go_enter Tryd.func171,Tryd.ntmps171
  go_wp2
  go_ret
  exact ⟨by simp_all,rfl⟩

theorem meth_target (v:Value) (w:World):(Go.method 347 224 v "loop.example/g00632/impl.right").run Tryd.prog w=.ok (168,v) w:=by kernel_rfl

theorem right_target (n:Int) (w:World):Calls Tryd.prog 168 #[.int .i64 n] w fun e w'=>e=.returned (.bool (inB n 1 6))∧w=w':=by
 cases h:inB n 1 6
 ·rw [inB_false] at h
  by_cases h1:1≤n
  ·have h2:decide (n≤6)=false:=by simp;omega
   clear h
   go_enter Tryd.func168,Tryd.ntmps168
   go_wp2
   go_ret
   exact ⟨rfl,rfl⟩
  ·clear h
   go_enter Tryd.func168,Tryd.ntmps168
   go_wp2
   go_ret
   exact ⟨rfl,rfl⟩
 ·rw [inB_true] at h
  obtain ⟨h1,h3⟩:=h
  have h2:decide (n≤6)=true:=by simp;omega
  clear h3
  go_enter Tryd.func168,Tryd.ntmps168
  go_wp2
  go_ret
  exact ⟨by simp_all,rfl⟩

theorem meth_no (v:Value) (w:World):(Go.method 347 232 v "loop.example/g00632/impl.right").run Tryd.prog w=.ok (173,v) w:=by kernel_rfl

theorem right_no (n:Int) (w:World):Calls Tryd.prog 173 #[.int .i64 n] w fun e w'=>e=.returned (.bool (inB n 0 0))∧w=w':=by
 go_enter Tryd.func173,Tryd.ntmps173
 go_wp2
 go_ret
 refine ⟨?_,rfl⟩
 cases h:inB n 0 0
 ·rw [inB_false] at h
  have h2:(n == 0)=false:=by simp;omega
  simp [h2]
 ·rw [inB_true] at h
  have h2:(n == 0)=true:=by simp;omega
  simp [h2]

end Go.Proofs.YtjgffnlmjmibgaaDoor
