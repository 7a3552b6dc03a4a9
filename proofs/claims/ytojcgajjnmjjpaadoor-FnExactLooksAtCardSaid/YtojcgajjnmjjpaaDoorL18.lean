/-
  Joined: Ops.
-/
import Derived.Test.YtojcgajjnmjjpaaDoorProg
import Derived.Deep.RegionHeld3
import Derived.KernelRfl
import Derived.Tactics
import Derived.WalkKit
import Derived.WalkSpells
import Derived.WalkLawsBesides
import Derived.RegionTactic
import Derived.BigQuiet
import Derived.Deep.QuietTactic
import Derived.Deep.Slices
import Derived.Deep.Strs
import Derived.Deep.Fields
import Derived.ChangeSame
import Derived.Handy

namespace Go.Proofs.YtojcgajjnmjjpaaDoor
set_option maxRecDepth 100000
open Go.RowKit

def inB (n a b:Int):Bool:=decide (a≤n∧n≤b)

theorem inB_true {n a b:Int}:inB n a b=true↔a≤n∧n≤b:=by simp [inB]
theorem inB_false {n a b:Int}:inB n a b=false↔¬ (a≤n∧n≤b):=by simp only [inB,decide_eq_false_iff_not]

theorem meth_register (v:Value) (w:World):(Go.method 297 175 v "loop.example/g00632/impl.right").run Tryd.prog w=.ok (127,v) w:=by kernel_rfl

set_option maxHeartbeats 1000000 in
theorem right_register (n:Int) (w:World):Calls Tryd.prog 127 #[.int .i64 n] w fun e w'=>e=.returned (.bool (inB n 0 1))∧w=w':=by
 cases h:inB n 0 1
 ·rw [inB_false] at h
  by_cases h1:0≤n
  ·have h2:decide (n<2)=false:=by simp;omega
   clear h
   go_enter Tryd.func127,Tryd.ntmps127
   go_wp2
   go_ret
   exact ⟨rfl,rfl⟩
  ·clear h
   go_enter Tryd.func127,Tryd.ntmps127
   go_wp2
   go_ret
   exact ⟨rfl,rfl⟩
 ·rw [inB_true] at h
  obtain ⟨h1,h3⟩:=h
  have h2:decide (n<2)=true:=by simp;omega
  clear h3
  go_enter Tryd.func127,Tryd.ntmps127
  go_wp2
  go_ret
  exact ⟨by simp_all,rfl⟩

theorem meth_shared (v:Value) (w:World):(Go.method 297 176 v "loop.example/g00632/impl.right").run Tryd.prog w=.ok (128,v) w:=by kernel_rfl

set_option maxHeartbeats 1000000 in
theorem right_shared (n:Int) (w:World):Calls Tryd.prog 128 #[.int .i64 n] w fun e w'=>e=.returned (.bool (inB n 0 3))∧w=w':=by
 cases h:inB n 0 3
 ·rw [inB_false] at h
  by_cases h1:0≤n
  ·have h2:decide (n<4)=false:=by simp;omega
   clear h
   go_enter Tryd.func128,Tryd.ntmps128
   go_wp2
   go_ret
   exact ⟨rfl,rfl⟩
  ·clear h
   go_enter Tryd.func128,Tryd.ntmps128
   go_wp2
   go_ret
   exact ⟨rfl,rfl⟩
 ·rw [inB_true] at h
  obtain ⟨h1,h3⟩:=h
  have h2:decide (n<4)=true:=by simp;omega
  clear h3
  go_enter Tryd.func128,Tryd.ntmps128
  go_wp2
  go_ret
  exact ⟨by simp_all,rfl⟩

theorem meth_lock (v:Value) (w:World):(Go.method 297 178 v "loop.example/g00632/impl.right").run Tryd.prog w=.ok (130,v) w:=by kernel_rfl

set_option maxHeartbeats 1000000 in
theorem right_lock (n:Int) (w:World):Calls Tryd.prog 130 #[.int .i64 n] w fun e w'=>e=.returned (.bool (inB n 0 1))∧w=w':=by
 cases h:inB n 0 1
 ·rw [inB_false] at h
  by_cases h1:0≤n
  ·have h2:decide (n<2)=false:=by simp;omega
   clear h
   go_enter Tryd.func130,Tryd.ntmps130
   go_wp2
   go_ret
   exact ⟨rfl,rfl⟩
  ·clear h
   go_enter Tryd.func130,Tryd.ntmps130
   go_wp2
   go_ret
   exact ⟨rfl,rfl⟩
 ·rw [inB_true] at h
  obtain ⟨h1,h3⟩:=h
  have h2:decide (n<2)=true:=by simp;omega
  clear h3
  go_enter Tryd.func130,Tryd.ntmps130
  go_wp2
  go_ret
  exact ⟨by simp_all,rfl⟩

theorem meth_value (v:Value) (w:World):(Go.method 297 177 v "loop.example/g00632/impl.right").run Tryd.prog w=.ok (129,v) w:=by kernel_rfl

set_option maxHeartbeats 1000000 in
theorem right_value (n:Int) (w:World):Calls Tryd.prog 129 #[.int .i64 n] w fun e w'=>e=.returned (.bool (inB n 0 9))∧w=w':=by
 cases h:inB n 0 9
 ·rw [inB_false] at h
  by_cases h1:0≤n
  ·have h2:decide (n≤9)=false:=by simp;omega
   clear h
   go_enter Tryd.func129,Tryd.ntmps129
   go_wp2
   go_ret
   exact ⟨rfl,rfl⟩
  ·clear h
   go_enter Tryd.func129,Tryd.ntmps129
   go_wp2
   go_ret
   exact ⟨rfl,rfl⟩
 ·rw [inB_true] at h
  obtain ⟨h1,h3⟩:=h
  have h2:decide (n≤9)=true:=by simp;omega
  clear h3
  go_enter Tryd.func129,Tryd.ntmps129
  go_wp2
  go_ret
  exact ⟨by simp_all,rfl⟩

theorem meth_target (v:Value) (w:World):(Go.method 297 173 v "loop.example/g00632/impl.right").run Tryd.prog w=.ok (126,v) w:=by kernel_rfl

set_option maxHeartbeats 1000000 in
theorem right_target (n:Int) (w:World):Calls Tryd.prog 126 #[.int .i64 n] w fun e w'=>e=.returned (.bool (inB n 1 6))∧w=w':=by
 cases h:inB n 1 6
 ·rw [inB_false] at h
  by_cases h1:1≤n
  ·have h2:decide (n≤6)=false:=by simp;omega
   clear h
   go_enter Tryd.func126,Tryd.ntmps126
   go_wp2
   go_ret
   exact ⟨rfl,rfl⟩
  ·clear h
   go_enter Tryd.func126,Tryd.ntmps126
   go_wp2
   go_ret
   exact ⟨rfl,rfl⟩
 ·rw [inB_true] at h
  obtain ⟨h1,h3⟩:=h
  have h2:decide (n≤6)=true:=by simp;omega
  clear h3
  go_enter Tryd.func126,Tryd.ntmps126
  go_wp2
  go_ret
  exact ⟨by simp_all,rfl⟩

theorem meth_no (v:Value) (w:World):(Go.method 297 179 v "loop.example/g00632/impl.right").run Tryd.prog w=.ok (131,v) w:=by kernel_rfl

set_option maxHeartbeats 1000000 in
theorem right_no (n:Int) (w:World):Calls Tryd.prog 131 #[.int .i64 n] w fun e w'=>e=.returned (.bool (inB n 0 0))∧w=w':=by
 go_enter Tryd.func131,Tryd.ntmps131
 go_wp2
 go_ret
 refine ⟨?_,rfl⟩
 cases h:inB n 0 0
 ·rw [inB_false] at h
  have h2:(n == 0)=false:=by simp;omega
  simp [h2]
 ·rw [inB_true] at h
  have h2:(n == 0)=true:=by simp;omega
  simp [h2]

end Go.Proofs.YtojcgajjnmjjpaaDoor
