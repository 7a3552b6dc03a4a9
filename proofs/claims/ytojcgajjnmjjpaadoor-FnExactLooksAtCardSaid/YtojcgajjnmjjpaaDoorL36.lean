/-
  Joined: ItmI.
-/
import Derived.Test.YtojcgajjnmjjpaaDoorProg
import Derived.Deep.RegionHeld3
import Derived.KernelRfl
import Derived.Tactics
import Derived.WalkKit
import Derived.WalkSpells
import Derived.WalkLawsBesides
import Derived.OwnWalk

namespace Go.Proofs.YtojcgajjnmjjpaaDoor
set_option maxRecDepth 100000
open Go.RowKit
set_option linter.unusedVariables false

def inB8 (n a b:Int):Bool:=decide (a≤n∧n≤b)
theorem inB8_true {n a b:Int}:inB8 n a b=true↔a≤n∧n≤b:=by simp [inB8]
theorem inB8_false {n a b:Int}:inB8 n a b=false↔¬ (a≤n∧n≤b):=by simp only [inB8,decide_eq_false_iff_not]
theorem isThread8 (n:Int) (w:World):Calls Tryd.prog 90 #[.int .i64 n] w fun e w'=>e=.returned (.bool (inB8 n 0 2))∧w=w':=by
 cases h:inB8 n 0 2
 ·rw [inB8_false] at h
  by_cases h1:0≤n
  ·have h2:decide (n<3)=false:=by simp;omega
   clear h
   go_enter Tryd.func90,Tryd.ntmps90
   go_wp2
   go_ret
   exact ⟨rfl,rfl⟩
  ·clear h
   go_enter Tryd.func90,Tryd.ntmps90
   go_wp2
   go_ret
   exact ⟨rfl,rfl⟩
 ·rw [inB8_true] at h
  obtain ⟨h1,h3⟩:=h
  have h2:decide (n<3)=true:=by simp;omega
  clear h3
  go_enter Tryd.func90,Tryd.ntmps90
  go_wp2
  go_ret
  exact ⟨by simp_all,rfl⟩

theorem isPlace8 (n:Int) (w:World):Calls Tryd.prog 91 #[.int .i64 n] w fun e w'=>e=.returned (.bool (inB8 n 0 6))∧w=w':=by
 cases h:inB8 n 0 6
 ·rw [inB8_false] at h
  by_cases h1:0≤n
  ·have h2:decide (n≤6)=false:=by simp;omega
   clear h
   go_enter Tryd.func91,Tryd.ntmps91
   go_wp2
   go_ret
   exact ⟨rfl,rfl⟩
  ·clear h
   go_enter Tryd.func91,Tryd.ntmps91
   go_wp2
   go_ret
   exact ⟨rfl,rfl⟩
 ·rw [inB8_true] at h
  obtain ⟨h1,h3⟩:=h
  have h2:decide (n≤6)=true:=by simp;omega
  clear h3
  go_enter Tryd.func91,Tryd.ntmps91
  go_wp2
  go_ret
  exact ⟨by simp_all,rfl⟩

def itemV (k pc:Int):Value:=if inB8 k 0 2=true∧inB8 pc 0 6=true then .tuple #[.int .i64 (8*k+pc),.int .i64 0] else .tuple #[.int .i64 0,.int .i64 4]
theorem itemV_yes {k pc:Int} (h1:inB8 k 0 2=true) (h2:inB8 pc 0 6=true):itemV k pc=.tuple #[.int .i64 (8*k+pc),.int .i64 0]:=if_pos ⟨h1,h2⟩
theorem itemV_no1 {k pc:Int} (h1:inB8 k 0 2=false):itemV k pc=.tuple #[.int .i64 0,.int .i64 4]:=if_neg (by rw [h1];simp)
theorem itemV_no2 {k pc:Int} (h2:inB8 pc 0 6=false):itemV k pc=.tuple #[.int .i64 0,.int .i64 4]:=if_neg (by rw [h2];simp)

set_option maxHeartbeats 1000000 in
theorem implItemOf_is (k pc:Int) (w:World):Calls Tryd.prog 66 #[.int .i64 k,.int .i64 pc] w fun e w'=>e=.returned (itemV k pc)∧w=w':=by
 have kT:=isThread8 k
 have kP:=isPlace8 pc
 cases hA:inB8 k 0 2
 ·rw [itemV_no1 hA]
  rw [hA] at kT
  clear hA
  go_enter Tryd.func66,Tryd.ntmps66
  go_wp2_with fail
  refine (kT _).mono ?_
  rintro e w1 ⟨rfl,rfl⟩
  go_wp2
  go_ret2
  exact ⟨rfl,rfl⟩
 ·cases hB:inB8 pc 0 6
  ·rw [itemV_no2 hB]
   rw [hA] at kT
   rw [hB] at kP
   clear hA hB
   go_enter Tryd.func66,Tryd.ntmps66
   go_wp2_with fail
   refine (kT _).mono ?_
   rintro e w1 ⟨rfl,rfl⟩
   go_wp2_with fail
   refine (kP _).mono ?_
   rintro e w1 ⟨rfl,rfl⟩
   go_wp2
   go_ret2
   exact ⟨rfl,rfl⟩
  ·rw [itemV_yes hA hB]
   rw [hA] at kT
   rw [hB] at kP
   obtain ⟨a1,a2⟩:=inB8_true.1 hA
   obtain ⟨b1,b2⟩:=inB8_true.1 hB
   clear hA hB
   have q1:IntKind.i64.wrap (8*k)=8*k:=by rw [IntKind.wrap_i64];omega
   have q2:IntKind.i64.wrap (8*k+pc)=8*k+pc:=by rw [IntKind.wrap_i64];omega
   go_enter Tryd.func66,Tryd.ntmps66
   go_wp2_with fail
   refine (kT _).mono ?_
   rintro e w1 ⟨rfl,rfl⟩
   go_wp2_with fail
   refine (kP _).mono ?_
   rintro e w1 ⟨rfl,rfl⟩
   go_wp2
   go_ret2
   exact ⟨rfl,rfl⟩

theorem l08Item_is (k pc:Int) (w:World) (h1:inB8 k 0 2=true) (h2:inB8 pc 0 6=true):Calls Tryd.prog 65 #[.int .i64 k,.int .i64 pc] w fun e w'=>e=.returned (.int .i64 (8*k+pc))∧w=w':=by
 obtain ⟨a1,a2⟩:=inB8_true.1 h1
 obtain ⟨b1,b2⟩:=inB8_true.1 h2
 clear h1 h2
 have q1:IntKind.i64.wrap (8*k)=8*k:=by rw [IntKind.wrap_i64];omega
 have q2:IntKind.i64.wrap (8*k+pc)=8*k+pc:=by rw [IntKind.wrap_i64];omega
 go_enter Tryd.func65,Tryd.ntmps65
 go_wp2
 go_ret
 exact ⟨rfl,rfl⟩

end Go.Proofs.YtojcgajjnmjjpaaDoor
