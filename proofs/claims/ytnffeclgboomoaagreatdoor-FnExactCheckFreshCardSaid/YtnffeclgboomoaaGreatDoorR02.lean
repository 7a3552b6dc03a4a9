/-
  Joined: Bug0.
-/
import Derived.Test.YtnffeclgboomoaaGreatDoorR01

namespace Go.Proofs.YtnffeclgboomoaaGreatDoor
set_option maxRecDepth 100000
set_option maxHeartbeats 16000000
open Go.RowKit
set_option linter.unusedVariables false

theorem Ma (x:I3) (w:World):Calls Tryz.prog 136 #[x.val,x.val] w fun e w'=>e=.returned (.bool true)∧Below w.heap.size w w':=by
 obtain ⟨p,q,r⟩:=x
 unfold I3.val
 go_enter Tryz.func136,Tryz.ntmps136
 go_wp2
 go_returns
 exact ⟨rfl,by go_grown⟩

def okB (x:I3):Bool:=
 if x.1=14 then decide (x.2.1=0) && decide (x.2.2=0)
 else if x.1=12∨x.1=13 then inB x.2.1 0 2 && inB x.2.2 0 5
 else false

theorem Sg (n:Int) (w:World):Calls Tryz.prog 149 #[.int .i64 n] w fun e w'=>e=.returned (.bool (inB n 0 2))∧w=w':=by
 cases h:inB n 0 2
 ·rw [Yl] at h
  by_cases h1:0≤n
  ·have h2:decide (n<3)=false:=by simp;omega
   clear h
   go_enter Tryz.func149,Tryz.ntmps149
   go_wp2
   go_ret
   exact ⟨rfl,rfl⟩
  clear h
  go_enter Tryz.func149,Tryz.ntmps149
  go_wp2
  go_ret
  exact ⟨rfl,rfl⟩
 rw [ZC] at h
 obtain ⟨h1,h3⟩:=h
 have h2:decide (n<3)=true:=by simp;omega
 clear h3
 go_enter Tryz.func149,Tryz.ntmps149
 go_wp2
 go_ret
 exact ⟨by simp_all,rfl⟩

theorem Pg (a b:Int) (w:World):Calls Tryz.prog 201 #[.agg #[.int .i64 12,.int .i64 a,.int .i64 b]] w fun e w'=>e=.returned (.bool (inB a 0 2 && inB b 0 5))∧Below w.heap.size w w':=by
 have kA:=Sg a
 generalize inB a 0 2=p at kA
 cases p
 ·go_enter Tryz.func201,Tryz.ntmps201
  go_wp2_with fail
  refine (kA _).mono ?_
  rintro e w1 ⟨rfl,rfl⟩
  go_wp2
  go_ret
  exact ⟨rfl,by go_grown⟩
 cases h:inB b 0 5
 ·rw [Yl] at h
  by_cases h1:0≤b
  ·have h2:decide (b<6)=false:=by simp;omega
   clear h
   go_enter Tryz.func201,Tryz.ntmps201
   go_wp2_with fail
   refine (kA _).mono ?_
   rintro e w1 ⟨rfl,rfl⟩
   go_wp2
   go_ret
   exact ⟨rfl,by go_grown⟩
  clear h
  go_enter Tryz.func201,Tryz.ntmps201
  go_wp2_with fail
  refine (kA _).mono ?_
  rintro e w1 ⟨rfl,rfl⟩
  go_wp2
  go_ret
  exact ⟨rfl,by go_grown⟩
 rw [ZC] at h
 obtain ⟨h1,h3⟩:=h
 have h2:decide (b<6)=true:=by simp;omega
 clear h3
 go_enter Tryz.func201,Tryz.ntmps201
 go_wp2_with fail
 refine (kA _).mono ?_
 rintro e w1 ⟨rfl,rfl⟩
 go_wp2
 go_ret
 exact ⟨by simp_all,by go_grown⟩

theorem Ph (a b:Int) (w:World):Calls Tryz.prog 201 #[.agg #[.int .i64 13,.int .i64 a,.int .i64 b]] w fun e w'=>e=.returned (.bool (inB a 0 2 && inB b 0 5))∧Below w.heap.size w w':=by
 have kA:=Sg a
 generalize inB a 0 2=p at kA
 cases p
 ·go_enter Tryz.func201,Tryz.ntmps201
  go_wp2_with fail
  refine (kA _).mono ?_
  rintro e w1 ⟨rfl,rfl⟩
  go_wp2
  go_ret
  exact ⟨rfl,by go_grown⟩
 cases h:inB b 0 5
 ·rw [Yl] at h
  by_cases h1:0≤b
  ·have h2:decide (b<6)=false:=by simp;omega
   clear h
   go_enter Tryz.func201,Tryz.ntmps201
   go_wp2_with fail
   refine (kA _).mono ?_
   rintro e w1 ⟨rfl,rfl⟩
   go_wp2
   go_ret
   exact ⟨rfl,by go_grown⟩
  clear h
  go_enter Tryz.func201,Tryz.ntmps201
  go_wp2_with fail
  refine (kA _).mono ?_
  rintro e w1 ⟨rfl,rfl⟩
  go_wp2
  go_ret
  exact ⟨rfl,by go_grown⟩
 rw [ZC] at h
 obtain ⟨h1,h3⟩:=h
 have h2:decide (b<6)=true:=by simp;omega
 clear h3
 go_enter Tryz.func201,Tryz.ntmps201
 go_wp2_with fail
 refine (kA _).mono ?_
 rintro e w1 ⟨rfl,rfl⟩
 go_wp2
 go_ret
 exact ⟨by simp_all,by go_grown⟩

theorem Pi (a b:Int) (w:World):Calls Tryz.prog 201 #[.agg #[.int .i64 14,.int .i64 a,.int .i64 b]] w fun e w'=>e=.returned (.bool (decide (a=0) && decide (b=0)))∧Below w.heap.size w w':=by
 by_cases h:a=0
 ·subst h
  have hb:decide (b=0)=(b == 0):=rfl
  rw [hb]
  clear hb
  simp only [decide_true,Bool.true_and]
  go_enter Tryz.func201,Tryz.ntmps201
  go_wp2
  go_ret
  exact ⟨rfl,by go_grown⟩
 go_enter Tryz.func201,Tryz.ntmps201
 go_wp2
 go_ret
 exact ⟨by simp [h],by go_grown⟩

theorem P2 (c a b:Int) (w:World) (h:c≠12∧c≠13∧c≠14):Calls Tryz.prog 201 #[.agg #[.int .i64 c,.int .i64 a,.int .i64 b]] w fun e w'=>e=.returned (.bool false)∧Below w.heap.size w w':=by
 obtain ⟨h1,h2,h3⟩:=h
 go_enter Tryz.func201,Tryz.ntmps201
 go_wp2
 go_ret
 exact ⟨rfl,by go_grown⟩

theorem Pj (x:I3) (w:World):Calls Tryz.prog 201 #[x.val] w fun e w'=>e=.returned (.bool (okB x))∧Below w.heap.size w w':=by
 obtain ⟨c,a,b⟩:=x
 unfold I3.val okB
 by_cases h4:c=14
 ·subst h4
  simpa using Pi a b w
 by_cases h2:c=12
 ·subst h2
  simpa using Pg a b w
 by_cases h3:c=13
 ·subst h3
  simpa using Ph a b w
 simpa [h4,h2,h3] using P2 c a b w ⟨h2,h3,h4⟩

end Go.Proofs.YtnffeclgboomoaaGreatDoor
