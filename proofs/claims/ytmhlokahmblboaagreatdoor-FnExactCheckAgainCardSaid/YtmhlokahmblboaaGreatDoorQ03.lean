/-
  Joined: Ops, Bug0.
-/
import Derived.Handy
import Derived.Test.YtmhlokahmblboaaGreatDoorQ01

namespace Go.Proofs.YtmhlokahmblboaaGreatDoor
set_option maxRecDepth 100000
set_option maxHeartbeats 16000000
open Go.RowKit

def inB (n a b:Int):Bool:=decide (a≤n∧n≤b)

theorem Zv {n a b:Int}:inB n a b=true↔a≤n∧n≤b:=by simp [inB]
theorem Z8 {n a b:Int}:inB n a b=false↔¬ (a≤n∧n≤b):=by simp only [inB,decide_eq_false_iff_not]

theorem YY (v:Value) (w:World):(Go.method 441 314 v "loop.example/g00632/impl.right").run Tryz.prog w=.ok (278,v) w:=by kernel_rfl

theorem YT (n:Int) (w:World):Calls Tryz.prog 278 #[.int .i64 n] w fun e w'=>e=.returned (.bool (inB n 0 1))∧w=w':=by
 cases h:inB n 0 1
 ·rw [Z8] at h
  by_cases h1:0≤n
  ·have h2:decide (n<2)=false:=by simp;omega
   clear h
   go_enter Tryz.func278,Tryz.ntmps278
   go_wp2
   go_ret
   exact ⟨rfl,rfl⟩
  clear h
  go_enter Tryz.func278,Tryz.ntmps278
  go_wp2
  go_ret
  exact ⟨rfl,rfl⟩
 rw [Zv] at h
 obtain ⟨h1,h3⟩:=h
 have h2:decide (n<2)=true:=by simp;omega
 clear h3
 go_enter Tryz.func278,Tryz.ntmps278
 go_wp2
 go_ret
 exact ⟨by simp_all,rfl⟩

theorem St (v:Value) (w:World):(Go.method 441 315 v "loop.example/g00632/impl.right").run Tryz.prog w=.ok (279,v) w:=by kernel_rfl

theorem Ty (n:Int) (w:World):Calls Tryz.prog 279 #[.int .i64 n] w fun e w'=>e=.returned (.bool (inB n 0 3))∧w=w':=by
 cases h:inB n 0 3
 ·rw [Z8] at h
  by_cases h1:0≤n
  ·have h2:decide (n<4)=false:=by simp;omega
   clear h
   go_enter Tryz.func279,Tryz.ntmps279
   go_wp2
   go_ret
   exact ⟨rfl,rfl⟩
  clear h
  go_enter Tryz.func279,Tryz.ntmps279
  go_wp2
  go_ret
  exact ⟨rfl,rfl⟩
 rw [Zv] at h
 obtain ⟨h1,h3⟩:=h
 have h2:decide (n<4)=true:=by simp;omega
 clear h3
 go_enter Tryz.func279,Tryz.ntmps279
 go_wp2
 go_ret
 exact ⟨by simp_all,rfl⟩

theorem Pa (v:Value) (w:World):(Go.method 441 317 v "loop.example/g00632/impl.right").run Tryz.prog w=.ok (281,v) w:=by kernel_rfl

theorem RX (n:Int) (w:World):Calls Tryz.prog 281 #[.int .i64 n] w fun e w'=>e=.returned (.bool (inB n 0 1))∧w=w':=by
 cases h:inB n 0 1
 ·rw [Z8] at h
  by_cases h1:0≤n
  ·have h2:decide (n<2)=false:=by simp;omega
   clear h
   go_enter Tryz.func281,Tryz.ntmps281
   go_wp2
   go_ret
   exact ⟨rfl,rfl⟩
  clear h
  go_enter Tryz.func281,Tryz.ntmps281
  go_wp2
  go_ret
  exact ⟨rfl,rfl⟩
 rw [Zv] at h
 obtain ⟨h1,h3⟩:=h
 have h2:decide (n<2)=true:=by simp;omega
 clear h3
 go_enter Tryz.func281,Tryz.ntmps281
 go_wp2
 go_ret
 exact ⟨by simp_all,rfl⟩

theorem UD (v:Value) (w:World):(Go.method 441 316 v "loop.example/g00632/impl.right").run Tryz.prog w=.ok (280,v) w:=by kernel_rfl

theorem Ua (n:Int) (w:World):Calls Tryz.prog 280 #[.int .i64 n] w fun e w'=>e=.returned (.bool (inB n 0 9))∧w=w':=by
 cases h:inB n 0 9
 ·rw [Z8] at h
  by_cases h1:0≤n
  ·have h2:decide (n≤9)=false:=by simp;omega
   clear h
   go_enter Tryz.func280,Tryz.ntmps280
   go_wp2
   go_ret
   exact ⟨rfl,rfl⟩
  clear h
  go_enter Tryz.func280,Tryz.ntmps280
  go_wp2
  go_ret
  exact ⟨rfl,rfl⟩
 rw [Zv] at h
 obtain ⟨h1,h3⟩:=h
 have h2:decide (n≤9)=true:=by simp;omega
 clear h3
 go_enter Tryz.func280,Tryz.ntmps280
 go_wp2
 go_ret
 exact ⟨by simp_all,rfl⟩

theorem NY (v:Value) (w:World):(Go.method 441 306 v "loop.example/g00632/impl.right").run Tryz.prog w=.ok (277,v) w:=by kernel_rfl

theorem P4 (n:Int) (w:World):Calls Tryz.prog 277 #[.int .i64 n] w fun e w'=>e=.returned (.bool (inB n 1 6))∧w=w':=by
 cases h:inB n 1 6
 ·rw [Z8] at h
  by_cases h1:1≤n
  ·have h2:decide (n≤6)=false:=by simp;omega
   clear h
   go_enter Tryz.func277,Tryz.ntmps277
   go_wp2
   go_ret
   exact ⟨rfl,rfl⟩
  clear h
  go_enter Tryz.func277,Tryz.ntmps277
  go_wp2
  go_ret
  exact ⟨rfl,rfl⟩
 rw [Zv] at h
 obtain ⟨h1,h3⟩:=h
 have h2:decide (n≤6)=true:=by simp;omega
 clear h3
 go_enter Tryz.func277,Tryz.ntmps277
 go_wp2
 go_ret
 exact ⟨by simp_all,rfl⟩

theorem LI (v:Value) (w:World):(Go.method 441 318 v "loop.example/g00632/impl.right").run Tryz.prog w=.ok (282,v) w:=by kernel_rfl

theorem N7 (n:Int) (w:World):Calls Tryz.prog 282 #[.int .i64 n] w fun e w'=>e=.returned (.bool (inB n 0 0))∧w=w':=by
 go_enter Tryz.func282,Tryz.ntmps282
 go_wp2
 go_ret
 refine ⟨?_,rfl⟩
 cases h:inB n 0 0
 ·rw [Z8] at h
  have h2:(n == 0)=false:=by simp;omega
  simp [h2]
 rw [Zv] at h
 have h2:(n == 0)=true:=by simp;omega
 simp [h2]

set_option linter.unusedVariables false

theorem Uh (n a b:Int) (w:World):Calls Tryz.prog 98 #[.int .i64 n,.int .i64 a,.int .i64 b] w fun e w'=>e=.returned (.bool (inB n a b))∧w=w':=by
 cases h:inB n a b
 ·exact Ta n a b w (Z8.1 h)
 exact Ui n a b w (Zv.1 h)

theorem Ll (x:I3) (w:World):Calls Tryz.prog 200 #[x.val] w fun e w'=>e=.returned x.val∧Below w.heap.size w w':=by
 obtain ⟨p,q,r⟩:=x
 unfold I3.val
 go_enter Tryz.func200,Tryz.ntmps200
 go_wp2
 go_returns
 exact ⟨rfl,by go_grown⟩

theorem ML (x:I3) (w:World):Calls Tryz.prog 113 #[x.val,x.val] w fun e w'=>e=.returned (.bool true)∧Below w.heap.size w w':=by
 obtain ⟨p,q,r⟩:=x
 unfold I3.val
 go_enter Tryz.func113,Tryz.ntmps113
 go_wp2
 go_returns
 exact ⟨rfl,by go_grown⟩

def okB (x:I3):Bool:=
 if x.1=14 then decide (x.2.1=0) && decide (x.2.2=0)
 else if x.1=12∨x.1=13 then inB x.2.1 0 2 && inB x.2.2 0 5
 else false

theorem Sk (n:Int) (w:World):Calls Tryz.prog 221 #[.int .i64 n] w fun e w'=>e=.returned (.bool (inB n 0 2))∧w=w':=by
 cases h:inB n 0 2
 ·rw [Z8] at h
  by_cases h1:0≤n
  ·have h2:decide (n<3)=false:=by simp;omega
   clear h
   go_enter Tryz.func221,Tryz.ntmps221
   go_wp2
   go_ret
   exact ⟨rfl,rfl⟩
  clear h
  go_enter Tryz.func221,Tryz.ntmps221
  go_wp2
  go_ret
  exact ⟨rfl,rfl⟩
 rw [Zv] at h
 obtain ⟨h1,h3⟩:=h
 have h2:decide (n<3)=true:=by simp;omega
 clear h3
 go_enter Tryz.func221,Tryz.ntmps221
 go_wp2
 go_ret
 exact ⟨by simp_all,rfl⟩

theorem PG (a b:Int) (w:World):Calls Tryz.prog 218 #[.agg #[.int .i64 12,.int .i64 a,.int .i64 b]] w fun e w'=>e=.returned (.bool (inB a 0 2 && inB b 0 5))∧Below w.heap.size w w':=by
 have kA:=Sk a
 generalize inB a 0 2=p at kA
 cases p
 ·go_enter Tryz.func218,Tryz.ntmps218
  go_wp2_with fail
  refine (kA _).mono ?_
  rintro e w1 ⟨rfl,rfl⟩
  go_wp2
  go_ret
  exact ⟨rfl,by go_grown⟩
 cases h:inB b 0 5
 ·rw [Z8] at h
  by_cases h1:0≤b
  ·have h2:decide (b<6)=false:=by simp;omega
   clear h
   go_enter Tryz.func218,Tryz.ntmps218
   go_wp2_with fail
   refine (kA _).mono ?_
   rintro e w1 ⟨rfl,rfl⟩
   go_wp2
   go_ret
   exact ⟨rfl,by go_grown⟩
  clear h
  go_enter Tryz.func218,Tryz.ntmps218
  go_wp2_with fail
  refine (kA _).mono ?_
  rintro e w1 ⟨rfl,rfl⟩
  go_wp2
  go_ret
  exact ⟨rfl,by go_grown⟩
 rw [Zv] at h
 obtain ⟨h1,h3⟩:=h
 have h2:decide (b<6)=true:=by simp;omega
 clear h3
 go_enter Tryz.func218,Tryz.ntmps218
 go_wp2_with fail
 refine (kA _).mono ?_
 rintro e w1 ⟨rfl,rfl⟩
 go_wp2
 go_ret
 exact ⟨by simp_all,by go_grown⟩

theorem PH (a b:Int) (w:World):Calls Tryz.prog 218 #[.agg #[.int .i64 13,.int .i64 a,.int .i64 b]] w fun e w'=>e=.returned (.bool (inB a 0 2 && inB b 0 5))∧Below w.heap.size w w':=by
 have kA:=Sk a
 generalize inB a 0 2=p at kA
 cases p
 ·go_enter Tryz.func218,Tryz.ntmps218
  go_wp2_with fail
  refine (kA _).mono ?_
  rintro e w1 ⟨rfl,rfl⟩
  go_wp2
  go_ret
  exact ⟨rfl,by go_grown⟩
 cases h:inB b 0 5
 ·rw [Z8] at h
  by_cases h1:0≤b
  ·have h2:decide (b<6)=false:=by simp;omega
   clear h
   go_enter Tryz.func218,Tryz.ntmps218
   go_wp2_with fail
   refine (kA _).mono ?_
   rintro e w1 ⟨rfl,rfl⟩
   go_wp2
   go_ret
   exact ⟨rfl,by go_grown⟩
  clear h
  go_enter Tryz.func218,Tryz.ntmps218
  go_wp2_with fail
  refine (kA _).mono ?_
  rintro e w1 ⟨rfl,rfl⟩
  go_wp2
  go_ret
  exact ⟨rfl,by go_grown⟩
 rw [Zv] at h
 obtain ⟨h1,h3⟩:=h
 have h2:decide (b<6)=true:=by simp;omega
 clear h3
 go_enter Tryz.func218,Tryz.ntmps218
 go_wp2_with fail
 refine (kA _).mono ?_
 rintro e w1 ⟨rfl,rfl⟩
 go_wp2
 go_ret
 exact ⟨by simp_all,by go_grown⟩

theorem PI (a b:Int) (w:World):Calls Tryz.prog 218 #[.agg #[.int .i64 14,.int .i64 a,.int .i64 b]] w fun e w'=>e=.returned (.bool (decide (a=0) && decide (b=0)))∧Below w.heap.size w w':=by
 by_cases h:a=0
 ·subst h
  have hb:decide (b=0)=(b == 0):=rfl
  rw [hb]
  clear hb
  simp only [decide_true,Bool.true_and]
  go_enter Tryz.func218,Tryz.ntmps218
  go_wp2
  go_ret
  exact ⟨rfl,by go_grown⟩
 go_enter Tryz.func218,Tryz.ntmps218
 go_wp2
 go_ret
 exact ⟨by simp [h],by go_grown⟩

theorem P8 (a b:Int) (w:World):Calls Tryz.prog 195 #[.agg #[.int .i64 14,.int .i64 a,.int .i64 b]] w fun e w'=>e=.returned (.bool (decide (a=0) && decide (b=0)))∧Below w.heap.size w w':=by
 by_cases h:a=0
 ·subst h
  have hb:decide (b=0)=(b == 0):=rfl
  rw [hb]
  clear hb
  simp only [decide_true,Bool.true_and]
  go_enter Tryz.func195,Tryz.ntmps195
  go_wp2
  go_ret
  exact ⟨rfl,by go_grown⟩
 go_enter Tryz.func195,Tryz.ntmps195
 go_wp2
 go_ret
 exact ⟨by simp [h],by go_grown⟩

theorem Nz (c a b:Int) (w:World) (h:c≠12∧c≠13∧c≠14):Calls Tryz.prog 218 #[.agg #[.int .i64 c,.int .i64 a,.int .i64 b]] w fun e w'=>e=.returned (.bool false)∧Below w.heap.size w w':=by
 obtain ⟨h1,h2,h3⟩:=h
 go_enter Tryz.func218,Tryz.ntmps218
 go_wp2
 go_ret
 exact ⟨rfl,by go_grown⟩

theorem Mk (c a b:Int) (w:World) (h:c≠12∧c≠13∧c≠14):Calls Tryz.prog 195 #[.agg #[.int .i64 c,.int .i64 a,.int .i64 b]] w fun e w'=>e=.returned (.bool false)∧Below w.heap.size w w':=by
 obtain ⟨h1,h2,h3⟩:=h
 go_enter Tryz.func195,Tryz.ntmps195
 go_wp2
 go_ret
 exact ⟨rfl,by go_grown⟩

theorem P6 (a b:Int) (w:World):Calls Tryz.prog 195 #[.agg #[.int .i64 12,.int .i64 a,.int .i64 b]] w fun e w'=>e=.returned (.bool (inB a 0 2 && inB b 0 5))∧Below w.heap.size w w':=by
 have kA:=Uh a 0 2
 have kB:=Uh b 0 5
 generalize inB a 0 2=p at kA
 generalize inB b 0 5=q at kB
 go_enter Tryz.func195,Tryz.ntmps195
 go_wp2_with fail
 refine (kA _).mono ?_
 rintro e w1 ⟨rfl,rfl⟩
 cases p
 ·go_wp2_with fail
  go_ret
  exact ⟨rfl,by go_grown⟩
 go_wp2_with fail
 refine (kB _).mono ?_
 rintro e w1 ⟨rfl,rfl⟩
 go_wp2_with fail
 go_ret
 exact ⟨rfl,by go_grown⟩

theorem P7 (a b:Int) (w:World):Calls Tryz.prog 195 #[.agg #[.int .i64 13,.int .i64 a,.int .i64 b]] w fun e w'=>e=.returned (.bool (inB a 0 2 && inB b 0 5))∧Below w.heap.size w w':=by
 have kA:=Uh a 0 2
 have kB:=Uh b 0 5
 generalize inB a 0 2=p at kA
 generalize inB b 0 5=q at kB
 go_enter Tryz.func195,Tryz.ntmps195
 go_wp2_with fail
 refine (kA _).mono ?_
 rintro e w1 ⟨rfl,rfl⟩
 cases p
 ·go_wp2_with fail
  go_ret
  exact ⟨rfl,by go_grown⟩
 go_wp2_with fail
 refine (kB _).mono ?_
 rintro e w1 ⟨rfl,rfl⟩
 go_wp2_with fail
 go_ret
 exact ⟨rfl,by go_grown⟩

theorem PJ (x:I3) (w:World):Calls Tryz.prog 218 #[x.val] w fun e w'=>e=.returned (.bool (okB x))∧Below w.heap.size w w':=by
 obtain ⟨c,a,b⟩:=x
 unfold I3.val okB
 by_cases h4:c=14
 ·subst h4
  simpa using PI a b w
 by_cases h2:c=12
 ·subst h2
  simpa using PG a b w
 by_cases h3:c=13
 ·subst h3
  simpa using PH a b w
 simpa [h4,h2,h3] using Nz c a b w ⟨h2,h3,h4⟩

theorem Wz (x:I3) (w:World):Calls Tryz.prog 195 #[x.val] w fun e w'=>e=.returned (.bool (okB x))∧Below w.heap.size w w':=by
 obtain ⟨c,a,b⟩:=x
 unfold I3.val okB
 by_cases h4:c=14
 ·subst h4
  simpa using P8 a b w
 by_cases h2:c=12
 ·subst h2
  simpa using P6 a b w
 by_cases h3:c=13
 ·subst h3
  simpa using P7 a b w
 simpa [h4,h2,h3] using Mk c a b w ⟨h2,h3,h4⟩

end Go.Proofs.YtmhlokahmblboaaGreatDoor
