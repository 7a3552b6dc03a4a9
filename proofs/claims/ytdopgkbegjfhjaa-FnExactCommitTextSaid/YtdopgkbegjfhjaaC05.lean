/-
  Joined: Bug0.
-/
import Derived.Test.YtdopgkbegjfhjaaC02
import Derived.Test.YtdopgkbegjfhjaaC03
import Derived.Test.YtdopgkbegjfhjaaC04

namespace Go.Proofs.Ytdopgkbegjfhjaa
set_option maxRecDepth 100000
set_option maxHeartbeats 16000000
open Go.RowKit
set_option linter.unusedVariables false

theorem l01In_isB (n a b:Int) (w:World):Calls Try.prog 24 #[.int .i64 n,.int .i64 a,.int .i64 b] w fun e w'=>e=.returned (.bool (inB n a b))∧w=w':=by
 cases h:inB n a b
 ·exact l01In_no n a b w (inB_false.1 h)
 ·exact l01In_yes n a b w (inB_true.1 h)

theorem toBug_same (x:I3) (w:World):Calls Try.prog 11 #[x.val] w fun e w'=>e=.returned x.val∧Below w.heap.size w w':=by
 obtain ⟨p,q,r⟩:=x
 unfold I3.val
 go_enter Try.func11,Try.ntmps11
 go_wp2
 go_returns
 exact ⟨rfl,by go_grown⟩

theorem eqBug_same (x:I3) (w:World):Calls Try.prog 15 #[x.val,x.val] w fun e w'=>e=.returned (.bool true)∧Below w.heap.size w w':=by
 obtain ⟨p,q,r⟩:=x
 unfold I3.val
 go_enter Try.func15,Try.ntmps15
 go_wp2
 go_returns
 exact ⟨rfl,by go_grown⟩

def okB (x:I3):Bool:=
 if x.1=14 then decide (x.2.1=0) && decide (x.2.2=0)
 else if x.1=12∨x.1=13 then inB x.2.1 0 2 && inB x.2.2 0 5
 else false

theorem isThread_is (n:Int) (w:World):Calls Try.prog 29 #[.int .i64 n] w fun e w'=>e=.returned (.bool (inB n 0 2))∧w=w':=by
 cases h:inB n 0 2
 ·rw [inB_false] at h
  by_cases h1:0≤n
  ·have h2:decide (n<3)=false:=by simp;omega
   clear h
   go_enter Try.func29,Try.ntmps29
   go_wp2
   go_ret
   exact ⟨rfl,rfl⟩
  ·clear h
   go_enter Try.func29,Try.ntmps29
   go_wp2
   go_ret
   exact ⟨rfl,rfl⟩
 ·rw [inB_true] at h
  obtain ⟨h1,h3⟩:=h
  have h2:decide (n<3)=true:=by simp;omega
  clear h3
  go_enter Try.func29,Try.ntmps29
  go_wp2
  go_ret
  exact ⟨by simp_all,rfl⟩

theorem implBugOK_12 (a b:Int) (w:World):Calls Try.prog 26 #[.agg #[.int .i64 12,.int .i64 a,.int .i64 b]] w fun e w'=>e=.returned (.bool (inB a 0 2 && inB b 0 5))∧Below w.heap.size w w':=by
 have kA:=isThread_is a
 generalize inB a 0 2=p at kA
 cases p
 ·go_enter Try.func26,Try.ntmps26
  go_wp2_with fail
  refine (kA _).mono ?_
  rintro e w1 ⟨rfl,rfl⟩
  go_wp2
  go_ret
  exact ⟨rfl,by go_grown⟩
 ·cases h:inB b 0 5
  ·rw [inB_false] at h
   by_cases h1:0≤b
   ·have h2:decide (b<6)=false:=by simp;omega
    clear h
    go_enter Try.func26,Try.ntmps26
    go_wp2_with fail
    refine (kA _).mono ?_
    rintro e w1 ⟨rfl,rfl⟩
    go_wp2
    go_ret
    exact ⟨rfl,by go_grown⟩
   ·clear h
    go_enter Try.func26,Try.ntmps26
    go_wp2_with fail
    refine (kA _).mono ?_
    rintro e w1 ⟨rfl,rfl⟩
    go_wp2
    go_ret
    exact ⟨rfl,by go_grown⟩
  ·rw [inB_true] at h
   obtain ⟨h1,h3⟩:=h
   have h2:decide (b<6)=true:=by simp;omega
   clear h3
   go_enter Try.func26,Try.ntmps26
   go_wp2_with fail
   refine (kA _).mono ?_
   rintro e w1 ⟨rfl,rfl⟩
   go_wp2
   go_ret
   exact ⟨by simp_all,by go_grown⟩

theorem implBugOK_13 (a b:Int) (w:World):Calls Try.prog 26 #[.agg #[.int .i64 13,.int .i64 a,.int .i64 b]] w fun e w'=>e=.returned (.bool (inB a 0 2 && inB b 0 5))∧Below w.heap.size w w':=by
 have kA:=isThread_is a
 generalize inB a 0 2=p at kA
 cases p
 ·go_enter Try.func26,Try.ntmps26
  go_wp2_with fail
  refine (kA _).mono ?_
  rintro e w1 ⟨rfl,rfl⟩
  go_wp2
  go_ret
  exact ⟨rfl,by go_grown⟩
 ·cases h:inB b 0 5
  ·rw [inB_false] at h
   by_cases h1:0≤b
   ·have h2:decide (b<6)=false:=by simp;omega
    clear h
    go_enter Try.func26,Try.ntmps26
    go_wp2_with fail
    refine (kA _).mono ?_
    rintro e w1 ⟨rfl,rfl⟩
    go_wp2
    go_ret
    exact ⟨rfl,by go_grown⟩
   ·clear h
    go_enter Try.func26,Try.ntmps26
    go_wp2_with fail
    refine (kA _).mono ?_
    rintro e w1 ⟨rfl,rfl⟩
    go_wp2
    go_ret
    exact ⟨rfl,by go_grown⟩
  ·rw [inB_true] at h
   obtain ⟨h1,h3⟩:=h
   have h2:decide (b<6)=true:=by simp;omega
   clear h3
   go_enter Try.func26,Try.ntmps26
   go_wp2_with fail
   refine (kA _).mono ?_
   rintro e w1 ⟨rfl,rfl⟩
   go_wp2
   go_ret
   exact ⟨by simp_all,by go_grown⟩

theorem implBugOK_14 (a b:Int) (w:World):Calls Try.prog 26 #[.agg #[.int .i64 14,.int .i64 a,.int .i64 b]] w fun e w'=>e=.returned (.bool (decide (a=0) && decide (b=0)))∧Below w.heap.size w w':=by
 by_cases h:a=0
 ·subst h
  have hb:decide (b=0)=(b == 0):=rfl
  rw [hb]
  clear hb
  simp only [decide_true,Bool.true_and]
  go_enter Try.func26,Try.ntmps26
  go_wp2
  go_ret
  exact ⟨rfl,by go_grown⟩
 ·go_enter Try.func26,Try.ntmps26
  go_wp2
  go_ret
  exact ⟨by simp [h],by go_grown⟩

theorem specBugOK_14 (a b:Int) (w:World):Calls Try.prog 16 #[.agg #[.int .i64 14,.int .i64 a,.int .i64 b]] w fun e w'=>e=.returned (.bool (decide (a=0) && decide (b=0)))∧Below w.heap.size w w':=by
 by_cases h:a=0
 ·subst h
  have hb:decide (b=0)=(b == 0):=rfl
  rw [hb]
  clear hb
  simp only [decide_true,Bool.true_and]
  go_enter Try.func16,Try.ntmps16
  go_wp2
  go_ret
  exact ⟨rfl,by go_grown⟩
 ·go_enter Try.func16,Try.ntmps16
  go_wp2
  go_ret
  exact ⟨by simp [h],by go_grown⟩

theorem implBugOK_0 (c a b:Int) (w:World) (h:c≠12∧c≠13∧c≠14):Calls Try.prog 26 #[.agg #[.int .i64 c,.int .i64 a,.int .i64 b]] w fun e w'=>e=.returned (.bool false)∧Below w.heap.size w w':=by
 obtain ⟨h1,h2,h3⟩:=h
 go_enter Try.func26,Try.ntmps26
 go_wp2
 go_ret
 exact ⟨rfl,by go_grown⟩

theorem specBugOK_0 (c a b:Int) (w:World) (h:c≠12∧c≠13∧c≠14):Calls Try.prog 16 #[.agg #[.int .i64 c,.int .i64 a,.int .i64 b]] w fun e w'=>e=.returned (.bool false)∧Below w.heap.size w w':=by
 obtain ⟨h1,h2,h3⟩:=h
 go_enter Try.func16,Try.ntmps16
 go_wp2
 go_ret
 exact ⟨rfl,by go_grown⟩

theorem specBugOK_12 (a b:Int) (w:World):Calls Try.prog 16 #[.agg #[.int .i64 12,.int .i64 a,.int .i64 b]] w fun e w'=>e=.returned (.bool (inB a 0 2 && inB b 0 5))∧Below w.heap.size w w':=by
 have kA:=l01In_isB a 0 2
 have kB:=l01In_isB b 0 5
 generalize inB a 0 2=p at kA
 generalize inB b 0 5=q at kB
 go_enter Try.func16,Try.ntmps16
 go_wp2_with fail
 refine (kA _).mono ?_
 rintro e w1 ⟨rfl,rfl⟩
 cases p
 ·go_wp2_with fail
  go_ret
  exact ⟨rfl,by go_grown⟩
 ·go_wp2_with fail
  refine (kB _).mono ?_
  rintro e w1 ⟨rfl,rfl⟩
  go_wp2_with fail
  go_ret
  exact ⟨rfl,by go_grown⟩

theorem specBugOK_13 (a b:Int) (w:World):Calls Try.prog 16 #[.agg #[.int .i64 13,.int .i64 a,.int .i64 b]] w fun e w'=>e=.returned (.bool (inB a 0 2 && inB b 0 5))∧Below w.heap.size w w':=by
 have kA:=l01In_isB a 0 2
 have kB:=l01In_isB b 0 5
 generalize inB a 0 2=p at kA
 generalize inB b 0 5=q at kB
 go_enter Try.func16,Try.ntmps16
 go_wp2_with fail
 refine (kA _).mono ?_
 rintro e w1 ⟨rfl,rfl⟩
 cases p
 ·go_wp2_with fail
  go_ret
  exact ⟨rfl,by go_grown⟩
 ·go_wp2_with fail
  refine (kB _).mono ?_
  rintro e w1 ⟨rfl,rfl⟩
  go_wp2_with fail
  go_ret
  exact ⟨rfl,by go_grown⟩

theorem implBugOK_is (x:I3) (w:World):Calls Try.prog 26 #[x.val] w fun e w'=>e=.returned (.bool (okB x))∧Below w.heap.size w w':=by
 obtain ⟨c,a,b⟩:=x
 unfold I3.val okB
 by_cases h4:c=14
 ·subst h4
  simpa using implBugOK_14 a b w
 by_cases h2:c=12
 ·subst h2
  simpa using implBugOK_12 a b w
 by_cases h3:c=13
 ·subst h3
  simpa using implBugOK_13 a b w
 ·simpa [h4,h2,h3] using implBugOK_0 c a b w ⟨h2,h3,h4⟩

theorem specBugOK_is (x:I3) (w:World):Calls Try.prog 16 #[x.val] w fun e w'=>e=.returned (.bool (okB x))∧Below w.heap.size w w':=by
 obtain ⟨c,a,b⟩:=x
 unfold I3.val okB
 by_cases h4:c=14
 ·subst h4
  simpa using specBugOK_14 a b w
 by_cases h2:c=12
 ·subst h2
  simpa using specBugOK_12 a b w
 by_cases h3:c=13
 ·subst h3
  simpa using specBugOK_13 a b w
 ·simpa [h4,h2,h3] using specBugOK_0 c a b w ⟨h2,h3,h4⟩

end Go.Proofs.Ytdopgkbegjfhjaa
