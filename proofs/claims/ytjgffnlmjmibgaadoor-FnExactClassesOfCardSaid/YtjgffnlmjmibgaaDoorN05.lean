/-
  Joined: InstrS.
-/
import Derived.Test.YtjgffnlmjmibgaaDoorN03

namespace Go.Proofs.YtjgffnlmjmibgaaDoor
set_option maxRecDepth 100000
set_option maxHeartbeats 16000000
open Go.RowKit

theorem l01In_is (n a b:Int) (w:World):Calls Tryd.prog 66 #[.int .i64 n,.int .i64 a,.int .i64 b] w fun e w'=>e=.returned (.bool (inB n a b))∧w=w':=by
 cases h:inB n a b
 ·exact l01In_no n a b w (inB_false.1 h)
 ·exact l01In_yes n a b w (inB_true.1 h)

theorem specOK_1 (a b:Int) (w:World):Calls Tryd.prog 65 #[.agg #[.int .i64 1,.int .i64 a,.int .i64 b]] w fun e w'=>e=.returned (.bool (inB a 0 1 && inB b 0 3))∧Below w.heap.size w w':=by
 have kA:=l01In_is a 0 1
 have kB:=l01In_is b 0 3
 generalize inB a 0 1=p at kA
 generalize inB b 0 3=q at kB
 go_enter Tryd.func65,Tryd.ntmps65
 go_wp2_with fail
 refine (kA _).mono ?_
 rintro e w1 ⟨rfl,rfl⟩
 cases p
 ·go_wp2_with fail
  go_ret
  exact ⟨rfl,by go_grown⟩
 ·go_wp2_with fail
  refine (kB _).mono ?_
  rintro e w1 ⟨rfl,rfl⟩
  go_wp2_with fail
  go_ret
  exact ⟨rfl,by go_grown⟩

theorem specOK_2 (a b:Int) (w:World):Calls Tryd.prog 65 #[.agg #[.int .i64 2,.int .i64 a,.int .i64 b]] w fun e w'=>e=.returned (.bool (inB a 0 3 && inB b 0 1))∧Below w.heap.size w w':=by
 have kA:=l01In_is a 0 3
 have kB:=l01In_is b 0 1
 generalize inB a 0 3=p at kA
 generalize inB b 0 1=q at kB
 go_enter Tryd.func65,Tryd.ntmps65
 go_wp2_with fail
 refine (kA _).mono ?_
 rintro e w1 ⟨rfl,rfl⟩
 cases p
 ·go_wp2_with fail
  go_ret
  exact ⟨rfl,by go_grown⟩
 ·go_wp2_with fail
  refine (kB _).mono ?_
  rintro e w1 ⟨rfl,rfl⟩
  go_wp2_with fail
  go_ret
  exact ⟨rfl,by go_grown⟩

theorem specOK_3 (a b:Int) (w:World):Calls Tryd.prog 65 #[.agg #[.int .i64 3,.int .i64 a,.int .i64 b]] w fun e w'=>e=.returned (.bool (inB a 0 1 && inB b 0 9))∧Below w.heap.size w w':=by
 have kA:=l01In_is a 0 1
 have kB:=l01In_is b 0 9
 generalize inB a 0 1=p at kA
 generalize inB b 0 9=q at kB
 go_enter Tryd.func65,Tryd.ntmps65
 go_wp2_with fail
 refine (kA _).mono ?_
 rintro e w1 ⟨rfl,rfl⟩
 cases p
 ·go_wp2_with fail
  go_ret
  exact ⟨rfl,by go_grown⟩
 ·go_wp2_with fail
  refine (kB _).mono ?_
  rintro e w1 ⟨rfl,rfl⟩
  go_wp2_with fail
  go_ret
  exact ⟨rfl,by go_grown⟩

theorem specOK_4 (a b:Int) (w:World):Calls Tryd.prog 65 #[.agg #[.int .i64 4,.int .i64 a,.int .i64 b]] w fun e w'=>e=.returned (.bool (inB a 0 1 && inB b 0 9))∧Below w.heap.size w w':=by
 have kA:=l01In_is a 0 1
 have kB:=l01In_is b 0 9
 generalize inB a 0 1=p at kA
 generalize inB b 0 9=q at kB
 go_enter Tryd.func65,Tryd.ntmps65
 go_wp2_with fail
 refine (kA _).mono ?_
 rintro e w1 ⟨rfl,rfl⟩
 cases p
 ·go_wp2_with fail
  go_ret
  exact ⟨rfl,by go_grown⟩
 ·go_wp2_with fail
  refine (kB _).mono ?_
  rintro e w1 ⟨rfl,rfl⟩
  go_wp2_with fail
  go_ret
  exact ⟨rfl,by go_grown⟩

theorem specOK_5 (a b:Int) (w:World):Calls Tryd.prog 65 #[.agg #[.int .i64 5,.int .i64 a,.int .i64 b]] w fun e w'=>e=.returned (.bool (inB a 0 1 && inB b 0 0))∧Below w.heap.size w w':=by
 have kA:=l01In_is a 0 1
 generalize inB a 0 1=p at kA
 have kB:(b == 0)=inB b 0 0:=by
  cases h:inB b 0 0
  ·rw [inB_false] at h
   simp;omega
  ·rw [inB_true] at h
   simp;omega
 rw [← kB]
 clear kB
 go_enter Tryd.func65,Tryd.ntmps65
 go_wp2_with fail
 refine (kA _).mono ?_
 rintro e w1 ⟨rfl,rfl⟩
 cases p
 ·go_wp2_with fail
  go_ret
  exact ⟨rfl,by go_grown⟩
 ·go_wp2_with fail
  go_ret
  exact ⟨by simp,by go_grown⟩

theorem specOK_6 (a b:Int) (w:World):Calls Tryd.prog 65 #[.agg #[.int .i64 6,.int .i64 a,.int .i64 b]] w fun e w'=>e=.returned (.bool (inB a 0 1 && inB b 0 0))∧Below w.heap.size w w':=by
 have kA:=l01In_is a 0 1
 generalize inB a 0 1=p at kA
 have kB:(b == 0)=inB b 0 0:=by
  cases h:inB b 0 0
  ·rw [inB_false] at h
   simp;omega
  ·rw [inB_true] at h
   simp;omega
 rw [← kB]
 clear kB
 go_enter Tryd.func65,Tryd.ntmps65
 go_wp2_with fail
 refine (kA _).mono ?_
 rintro e w1 ⟨rfl,rfl⟩
 cases p
 ·go_wp2_with fail
  go_ret
  exact ⟨rfl,by go_grown⟩
 ·go_wp2_with fail
  go_ret
  exact ⟨by simp,by go_grown⟩

theorem specOK_7 (a b:Int) (w:World):Calls Tryd.prog 65 #[.agg #[.int .i64 7,.int .i64 a,.int .i64 b]] w fun e w'=>e=.returned (.bool (inB a 0 1 && inB b 1 6))∧Below w.heap.size w w':=by
 have kA:=l01In_is a 0 1
 have kB:=l01In_is b 1 6
 generalize inB a 0 1=p at kA
 generalize inB b 1 6=q at kB
 go_enter Tryd.func65,Tryd.ntmps65
 go_wp2_with fail
 refine (kA _).mono ?_
 rintro e w1 ⟨rfl,rfl⟩
 cases p
 ·go_wp2_with fail
  go_ret
  exact ⟨rfl,by go_grown⟩
 ·go_wp2_with fail
  refine (kB _).mono ?_
  rintro e w1 ⟨rfl,rfl⟩
  go_wp2_with fail
  go_ret
  exact ⟨rfl,by go_grown⟩

theorem specOK_8 (a b:Int) (w:World):Calls Tryd.prog 65 #[.agg #[.int .i64 8,.int .i64 a,.int .i64 b]] w fun e w'=>e=.returned (.bool (inB a 0 1 && inB b 0 9))∧Below w.heap.size w w':=by
 have kA:=l01In_is a 0 1
 have kB:=l01In_is b 0 9
 generalize inB a 0 1=p at kA
 generalize inB b 0 9=q at kB
 go_enter Tryd.func65,Tryd.ntmps65
 go_wp2_with fail
 refine (kA _).mono ?_
 rintro e w1 ⟨rfl,rfl⟩
 cases p
 ·go_wp2_with fail
  go_ret
  exact ⟨rfl,by go_grown⟩
 ·go_wp2_with fail
  refine (kB _).mono ?_
  rintro e w1 ⟨rfl,rfl⟩
  go_wp2_with fail
  go_ret
  exact ⟨rfl,by go_grown⟩

theorem specOK_0 (c a b:Int) (w:World) (h:c≠1∧c≠2∧c≠3∧c≠4∧c≠5∧c≠6∧c≠7∧c≠8):Calls Tryd.prog 65 #[.agg #[.int .i64 c,.int .i64 a,.int .i64 b]] w fun e w'=>e=.returned (.bool false)∧Below w.heap.size w w':=by
 obtain ⟨h1,h2,h3,h4,h5,h6,h7,h8⟩:=h
 go_enter Tryd.func65,Tryd.ntmps65
 go_wp2
 go_ret
 exact ⟨rfl,by go_grown⟩

theorem specOK_is (x:I3) (w:World):Calls Tryd.prog 65 #[x.val] w fun e w'=>e=.returned (.bool (okI x))∧Below w.heap.size w w':=by
 obtain ⟨c,a,b⟩:=x
 unfold I3.val okI
 rcases op_cases (c,a,b) with h | h | h | h | h | h | h | h | h

 ·obtain rfl:c=1:=h
  simpa using specOK_1 a b w
 ·obtain rfl:c=2:=h
  simpa using specOK_2 a b w
 ·obtain rfl:c=3:=h
  simpa using specOK_3 a b w
 ·obtain rfl:c=4:=h
  simpa using specOK_4 a b w
 ·obtain rfl:c=5:=h
  simpa using specOK_5 a b w
 ·obtain rfl:c=6:=h
  simpa using specOK_6 a b w
 ·obtain rfl:c=7:=h
  simpa using specOK_7 a b w
 ·obtain rfl:c=8:=h
  simpa using specOK_8 a b w
 ·have h':=h
  obtain ⟨h1,h2,h3,h4,h5,h6,h7,h8⟩:=h
  simp only [] at h1 h2 h3 h4 h5 h6 h7 h8
  rw [if_neg h1,if_neg h2,if_neg (by simp;omega),if_neg (by simp;omega),if_neg h7]
  exact specOK_0 c a b w h'
end Go.Proofs.YtjgffnlmjmibgaaDoor
