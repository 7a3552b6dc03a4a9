/-
  Joined: Ops, InstrI.
-/
import Derived.Handy
import Derived.Shelf.Abstract
import Derived.Test.YtjgffnlmjmibgaaGreatDoorE02

namespace Go.Proofs.YtjgffnlmjmibgaaGreatDoor
set_option maxRecDepth 100000
set_option maxHeartbeats 16000000
open Go.RowKit

def inB (n a b:Int):Bool:=decide (a≤n∧n≤b)

theorem inB_true {n a b:Int}:inB n a b=true↔a≤n∧n≤b:=by simp [inB]
theorem inB_false {n a b:Int}:inB n a b=false↔¬ (a≤n∧n≤b):=by simp only [inB,decide_eq_false_iff_not]

theorem meth_register (v:Value) (w:World):(Go.method 364 245 v "loop.example/g00632/impl.right").run Tryz.prog w=.ok (199,v) w:=by kernel_rfl

theorem right_register (n:Int) (w:World):Calls Tryz.prog 199 #[.int .i64 n] w fun e w'=>e=.returned (.bool (inB n 0 1))∧w=w':=by
 cases h:inB n 0 1
 ·rw [inB_false] at h
  by_cases h1:0≤n
  ·have h2:decide (n<2)=false:=by simp;omega
   clear h
   go_enter Tryz.func199,Tryz.ntmps199
   go_wp2
   go_ret
   exact ⟨rfl,rfl⟩
  ·clear h
   go_enter Tryz.func199,Tryz.ntmps199
   go_wp2
   go_ret
   exact ⟨rfl,rfl⟩
 ·rw [inB_true] at h
  obtain ⟨h1,h3⟩:=h
  have h2:decide (n<2)=true:=by simp;omega
  clear h3
  go_enter Tryz.func199,Tryz.ntmps199
  go_wp2
  go_ret
  exact ⟨by simp_all,rfl⟩

theorem meth_shared (v:Value) (w:World):(Go.method 364 246 v "loop.example/g00632/impl.right").run Tryz.prog w=.ok (200,v) w:=by kernel_rfl

theorem right_shared (n:Int) (w:World):Calls Tryz.prog 200 #[.int .i64 n] w fun e w'=>e=.returned (.bool (inB n 0 3))∧w=w':=by
 cases h:inB n 0 3
 ·rw [inB_false] at h
  by_cases h1:0≤n
  ·have h2:decide (n<4)=false:=by simp;omega
   clear h
   go_enter Tryz.func200,Tryz.ntmps200
   go_wp2
   go_ret
   exact ⟨rfl,rfl⟩
  ·clear h
   go_enter Tryz.func200,Tryz.ntmps200
   go_wp2
   go_ret
   exact ⟨rfl,rfl⟩
 ·rw [inB_true] at h
  obtain ⟨h1,h3⟩:=h
  have h2:decide (n<4)=true:=by simp;omega
  clear h3
  go_enter Tryz.func200,Tryz.ntmps200
  go_wp2
  go_ret
  exact ⟨by simp_all,rfl⟩

theorem meth_lock (v:Value) (w:World):(Go.method 364 248 v "loop.example/g00632/impl.right").run Tryz.prog w=.ok (202,v) w:=by kernel_rfl

theorem right_lock (n:Int) (w:World):Calls Tryz.prog 202 #[.int .i64 n] w fun e w'=>e=.returned (.bool (inB n 0 1))∧w=w':=by
 cases h:inB n 0 1
 ·rw [inB_false] at h
  by_cases h1:0≤n
  ·have h2:decide (n<2)=false:=by simp;omega
   clear h
   go_enter Tryz.func202,Tryz.ntmps202
   go_wp2
   go_ret
   exact ⟨rfl,rfl⟩
  ·clear h
   go_enter Tryz.func202,Tryz.ntmps202
   go_wp2
   go_ret
   exact ⟨rfl,rfl⟩
 ·rw [inB_true] at h
  obtain ⟨h1,h3⟩:=h
  have h2:decide (n<2)=true:=by simp;omega
  clear h3
  go_enter Tryz.func202,Tryz.ntmps202
  go_wp2
  go_ret
  exact ⟨by simp_all,rfl⟩

theorem meth_value (v:Value) (w:World):(Go.method 364 247 v "loop.example/g00632/impl.right").run Tryz.prog w=.ok (201,v) w:=by kernel_rfl

theorem right_value (n:Int) (w:World):Calls Tryz.prog 201 #[.int .i64 n] w fun e w'=>e=.returned (.bool (inB n 0 9))∧w=w':=by
 cases h:inB n 0 9
 ·rw [inB_false] at h
  by_cases h1:0≤n
  ·have h2:decide (n≤9)=false:=by simp;omega
   clear h
   go_enter Tryz.func201,Tryz.ntmps201
   go_wp2
   go_ret
   exact ⟨rfl,rfl⟩
  ·clear h
   go_enter Tryz.func201,Tryz.ntmps201
   go_wp2
   go_ret
   exact ⟨rfl,rfl⟩
 ·rw [inB_true] at h
  obtain ⟨h1,h3⟩:=h
  have h2:decide (n≤9)=true:=by simp;omega
  clear h3
  go_enter Tryz.func201,Tryz.ntmps201
  go_wp2
  go_ret
  exact ⟨by simp_all,rfl⟩

theorem meth_target (v:Value) (w:World):(Go.method 364 241 v "loop.example/g00632/impl.right").run Tryz.prog w=.ok (198,v) w:=by kernel_rfl

theorem right_target (n:Int) (w:World):Calls Tryz.prog 198 #[.int .i64 n] w fun e w'=>e=.returned (.bool (inB n 1 6))∧w=w':=by
 cases h:inB n 1 6
 ·rw [inB_false] at h
  by_cases h1:1≤n
  ·have h2:decide (n≤6)=false:=by simp;omega
   clear h
   go_enter Tryz.func198,Tryz.ntmps198
   go_wp2
   go_ret
   exact ⟨rfl,rfl⟩
  ·clear h
   go_enter Tryz.func198,Tryz.ntmps198
   go_wp2
   go_ret
   exact ⟨rfl,rfl⟩
 ·rw [inB_true] at h
  obtain ⟨h1,h3⟩:=h
  have h2:decide (n≤6)=true:=by simp;omega
  clear h3
  go_enter Tryz.func198,Tryz.ntmps198
  go_wp2
  go_ret
  exact ⟨by simp_all,rfl⟩

theorem meth_no (v:Value) (w:World):(Go.method 364 249 v "loop.example/g00632/impl.right").run Tryz.prog w=.ok (203,v) w:=by kernel_rfl

theorem right_no (n:Int) (w:World):Calls Tryz.prog 203 #[.int .i64 n] w fun e w'=>e=.returned (.bool (inB n 0 0))∧w=w':=by
 go_enter Tryz.func203,Tryz.ntmps203
 go_wp2
 go_ret
 refine ⟨?_,rfl⟩
 cases h:inB n 0 0
 ·rw [inB_false] at h
  have h2:(n == 0)=false:=by simp;omega
  simp [h2]
 ·rw [inB_true] at h
  have h2:(n == 0)=true:=by simp;omega
  simp [h2]


def okI (x:I3):Bool:=
 if x.1=1 then inB x.2.1 0 1 && inB x.2.2 0 3
 else if x.1=2 then inB x.2.1 0 3 && inB x.2.2 0 1
 else if x.1=3∨x.1=4∨x.1=8 then inB x.2.1 0 1 && inB x.2.2 0 9
 else if x.1=5∨x.1=6 then inB x.2.1 0 1 && inB x.2.2 0 0
 else if x.1=7 then inB x.2.1 0 1 && inB x.2.2 1 6
 else false

theorem op_cases (x:I3):x.1=1∨x.1=2∨x.1=3∨x.1=4∨x.1=5∨x.1=6∨x.1=7∨x.1=8∨(x.1≠1∧x.1≠2∧x.1≠3∧x.1≠4∧x.1≠5∧x.1≠6∧x.1≠7∧x.1≠8):=by omega

theorem instrOK_by (c a b:Int) (TA TB fA fB:Nat) (p q:Bool) (w:World)
  (hO:∀ w,Calls Tryz.prog 180 #[.agg #[.int .i64 c,.int .i64 a,.int .i64 b]] w fun e w'=>e=.returned (.tuple #[.iface TA (.int .i64 a),.iface TB (.int .i64 b)])∧Below w.heap.size w w')
  (mA:∀ (v:Value) (w:World),(Go.method 364 TA v "loop.example/g00632/impl.right").run Tryz.prog w=.ok (fA,v) w)
  (mB:∀ (v:Value) (w:World),(Go.method 364 TB v "loop.example/g00632/impl.right").run Tryz.prog w=.ok (fB,v) w)
  (gA:∀ args w,(callFunc fA args).run Tryz.prog w=.ok (.enter fA args) w) (gB:∀ args w,(callFunc fB args).run Tryz.prog w=.ok (.enter fB args) w)
  (rA:∀ w,Calls Tryz.prog fA #[.int .i64 a] w fun e w'=>e=.returned (.bool p)∧w=w')
  (rB:∀ w,Calls Tryz.prog fB #[.int .i64 b] w fun e w'=>e=.returned (.bool q)∧w=w') :
  Calls Tryz.prog 173 #[.agg #[.int .i64 c,.int .i64 a,.int .i64 b]] w fun e w'=>e=.returned (.bool (p && q))∧Below w.heap.size w w':=by
 go_enter Tryz.func173,Tryz.ntmps173
 go_wp2_with fail
 refine (hO _).mono ?_
 rintro e w1 ⟨rfl,hb1⟩
 have hb:Below w.heap.size w w1:=bel_trans (by go_grown) hb1
 clear hb1 hO
 have kA:=rA w1
 have kB:=rB w1
 clear rA rB
 cases p
 ·go_wp2_with (go_at_fn fA;refine kA.mono ?_;rintro e w2 ⟨rfl,rfl⟩)
  go_ret
  exact ⟨rfl,hb⟩
 ·go_wp2_with (go_at_fn fA;refine kA.mono ?_;rintro e w2 ⟨rfl,rfl⟩)
  go_wp2_with (go_at_fn fB;refine kB.mono ?_;rintro e w2 ⟨rfl,rfl⟩)
  go_ret
  exact ⟨rfl,hb⟩

theorem operandsOf_1 (a b:Int) (w:World):Calls Tryz.prog 180 #[.agg #[.int .i64 1,.int .i64 a,.int .i64 b]] w fun e w'=>e=.returned (.tuple #[.iface 245 (.int .i64 a),.iface 246 (.int .i64 b)])∧Below w.heap.size w w':=by
 go_enter Tryz.func180,Tryz.ntmps180
 go_wp2
 go_region
 go_wp2
 go_returns
 exact ⟨rfl,by go_grown⟩

theorem instrOK_1 (a b:Int) (w:World):Calls Tryz.prog 173 #[.agg #[.int .i64 1,.int .i64 a,.int .i64 b]] w fun e w'=>e=.returned (.bool (inB a 0 1 && inB b 0 3))∧Below w.heap.size w w':=
 instrOK_by 1 a b 245 246 199 200 _ _ w (operandsOf_1 a b) meth_register meth_shared
  (enters_of Tryz.func199 (by kernel_rfl) rfl) (enters_of Tryz.func200 (by kernel_rfl) rfl) (right_register a) (right_shared b)

theorem operandsOf_2 (a b:Int) (w:World):Calls Tryz.prog 180 #[.agg #[.int .i64 2,.int .i64 a,.int .i64 b]] w fun e w'=>e=.returned (.tuple #[.iface 246 (.int .i64 a),.iface 245 (.int .i64 b)])∧Below w.heap.size w w':=by
 go_enter Tryz.func180,Tryz.ntmps180
 go_wp2
 go_region
 go_wp2
 go_returns
 exact ⟨rfl,by go_grown⟩

theorem instrOK_2 (a b:Int) (w:World):Calls Tryz.prog 173 #[.agg #[.int .i64 2,.int .i64 a,.int .i64 b]] w fun e w'=>e=.returned (.bool (inB a 0 3 && inB b 0 1))∧Below w.heap.size w w':=
 instrOK_by 2 a b 246 245 200 199 _ _ w (operandsOf_2 a b) meth_shared meth_register
  (enters_of Tryz.func200 (by kernel_rfl) rfl) (enters_of Tryz.func199 (by kernel_rfl) rfl) (right_shared a) (right_register b)

theorem operandsOf_3 (a b:Int) (w:World):Calls Tryz.prog 180 #[.agg #[.int .i64 3,.int .i64 a,.int .i64 b]] w fun e w'=>e=.returned (.tuple #[.iface 245 (.int .i64 a),.iface 247 (.int .i64 b)])∧Below w.heap.size w w':=by
 go_enter Tryz.func180,Tryz.ntmps180
 go_wp2
 go_region
 go_wp2
 go_returns
 exact ⟨rfl,by go_grown⟩

theorem instrOK_3 (a b:Int) (w:World):Calls Tryz.prog 173 #[.agg #[.int .i64 3,.int .i64 a,.int .i64 b]] w fun e w'=>e=.returned (.bool (inB a 0 1 && inB b 0 9))∧Below w.heap.size w w':=
 instrOK_by 3 a b 245 247 199 201 _ _ w (operandsOf_3 a b) meth_register meth_value
  (enters_of Tryz.func199 (by kernel_rfl) rfl) (enters_of Tryz.func201 (by kernel_rfl) rfl) (right_register a) (right_value b)

theorem operandsOf_4 (a b:Int) (w:World):Calls Tryz.prog 180 #[.agg #[.int .i64 4,.int .i64 a,.int .i64 b]] w fun e w'=>e=.returned (.tuple #[.iface 245 (.int .i64 a),.iface 247 (.int .i64 b)])∧Below w.heap.size w w':=by
 go_enter Tryz.func180,Tryz.ntmps180
 go_wp2
 go_region
 go_wp2
 go_returns
 exact ⟨rfl,by go_grown⟩

theorem instrOK_4 (a b:Int) (w:World):Calls Tryz.prog 173 #[.agg #[.int .i64 4,.int .i64 a,.int .i64 b]] w fun e w'=>e=.returned (.bool (inB a 0 1 && inB b 0 9))∧Below w.heap.size w w':=
 instrOK_by 4 a b 245 247 199 201 _ _ w (operandsOf_4 a b) meth_register meth_value
  (enters_of Tryz.func199 (by kernel_rfl) rfl) (enters_of Tryz.func201 (by kernel_rfl) rfl) (right_register a) (right_value b)

theorem operandsOf_5 (a b:Int) (w:World):Calls Tryz.prog 180 #[.agg #[.int .i64 5,.int .i64 a,.int .i64 b]] w fun e w'=>e=.returned (.tuple #[.iface 248 (.int .i64 a),.iface 249 (.int .i64 b)])∧Below w.heap.size w w':=by
 go_enter Tryz.func180,Tryz.ntmps180
 go_wp2
 go_region
 go_wp2
 go_returns
 exact ⟨rfl,by go_grown⟩

theorem instrOK_5 (a b:Int) (w:World):Calls Tryz.prog 173 #[.agg #[.int .i64 5,.int .i64 a,.int .i64 b]] w fun e w'=>e=.returned (.bool (inB a 0 1 && inB b 0 0))∧Below w.heap.size w w':=
 instrOK_by 5 a b 248 249 202 203 _ _ w (operandsOf_5 a b) meth_lock meth_no
  (enters_of Tryz.func202 (by kernel_rfl) rfl) (enters_of Tryz.func203 (by kernel_rfl) rfl) (right_lock a) (right_no b)

theorem operandsOf_6 (a b:Int) (w:World):Calls Tryz.prog 180 #[.agg #[.int .i64 6,.int .i64 a,.int .i64 b]] w fun e w'=>e=.returned (.tuple #[.iface 248 (.int .i64 a),.iface 249 (.int .i64 b)])∧Below w.heap.size w w':=by
 go_enter Tryz.func180,Tryz.ntmps180
 go_wp2
 go_region
 go_wp2
 go_returns
 exact ⟨rfl,by go_grown⟩

theorem instrOK_6 (a b:Int) (w:World):Calls Tryz.prog 173 #[.agg #[.int .i64 6,.int .i64 a,.int .i64 b]] w fun e w'=>e=.returned (.bool (inB a 0 1 && inB b 0 0))∧Below w.heap.size w w':=
 instrOK_by 6 a b 248 249 202 203 _ _ w (operandsOf_6 a b) meth_lock meth_no
  (enters_of Tryz.func202 (by kernel_rfl) rfl) (enters_of Tryz.func203 (by kernel_rfl) rfl) (right_lock a) (right_no b)

theorem operandsOf_7 (a b:Int) (w:World):Calls Tryz.prog 180 #[.agg #[.int .i64 7,.int .i64 a,.int .i64 b]] w fun e w'=>e=.returned (.tuple #[.iface 245 (.int .i64 a),.iface 241 (.int .i64 b)])∧Below w.heap.size w w':=by
 go_enter Tryz.func180,Tryz.ntmps180
 go_wp2
 go_region
 go_wp2
 go_returns
 exact ⟨rfl,by go_grown⟩

theorem instrOK_7 (a b:Int) (w:World):Calls Tryz.prog 173 #[.agg #[.int .i64 7,.int .i64 a,.int .i64 b]] w fun e w'=>e=.returned (.bool (inB a 0 1 && inB b 1 6))∧Below w.heap.size w w':=
 instrOK_by 7 a b 245 241 199 198 _ _ w (operandsOf_7 a b) meth_register meth_target
  (enters_of Tryz.func199 (by kernel_rfl) rfl) (enters_of Tryz.func198 (by kernel_rfl) rfl) (right_register a) (right_target b)

theorem operandsOf_8 (a b:Int) (w:World):Calls Tryz.prog 180 #[.agg #[.int .i64 8,.int .i64 a,.int .i64 b]] w fun e w'=>e=.returned (.tuple #[.iface 245 (.int .i64 a),.iface 247 (.int .i64 b)])∧Below w.heap.size w w':=by
 go_enter Tryz.func180,Tryz.ntmps180
 go_wp2
 go_region
 go_wp2
 go_returns
 exact ⟨rfl,by go_grown⟩

theorem instrOK_8 (a b:Int) (w:World):Calls Tryz.prog 173 #[.agg #[.int .i64 8,.int .i64 a,.int .i64 b]] w fun e w'=>e=.returned (.bool (inB a 0 1 && inB b 0 9))∧Below w.heap.size w w':=
 instrOK_by 8 a b 245 247 199 201 _ _ w (operandsOf_8 a b) meth_register meth_value
  (enters_of Tryz.func199 (by kernel_rfl) rfl) (enters_of Tryz.func201 (by kernel_rfl) rfl) (right_register a) (right_value b)

theorem operandsOf_0 (c a b:Int) (w:World) (h:c≠1∧c≠2∧c≠3∧c≠4∧c≠5∧c≠6∧c≠7∧c≠8):Calls Tryz.prog 180 #[.agg #[.int .i64 c,.int .i64 a,.int .i64 b]] w fun e w'=>e=.returned (.tuple #[.nilIface,.nilIface])∧Below w.heap.size w w':=by
 obtain ⟨h1,h2,h3,h4,h5,h6,h7,h8⟩:=h
 go_enter Tryz.func180,Tryz.ntmps180
 go_wp2
 go_ret2
 exact ⟨rfl,by go_grown⟩

theorem instrOK_0 (c a b:Int) (w:World) (h:c≠1∧c≠2∧c≠3∧c≠4∧c≠5∧c≠6∧c≠7∧c≠8):Calls Tryz.prog 173 #[.agg #[.int .i64 c,.int .i64 a,.int .i64 b]] w fun e w'=>e=.returned (.bool false)∧Below w.heap.size w w':=by
 go_enter Tryz.func173,Tryz.ntmps173
 go_wp2_with fail
 refine (operandsOf_0 c a b _ h).mono ?_
 rintro e w1 ⟨rfl,hb1⟩
 have hb:Below w.heap.size w w1:=bel_trans (by go_grown) hb1
 clear hb1 h
 go_wp2
 go_ret
 exact ⟨rfl,hb⟩

theorem instrOK_is (x:I3) (w:World):Calls Tryz.prog 173 #[x.val] w fun e w'=>e=.returned (.bool (okI x))∧Below w.heap.size w w':=by
 obtain ⟨c,a,b⟩:=x
 unfold I3.val okI
 rcases op_cases (c,a,b) with h | h | h | h | h | h | h | h | h
 ·obtain rfl:c=1:=h
  simpa using instrOK_1 a b w
 ·obtain rfl:c=2:=h
  simpa using instrOK_2 a b w
 ·obtain rfl:c=3:=h
  simpa using instrOK_3 a b w
 ·obtain rfl:c=4:=h
  simpa using instrOK_4 a b w
 ·obtain rfl:c=5:=h
  simpa using instrOK_5 a b w
 ·obtain rfl:c=6:=h
  simpa using instrOK_6 a b w
 ·obtain rfl:c=7:=h
  simpa using instrOK_7 a b w
 ·obtain rfl:c=8:=h
  simpa using instrOK_8 a b w
 ·have h':=h
  obtain ⟨h1,h2,h3,h4,h5,h6,h7,h8⟩:=h
  simp only [] at h1 h2 h3 h4 h5 h6 h7 h8
  rw [if_neg h1,if_neg h2,if_neg (by simp;omega),if_neg (by simp;omega),if_neg h7]
  exact instrOK_0 c a b w h'
end Go.Proofs.YtjgffnlmjmibgaaGreatDoor
