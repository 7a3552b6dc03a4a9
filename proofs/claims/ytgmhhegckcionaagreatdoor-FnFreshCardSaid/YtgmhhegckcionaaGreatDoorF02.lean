/-
  Joined: InstrI.
-/
import Derived.Shelf.Abstract
import Derived.Test.YtgmhhegckcionaaGreatDoorF01

namespace Go.Proofs.YtgmhhegckcionaaGreatDoor
set_option maxRecDepth 100000
set_option maxHeartbeats 16000000
open Go.RowKit

def okI (x:I3):Bool:=
 if x.1=1 then inB x.2.1 0 1 && inB x.2.2 0 3
 else if x.1=2 then inB x.2.1 0 3 && inB x.2.2 0 1
 else if x.1=3∨x.1=4∨x.1=8 then inB x.2.1 0 1 && inB x.2.2 0 9
 else if x.1=5∨x.1=6 then inB x.2.1 0 1 && inB x.2.2 0 0
 else if x.1=7 then inB x.2.1 0 1 && inB x.2.2 1 6
 else false

theorem Ui (x:I3):x.1=1∨x.1=2∨x.1=3∨x.1=4∨x.1=5∨x.1=6∨x.1=7∨x.1=8∨(x.1≠1∧x.1≠2∧x.1≠3∧x.1≠4∧x.1≠5∧x.1≠6∧x.1≠7∧x.1≠8):=by omega

theorem XC (c a b:Int) (TA TB fA fB:Nat) (p q:Bool) (w:World)
  (hO:∀ w,Calls Tryz.prog 145 #[.agg #[.int .i64 c,.int .i64 a,.int .i64 b]] w fun e w'=>e=.returned (.tuple #[.iface TA (.int .i64 a),.iface TB (.int .i64 b)])∧Below w.heap.size w w')
  (mA:∀ (v:Value) (w:World),(Go.method 390 TA v "loop.example/g00632/impl.right").run Tryz.prog w=.ok (fA,v) w)
  (mB:∀ (v:Value) (w:World),(Go.method 390 TB v "loop.example/g00632/impl.right").run Tryz.prog w=.ok (fB,v) w)
  (gA:∀ args w,(callFunc fA args).run Tryz.prog w=.ok (.enter fA args) w) (gB:∀ args w,(callFunc fB args).run Tryz.prog w=.ok (.enter fB args) w)
  (rA:∀ w,Calls Tryz.prog fA #[.int .i64 a] w fun e w'=>e=.returned (.bool p)∧w=w')
  (rB:∀ w,Calls Tryz.prog fB #[.int .i64 b] w fun e w'=>e=.returned (.bool q)∧w=w') :
  Calls Tryz.prog 107 #[.agg #[.int .i64 c,.int .i64 a,.int .i64 b]] w fun e w'=>e=.returned (.bool (p && q))∧Below w.heap.size w w':=by
 go_enter Tryz.func107,Tryz.ntmps107
 go_wp2_with fail
 refine (hO _).mono ?_
 rintro e w1 ⟨rfl,hb1⟩
 have hb:Below w.heap.size w w1:=Zb (by go_grown) hb1
 clear hb1 hO
 have kA:=rA w1
 have kB:=rB w1
 clear rA rB
 cases p
 ·go_wp2_with (go_at_fn fA;refine kA.mono ?_;rintro e w2 ⟨rfl,rfl⟩)
  go_ret
  exact ⟨rfl,hb⟩
 go_wp2_with (go_at_fn fA;refine kA.mono ?_;rintro e w2 ⟨rfl,rfl⟩)
 go_wp2_with (go_at_fn fB;refine kB.mono ?_;rintro e w2 ⟨rfl,rfl⟩)
 go_ret
 exact ⟨rfl,hb⟩

theorem SH (a b:Int) (w:World):Calls Tryz.prog 145 #[.agg #[.int .i64 1,.int .i64 a,.int .i64 b]] w fun e w'=>e=.returned (.tuple #[.iface 236 (.int .i64 a),.iface 237 (.int .i64 b)])∧Below w.heap.size w w':=by
 go_enter Tryz.func145,Tryz.ntmps145
 go_wp2
 go_region
 go_wp2
 go_returns
 exact ⟨rfl,by go_grown⟩

theorem Hj (a b:Int) (w:World):Calls Tryz.prog 107 #[.agg #[.int .i64 1,.int .i64 a,.int .i64 b]] w fun e w'=>e=.returned (.bool (inB a 0 1 && inB b 0 3))∧Below w.heap.size w w':=
 XC 1 a b 236 237 235 236 _ _ w (SH a b) Xu RL
  (enters_of Tryz.func235 (by kernel_rfl) rfl) (enters_of Tryz.func236 (by kernel_rfl) rfl) (Xh a) (SV b)

theorem SI (a b:Int) (w:World):Calls Tryz.prog 145 #[.agg #[.int .i64 2,.int .i64 a,.int .i64 b]] w fun e w'=>e=.returned (.tuple #[.iface 237 (.int .i64 a),.iface 236 (.int .i64 b)])∧Below w.heap.size w w':=by
 go_enter Tryz.func145,Tryz.ntmps145
 go_wp2
 go_region
 go_wp2
 go_returns
 exact ⟨rfl,by go_grown⟩

theorem Hk (a b:Int) (w:World):Calls Tryz.prog 107 #[.agg #[.int .i64 2,.int .i64 a,.int .i64 b]] w fun e w'=>e=.returned (.bool (inB a 0 3 && inB b 0 1))∧Below w.heap.size w w':=
 XC 2 a b 237 236 236 235 _ _ w (SI a b) RL Xu
  (enters_of Tryz.func236 (by kernel_rfl) rfl) (enters_of Tryz.func235 (by kernel_rfl) rfl) (SV a) (Xh b)

theorem SJ (a b:Int) (w:World):Calls Tryz.prog 145 #[.agg #[.int .i64 3,.int .i64 a,.int .i64 b]] w fun e w'=>e=.returned (.tuple #[.iface 236 (.int .i64 a),.iface 238 (.int .i64 b)])∧Below w.heap.size w w':=by
 go_enter Tryz.func145,Tryz.ntmps145
 go_wp2
 go_region
 go_wp2
 go_returns
 exact ⟨rfl,by go_grown⟩

theorem Hl (a b:Int) (w:World):Calls Tryz.prog 107 #[.agg #[.int .i64 3,.int .i64 a,.int .i64 b]] w fun e w'=>e=.returned (.bool (inB a 0 1 && inB b 0 9))∧Below w.heap.size w w':=
 XC 3 a b 236 238 235 237 _ _ w (SJ a b) Xu T7
  (enters_of Tryz.func235 (by kernel_rfl) rfl) (enters_of Tryz.func237 (by kernel_rfl) rfl) (Xh a) (Tn b)

theorem SK (a b:Int) (w:World):Calls Tryz.prog 145 #[.agg #[.int .i64 4,.int .i64 a,.int .i64 b]] w fun e w'=>e=.returned (.tuple #[.iface 236 (.int .i64 a),.iface 238 (.int .i64 b)])∧Below w.heap.size w w':=by
 go_enter Tryz.func145,Tryz.ntmps145
 go_wp2
 go_region
 go_wp2
 go_returns
 exact ⟨rfl,by go_grown⟩

theorem Hm (a b:Int) (w:World):Calls Tryz.prog 107 #[.agg #[.int .i64 4,.int .i64 a,.int .i64 b]] w fun e w'=>e=.returned (.bool (inB a 0 1 && inB b 0 9))∧Below w.heap.size w w':=
 XC 4 a b 236 238 235 237 _ _ w (SK a b) Xu T7
  (enters_of Tryz.func235 (by kernel_rfl) rfl) (enters_of Tryz.func237 (by kernel_rfl) rfl) (Xh a) (Tn b)

theorem SL (a b:Int) (w:World):Calls Tryz.prog 145 #[.agg #[.int .i64 5,.int .i64 a,.int .i64 b]] w fun e w'=>e=.returned (.tuple #[.iface 239 (.int .i64 a),.iface 240 (.int .i64 b)])∧Below w.heap.size w w':=by
 go_enter Tryz.func145,Tryz.ntmps145
 go_wp2
 go_region
 go_wp2
 go_returns
 exact ⟨rfl,by go_grown⟩

theorem Hn (a b:Int) (w:World):Calls Tryz.prog 107 #[.agg #[.int .i64 5,.int .i64 a,.int .i64 b]] w fun e w'=>e=.returned (.bool (inB a 0 1 && inB b 0 0))∧Below w.heap.size w w':=
 XC 5 a b 239 240 238 239 _ _ w (SL a b) Nc Jg
  (enters_of Tryz.func238 (by kernel_rfl) rfl) (enters_of Tryz.func239 (by kernel_rfl) rfl) (Q1 a) (Lt b)

theorem SM (a b:Int) (w:World):Calls Tryz.prog 145 #[.agg #[.int .i64 6,.int .i64 a,.int .i64 b]] w fun e w'=>e=.returned (.tuple #[.iface 239 (.int .i64 a),.iface 240 (.int .i64 b)])∧Below w.heap.size w w':=by
 go_enter Tryz.func145,Tryz.ntmps145
 go_wp2
 go_region
 go_wp2
 go_returns
 exact ⟨rfl,by go_grown⟩

theorem Ho (a b:Int) (w:World):Calls Tryz.prog 107 #[.agg #[.int .i64 6,.int .i64 a,.int .i64 b]] w fun e w'=>e=.returned (.bool (inB a 0 1 && inB b 0 0))∧Below w.heap.size w w':=
 XC 6 a b 239 240 238 239 _ _ w (SM a b) Nc Jg
  (enters_of Tryz.func238 (by kernel_rfl) rfl) (enters_of Tryz.func239 (by kernel_rfl) rfl) (Q1 a) (Lt b)

theorem UD (a b:Int) (w:World):Calls Tryz.prog 145 #[.agg #[.int .i64 7,.int .i64 a,.int .i64 b]] w fun e w'=>e=.returned (.tuple #[.iface 236 (.int .i64 a),.iface 214 (.int .i64 b)])∧Below w.heap.size w w':=by
 go_enter Tryz.func145,Tryz.ntmps145
 go_wp2
 go_region
 go_wp2
 go_returns
 exact ⟨rfl,by go_grown⟩

theorem Hp (a b:Int) (w:World):Calls Tryz.prog 107 #[.agg #[.int .i64 7,.int .i64 a,.int .i64 b]] w fun e w'=>e=.returned (.bool (inB a 0 1 && inB b 1 6))∧Below w.heap.size w w':=
 XC 7 a b 236 214 235 234 _ _ w (UD a b) Xu Le
  (enters_of Tryz.func235 (by kernel_rfl) rfl) (enters_of Tryz.func234 (by kernel_rfl) rfl) (Xh a) (Mm b)

theorem SN (a b:Int) (w:World):Calls Tryz.prog 145 #[.agg #[.int .i64 8,.int .i64 a,.int .i64 b]] w fun e w'=>e=.returned (.tuple #[.iface 236 (.int .i64 a),.iface 238 (.int .i64 b)])∧Below w.heap.size w w':=by
 go_enter Tryz.func145,Tryz.ntmps145
 go_wp2
 go_region
 go_wp2
 go_returns
 exact ⟨rfl,by go_grown⟩

theorem Hq (a b:Int) (w:World):Calls Tryz.prog 107 #[.agg #[.int .i64 8,.int .i64 a,.int .i64 b]] w fun e w'=>e=.returned (.bool (inB a 0 1 && inB b 0 9))∧Below w.heap.size w w':=
 XC 8 a b 236 238 235 237 _ _ w (SN a b) Xu T7
  (enters_of Tryz.func235 (by kernel_rfl) rfl) (enters_of Tryz.func237 (by kernel_rfl) rfl) (Xh a) (Tn b)

theorem SG (c a b:Int) (w:World) (h:c≠1∧c≠2∧c≠3∧c≠4∧c≠5∧c≠6∧c≠7∧c≠8):Calls Tryz.prog 145 #[.agg #[.int .i64 c,.int .i64 a,.int .i64 b]] w fun e w'=>e=.returned (.tuple #[.nilIface,.nilIface])∧Below w.heap.size w w':=by
 obtain ⟨h1,h2,h3,h4,h5,h6,h7,h8⟩:=h
 go_enter Tryz.func145,Tryz.ntmps145
 go_wp2
 go_ret2
 exact ⟨rfl,by go_grown⟩

theorem Hi (c a b:Int) (w:World) (h:c≠1∧c≠2∧c≠3∧c≠4∧c≠5∧c≠6∧c≠7∧c≠8):Calls Tryz.prog 107 #[.agg #[.int .i64 c,.int .i64 a,.int .i64 b]] w fun e w'=>e=.returned (.bool false)∧Below w.heap.size w w':=by
 go_enter Tryz.func107,Tryz.ntmps107
 go_wp2_with fail
 refine (SG c a b _ h).mono ?_
 rintro e w1 ⟨rfl,hb1⟩
 have hb:Below w.heap.size w w1:=Zb (by go_grown) hb1
 clear hb1 h
 go_wp2
 go_ret
 exact ⟨rfl,hb⟩

theorem Kp (x:I3) (w:World):Calls Tryz.prog 107 #[x.val] w fun e w'=>e=.returned (.bool (okI x))∧Below w.heap.size w w':=by
 obtain ⟨c,a,b⟩:=x
 unfold I3.val okI
 rcases Ui (c,a,b) with h | h | h | h | h | h | h | h | h
 ·obtain rfl:c=1:=h
  simpa using Hj a b w
 ·obtain rfl:c=2:=h
  simpa using Hk a b w
 ·obtain rfl:c=3:=h
  simpa using Hl a b w
 ·obtain rfl:c=4:=h
  simpa using Hm a b w
 ·obtain rfl:c=5:=h
  simpa using Hn a b w
 ·obtain rfl:c=6:=h
  simpa using Ho a b w
 ·obtain rfl:c=7:=h
  simpa using Hp a b w
 ·obtain rfl:c=8:=h
  simpa using Hq a b w
 have h':=h
 obtain ⟨h1,h2,h3,h4,h5,h6,h7,h8⟩:=h
 simp only [] at h1 h2 h3 h4 h5 h6 h7 h8
 rw [if_neg h1,if_neg h2,if_neg (by simp;omega),if_neg (by simp;omega),if_neg h7]
 exact Hi c a b w h'
end Go.Proofs.YtgmhhegckcionaaGreatDoor
