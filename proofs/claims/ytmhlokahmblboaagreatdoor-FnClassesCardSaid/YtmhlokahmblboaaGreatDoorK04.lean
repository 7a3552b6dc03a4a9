/-
  Joined: InstrI, Leads, Prog4, CodeI, Parts.
-/
import Derived.Shelf.Abstract
import Derived.Deep.RegionLaw
import Derived.Laws.OwnMore
import Derived.Test.YtmhlokahmblboaaGreatDoorK03

namespace Go.Proofs.YtmhlokahmblboaaGreatDoor
set_option maxRecDepth 100000
set_option maxHeartbeats 16000000
open Go.RowKit

def okI (x:I3):Bool:=
 if x.1=1 then inB x.2.1 0 1 && inB x.2.2 0 3
 else if x.1=2 then inB x.2.1 0 3 && inB x.2.2 0 1
 else if x.1=3∨x.1=4∨x.1=8 then inB x.2.1 0 1 && inB x.2.2 0 9
 else if x.1=5∨x.1=6 then inB x.2.1 0 1 && inB x.2.2 0 0
 else if x.1=7 then inB x.2.1 0 1 && inB x.2.2 1 6
 else false

theorem Wi (x:I3):x.1=1∨x.1=2∨x.1=3∨x.1=4∨x.1=5∨x.1=6∨x.1=7∨x.1=8∨(x.1≠1∧x.1≠2∧x.1≠3∧x.1≠4∧x.1≠5∧x.1≠6∧x.1≠7∧x.1≠8):=by omega

theorem Xm (c a b:Int) (TA TB fA fB:Nat) (p q:Bool) (w:World)
  (hO:∀ w,Calls Tryz.prog 235 #[.agg #[.int .i64 c,.int .i64 a,.int .i64 b]] w fun e w'=>e=.returned (.tuple #[.iface TA (.int .i64 a),.iface TB (.int .i64 b)])∧Below w.heap.size w w')
  (mA:∀ (v:Value) (w:World),(Go.method 441 TA v "loop.example/g00632/impl.right").run Tryz.prog w=.ok (fA,v) w)
  (mB:∀ (v:Value) (w:World),(Go.method 441 TB v "loop.example/g00632/impl.right").run Tryz.prog w=.ok (fB,v) w)
  (gA:∀ args w,(callFunc fA args).run Tryz.prog w=.ok (.enter fA args) w) (gB:∀ args w,(callFunc fB args).run Tryz.prog w=.ok (.enter fB args) w)
  (rA:∀ w,Calls Tryz.prog fA #[.int .i64 a] w fun e w'=>e=.returned (.bool p)∧w=w')
  (rB:∀ w,Calls Tryz.prog fB #[.int .i64 b] w fun e w'=>e=.returned (.bool q)∧w=w') :
  Calls Tryz.prog 211 #[.agg #[.int .i64 c,.int .i64 a,.int .i64 b]] w fun e w'=>e=.returned (.bool (p && q))∧Below w.heap.size w w':=by
 go_enter Tryz.func211,Tryz.ntmps211
 go_wp2_with fail
 refine (hO _).mono ?_
 rintro e w1 ⟨rfl,hb1⟩
 have hb:Below w.heap.size w w1:=Zb (by go_grown) hb1
 clear hb1 hO
 have kA:=rA w1
 have kB:=rB w1
 clear rA rB
 cases p
 ·go_wp2_with (go_at_fn fA;refine kA.mono ?_;rintro e w2 ⟨rfl,rfl⟩)
  go_ret
  exact ⟨rfl,hb⟩
 go_wp2_with (go_at_fn fA;refine kA.mono ?_;rintro e w2 ⟨rfl,rfl⟩)
 go_wp2_with (go_at_fn fB;refine kB.mono ?_;rintro e w2 ⟨rfl,rfl⟩)
 go_ret
 exact ⟨rfl,hb⟩

theorem TE (a b:Int) (w:World):Calls Tryz.prog 235 #[.agg #[.int .i64 1,.int .i64 a,.int .i64 b]] w fun e w'=>e=.returned (.tuple #[.iface 314 (.int .i64 a),.iface 315 (.int .i64 b)])∧Below w.heap.size w w':=by
 go_enter Tryz.func235,Tryz.ntmps235
 go_wp2
 go_region
 go_wp2
 go_returns
 exact ⟨rfl,by go_grown⟩

theorem Kt (a b:Int) (w:World):Calls Tryz.prog 211 #[.agg #[.int .i64 1,.int .i64 a,.int .i64 b]] w fun e w'=>e=.returned (.bool (inB a 0 1 && inB b 0 3))∧Below w.heap.size w w':=
 Xm 1 a b 314 315 278 279 _ _ w (TE a b) Xf SH
  (enters_of Tryz.func278 (by kernel_rfl) rfl) (enters_of Tryz.func279 (by kernel_rfl) rfl) (YZ a) (TO b)

theorem TF (a b:Int) (w:World):Calls Tryz.prog 235 #[.agg #[.int .i64 2,.int .i64 a,.int .i64 b]] w fun e w'=>e=.returned (.tuple #[.iface 315 (.int .i64 a),.iface 314 (.int .i64 b)])∧Below w.heap.size w w':=by
 go_enter Tryz.func235,Tryz.ntmps235
 go_wp2
 go_region
 go_wp2
 go_returns
 exact ⟨rfl,by go_grown⟩

theorem Ku (a b:Int) (w:World):Calls Tryz.prog 211 #[.agg #[.int .i64 2,.int .i64 a,.int .i64 b]] w fun e w'=>e=.returned (.bool (inB a 0 3 && inB b 0 1))∧Below w.heap.size w w':=
 Xm 2 a b 315 314 279 278 _ _ w (TF a b) SH Xf
  (enters_of Tryz.func279 (by kernel_rfl) rfl) (enters_of Tryz.func278 (by kernel_rfl) rfl) (TO a) (YZ b)

theorem TG (a b:Int) (w:World):Calls Tryz.prog 235 #[.agg #[.int .i64 3,.int .i64 a,.int .i64 b]] w fun e w'=>e=.returned (.tuple #[.iface 314 (.int .i64 a),.iface 316 (.int .i64 b)])∧Below w.heap.size w w':=by
 go_enter Tryz.func235,Tryz.ntmps235
 go_wp2
 go_region
 go_wp2
 go_returns
 exact ⟨rfl,by go_grown⟩

theorem Kv (a b:Int) (w:World):Calls Tryz.prog 211 #[.agg #[.int .i64 3,.int .i64 a,.int .i64 b]] w fun e w'=>e=.returned (.bool (inB a 0 1 && inB b 0 9))∧Below w.heap.size w w':=
 Xm 3 a b 314 316 278 280 _ _ w (TG a b) Xf US
  (enters_of Tryz.func278 (by kernel_rfl) rfl) (enters_of Tryz.func280 (by kernel_rfl) rfl) (YZ a) (Ud b)

theorem TH (a b:Int) (w:World):Calls Tryz.prog 235 #[.agg #[.int .i64 4,.int .i64 a,.int .i64 b]] w fun e w'=>e=.returned (.tuple #[.iface 314 (.int .i64 a),.iface 316 (.int .i64 b)])∧Below w.heap.size w w':=by
 go_enter Tryz.func235,Tryz.ntmps235
 go_wp2
 go_region
 go_wp2
 go_returns
 exact ⟨rfl,by go_grown⟩

theorem Kw (a b:Int) (w:World):Calls Tryz.prog 211 #[.agg #[.int .i64 4,.int .i64 a,.int .i64 b]] w fun e w'=>e=.returned (.bool (inB a 0 1 && inB b 0 9))∧Below w.heap.size w w':=
 Xm 4 a b 314 316 278 280 _ _ w (TH a b) Xf US
  (enters_of Tryz.func278 (by kernel_rfl) rfl) (enters_of Tryz.func280 (by kernel_rfl) rfl) (YZ a) (Ud b)

theorem TI (a b:Int) (w:World):Calls Tryz.prog 235 #[.agg #[.int .i64 5,.int .i64 a,.int .i64 b]] w fun e w'=>e=.returned (.tuple #[.iface 317 (.int .i64 a),.iface 318 (.int .i64 b)])∧Below w.heap.size w w':=by
 go_enter Tryz.func235,Tryz.ntmps235
 go_wp2
 go_region
 go_wp2
 go_returns
 exact ⟨rfl,by go_grown⟩

theorem Kx (a b:Int) (w:World):Calls Tryz.prog 211 #[.agg #[.int .i64 5,.int .i64 a,.int .i64 b]] w fun e w'=>e=.returned (.bool (inB a 0 1 && inB b 0 0))∧Below w.heap.size w w':=
 Xm 5 a b 317 318 281 282 _ _ w (TI a b) QS Lo
  (enters_of Tryz.func281 (by kernel_rfl) rfl) (enters_of Tryz.func282 (by kernel_rfl) rfl) (R4 a) (N4 b)

theorem TJ (a b:Int) (w:World):Calls Tryz.prog 235 #[.agg #[.int .i64 6,.int .i64 a,.int .i64 b]] w fun e w'=>e=.returned (.tuple #[.iface 317 (.int .i64 a),.iface 318 (.int .i64 b)])∧Below w.heap.size w w':=by
 go_enter Tryz.func235,Tryz.ntmps235
 go_wp2
 go_region
 go_wp2
 go_returns
 exact ⟨rfl,by go_grown⟩

theorem Ky (a b:Int) (w:World):Calls Tryz.prog 211 #[.agg #[.int .i64 6,.int .i64 a,.int .i64 b]] w fun e w'=>e=.returned (.bool (inB a 0 1 && inB b 0 0))∧Below w.heap.size w w':=
 Xm 6 a b 317 318 281 282 _ _ w (TJ a b) QS Lo
  (enters_of Tryz.func281 (by kernel_rfl) rfl) (enters_of Tryz.func282 (by kernel_rfl) rfl) (R4 a) (N4 b)

theorem VI (a b:Int) (w:World):Calls Tryz.prog 235 #[.agg #[.int .i64 7,.int .i64 a,.int .i64 b]] w fun e w'=>e=.returned (.tuple #[.iface 314 (.int .i64 a),.iface 306 (.int .i64 b)])∧Below w.heap.size w w':=by
 go_enter Tryz.func235,Tryz.ntmps235
 go_wp2
 go_region
 go_wp2
 go_returns
 exact ⟨rfl,by go_grown⟩

theorem Kz (a b:Int) (w:World):Calls Tryz.prog 211 #[.agg #[.int .i64 7,.int .i64 a,.int .i64 b]] w fun e w'=>e=.returned (.bool (inB a 0 1 && inB b 1 6))∧Below w.heap.size w w':=
 Xm 7 a b 314 306 278 277 _ _ w (VI a b) Xf NN
  (enters_of Tryz.func278 (by kernel_rfl) rfl) (enters_of Tryz.func277 (by kernel_rfl) rfl) (YZ a) (PS b)

theorem TK (a b:Int) (w:World):Calls Tryz.prog 235 #[.agg #[.int .i64 8,.int .i64 a,.int .i64 b]] w fun e w'=>e=.returned (.tuple #[.iface 314 (.int .i64 a),.iface 316 (.int .i64 b)])∧Below w.heap.size w w':=by
 go_enter Tryz.func235,Tryz.ntmps235
 go_wp2
 go_region
 go_wp2
 go_returns
 exact ⟨rfl,by go_grown⟩

theorem KA (a b:Int) (w:World):Calls Tryz.prog 211 #[.agg #[.int .i64 8,.int .i64 a,.int .i64 b]] w fun e w'=>e=.returned (.bool (inB a 0 1 && inB b 0 9))∧Below w.heap.size w w':=
 Xm 8 a b 314 316 278 280 _ _ w (TK a b) Xf US
  (enters_of Tryz.func278 (by kernel_rfl) rfl) (enters_of Tryz.func280 (by kernel_rfl) rfl) (YZ a) (Ud b)

theorem TD (c a b:Int) (w:World) (h:c≠1∧c≠2∧c≠3∧c≠4∧c≠5∧c≠6∧c≠7∧c≠8):Calls Tryz.prog 235 #[.agg #[.int .i64 c,.int .i64 a,.int .i64 b]] w fun e w'=>e=.returned (.tuple #[.nilIface,.nilIface])∧Below w.heap.size w w':=by
 obtain ⟨h1,h2,h3,h4,h5,h6,h7,h8⟩:=h
 go_enter Tryz.func235,Tryz.ntmps235
 go_wp2
 go_ret2
 exact ⟨rfl,by go_grown⟩

theorem Ks (c a b:Int) (w:World) (h:c≠1∧c≠2∧c≠3∧c≠4∧c≠5∧c≠6∧c≠7∧c≠8):Calls Tryz.prog 211 #[.agg #[.int .i64 c,.int .i64 a,.int .i64 b]] w fun e w'=>e=.returned (.bool false)∧Below w.heap.size w w':=by
 go_enter Tryz.func211,Tryz.ntmps211
 go_wp2_with fail
 refine (TD c a b _ h).mono ?_
 rintro e w1 ⟨rfl,hb1⟩
 have hb:Below w.heap.size w w1:=Zb (by go_grown) hb1
 clear hb1 h
 go_wp2
 go_ret
 exact ⟨rfl,hb⟩

theorem MD (x:I3) (w:World):Calls Tryz.prog 211 #[x.val] w fun e w'=>e=.returned (.bool (okI x))∧Below w.heap.size w w':=by
 obtain ⟨c,a,b⟩:=x
 unfold I3.val okI
 rcases Wi (c,a,b) with h | h | h | h | h | h | h | h | h
 ·obtain rfl:c=1:=h
  simpa using Kt a b w
 ·obtain rfl:c=2:=h
  simpa using Ku a b w
 ·obtain rfl:c=3:=h
  simpa using Kv a b w
 ·obtain rfl:c=4:=h
  simpa using Kw a b w
 ·obtain rfl:c=5:=h
  simpa using Kx a b w
 ·obtain rfl:c=6:=h
  simpa using Ky a b w
 ·obtain rfl:c=7:=h
  simpa using Kz a b w
 ·obtain rfl:c=8:=h
  simpa using KA a b w
 have h':=h
 obtain ⟨h1,h2,h3,h4,h5,h6,h7,h8⟩:=h
 simp only [] at h1 h2 h3 h4 h5 h6 h7 h8
 rw [if_neg h1,if_neg h2,if_neg (by simp;omega),if_neg (by simp;omega),if_neg h7]
 exact Ks c a b w h'


def Wn (x:I3) (k n:Int):Bool:=if x.1=7 then inB x.2.2 (k+1) n else true

theorem Jp (v:Value) (w:World):(Instr.typeAssert (.iface 315 v) 303 306 true).run Tryz.prog w=.ok (.tuple #[.int .i64 0,.bool false]) w:=by kernel_rfl
theorem Mm (v:Value) (w:World):(Instr.typeAssert (.iface 314 v) 303 306 true).run Tryz.prog w=.ok (.tuple #[.int .i64 0,.bool false]) w:=by kernel_rfl
theorem Ql (v:Value) (w:World):(Instr.typeAssert (.iface 316 v) 303 306 true).run Tryz.prog w=.ok (.tuple #[.int .i64 0,.bool false]) w:=by kernel_rfl
theorem Fy (v:Value) (w:World):(Instr.typeAssert (.iface 318 v) 303 306 true).run Tryz.prog w=.ok (.tuple #[.int .i64 0,.bool false]) w:=by kernel_rfl
theorem Jq (v:Value) (w:World):(Instr.typeAssert (.iface 306 v) 303 306 true).run Tryz.prog w=.ok (.tuple #[v,.bool true]) w:=by kernel_rfl
theorem FU (w:World):(Instr.typeAssert .nilIface 303 306 true).run Tryz.prog w=.ok (.tuple #[.int .i64 0,.bool false]) w:=by kernel_rfl

theorem KF (a b k n:Int) (w:World):Calls Tryz.prog 212 #[.agg #[.int .i64 1,.int .i64 a,.int .i64 b],.int .i64 k,.int .i64 n] w fun e w'=>e=.returned (.bool true)∧Below w.heap.size w w':=by
 have ta:=Jp (.int .i64 b)
 go_enter Tryz.func212,Tryz.ntmps212
 go_wp2_with fail
 refine (TE a b _).mono ?_
 rintro e w1 ⟨rfl,hb1⟩
 have hb:Below w.heap.size w w1:=Zb (by go_grown) hb1
 clear hb1
 go_wp2
 go_ret
 exact ⟨rfl,hb⟩

theorem KG (a b k n:Int) (w:World):Calls Tryz.prog 212 #[.agg #[.int .i64 2,.int .i64 a,.int .i64 b],.int .i64 k,.int .i64 n] w fun e w'=>e=.returned (.bool true)∧Below w.heap.size w w':=by
 have ta:=Mm (.int .i64 b)
 go_enter Tryz.func212,Tryz.ntmps212
 go_wp2_with fail
 refine (TF a b _).mono ?_
 rintro e w1 ⟨rfl,hb1⟩
 have hb:Below w.heap.size w w1:=Zb (by go_grown) hb1
 clear hb1
 go_wp2
 go_ret
 exact ⟨rfl,hb⟩

theorem KH (a b k n:Int) (w:World):Calls Tryz.prog 212 #[.agg #[.int .i64 3,.int .i64 a,.int .i64 b],.int .i64 k,.int .i64 n] w fun e w'=>e=.returned (.bool true)∧Below w.heap.size w w':=by
 have ta:=Ql (.int .i64 b)
 go_enter Tryz.func212,Tryz.ntmps212
 go_wp2_with fail
 refine (TG a b _).mono ?_
 rintro e w1 ⟨rfl,hb1⟩
 have hb:Below w.heap.size w w1:=Zb (by go_grown) hb1
 clear hb1
 go_wp2
 go_ret
 exact ⟨rfl,hb⟩

theorem KI (a b k n:Int) (w:World):Calls Tryz.prog 212 #[.agg #[.int .i64 4,.int .i64 a,.int .i64 b],.int .i64 k,.int .i64 n] w fun e w'=>e=.returned (.bool true)∧Below w.heap.size w w':=by
 have ta:=Ql (.int .i64 b)
 go_enter Tryz.func212,Tryz.ntmps212
 go_wp2_with fail
 refine (TH a b _).mono ?_
 rintro e w1 ⟨rfl,hb1⟩
 have hb:Below w.heap.size w w1:=Zb (by go_grown) hb1
 clear hb1
 go_wp2
 go_ret
 exact ⟨rfl,hb⟩

theorem KJ (a b k n:Int) (w:World):Calls Tryz.prog 212 #[.agg #[.int .i64 5,.int .i64 a,.int .i64 b],.int .i64 k,.int .i64 n] w fun e w'=>e=.returned (.bool true)∧Below w.heap.size w w':=by
 have ta:=Fy (.int .i64 b)
 go_enter Tryz.func212,Tryz.ntmps212
 go_wp2_with fail
 refine (TI a b _).mono ?_
 rintro e w1 ⟨rfl,hb1⟩
 have hb:Below w.heap.size w w1:=Zb (by go_grown) hb1
 clear hb1
 go_wp2
 go_ret
 exact ⟨rfl,hb⟩

theorem KK (a b k n:Int) (w:World):Calls Tryz.prog 212 #[.agg #[.int .i64 6,.int .i64 a,.int .i64 b],.int .i64 k,.int .i64 n] w fun e w'=>e=.returned (.bool true)∧Below w.heap.size w w':=by
 have ta:=Fy (.int .i64 b)
 go_enter Tryz.func212,Tryz.ntmps212
 go_wp2_with fail
 refine (TJ a b _).mono ?_
 rintro e w1 ⟨rfl,hb1⟩
 have hb:Below w.heap.size w w1:=Zb (by go_grown) hb1
 clear hb1
 go_wp2
 go_ret
 exact ⟨rfl,hb⟩

theorem KN (a b k n:Int) (w:World):Calls Tryz.prog 212 #[.agg #[.int .i64 8,.int .i64 a,.int .i64 b],.int .i64 k,.int .i64 n] w fun e w'=>e=.returned (.bool true)∧Below w.heap.size w w':=by
 have ta:=Ql (.int .i64 b)
 go_enter Tryz.func212,Tryz.ntmps212
 go_wp2_with fail
 refine (TK a b _).mono ?_
 rintro e w1 ⟨rfl,hb1⟩
 have hb:Below w.heap.size w w1:=Zb (by go_grown) hb1
 clear hb1
 go_wp2
 go_ret
 exact ⟨rfl,hb⟩

theorem KE (c a b k n:Int) (w:World) (h:c≠1∧c≠2∧c≠3∧c≠4∧c≠5∧c≠6∧c≠7∧c≠8):Calls Tryz.prog 212 #[.agg #[.int .i64 c,.int .i64 a,.int .i64 b],.int .i64 k,.int .i64 n] w fun e w'=>e=.returned (.bool true)∧Below w.heap.size w w':=by
 have ta:=FU
 go_enter Tryz.func212,Tryz.ntmps212
 go_wp2_with fail
 refine (TD c a b _ h).mono ?_
 rintro e w1 ⟨rfl,hb1⟩
 have hb:Below w.heap.size w w1:=Zb (by go_grown) hb1
 clear hb1 h
 go_wp2
 go_ret
 exact ⟨rfl,hb⟩

theorem KM (a b k n:Int) (w:World):Calls Tryz.prog 212 #[.agg #[.int .i64 7,.int .i64 a,.int .i64 b],.int .i64 k,.int .i64 n] w fun e w'=>e=.returned (.bool (inB b (k+1) n))∧Below w.heap.size w w':=by
 obtain ⟨p,hp⟩:∃ p,p=inB b (k+1) n:=⟨_,rfl⟩
 rw [← hp]
 have ta:=Jq (.int .i64 b)
 by_cases h1:k<b
 ·have hp':p=decide (b≤n):=by
   subst hp
   by_cases h2:b≤n
   ·rw [decide_eq_true h2,ZA];omega
   rw [decide_eq_false h2,YE];omega
  clear hp
  subst hp'
  go_enter Tryz.func212,Tryz.ntmps212
  go_wp2_with fail
  refine (VI a b _).mono ?_
  rintro e w1 ⟨rfl,hb1⟩
  have hb:Below w.heap.size w w1:=Zb (by go_grown) hb1
  clear hb1
  go_wp2
  go_ret
  exact ⟨rfl,hb⟩
 have hp':p=false:=by
  subst hp
  rw [YE];omega
 clear hp
 subst hp'
 go_enter Tryz.func212,Tryz.ntmps212
 go_wp2_with fail
 refine (VI a b _).mono ?_
 rintro e w1 ⟨rfl,hb1⟩
 have hb:Below w.heap.size w w1:=Zb (by go_grown) hb1
 clear hb1
 go_wp2
 go_ret
 exact ⟨rfl,hb⟩

theorem MH (x:I3) (k n:Int) (w:World):Calls Tryz.prog 212 #[x.val,.int .i64 k,.int .i64 n] w fun e w'=>e=.returned (.bool (Wn x k n))∧Below w.heap.size w w':=by
 obtain ⟨c,a,b⟩:=x
 unfold I3.val Wn
 rcases Wi (c,a,b) with h | h | h | h | h | h | h | h | h

 ·obtain rfl:c=1:=h
  simpa using KF a b k n w
 ·obtain rfl:c=2:=h
  simpa using KG a b k n w
 ·obtain rfl:c=3:=h
  simpa using KH a b k n w
 ·obtain rfl:c=4:=h
  simpa using KI a b k n w
 ·obtain rfl:c=5:=h
  simpa using KJ a b k n w
 ·obtain rfl:c=6:=h
  simpa using KK a b k n w
 ·obtain rfl:c=7:=h
  simpa using KM a b k n w
 ·obtain rfl:c=8:=h
  simpa using KN a b k n w
 have h':=h
 obtain ⟨h1,h2,h3,h4,h5,h6,h7,h8⟩:=h
 simp only [] at h7
 rw [if_neg h7]
 exact KE c a b k n w h'


theorem Za {w w':World} (h:Below w.heap.size w w'):∀ (p:Addr) (v:Value),w.cell? p=some v→w'.cell? p=some v:=by
 intro p v hv
 have hlt:p.block<w.heap.size:=by
  rcases Nat.lt_or_ge p.block w.heap.size with h' | h'
  ·exact h'
  simp [World.cell?,Array.getElem?_eq_none h'] at hv
 rw [h.cell hlt]
 exact hv


def Z2 (n:Nat):Nat→List I3→Bool
 | _,[]=>true
 | i,x::xs=>(okI x && Wn x i n) && Z2 n (i+1) xs

def ZN (xs:List I3):Bool:=decide (xs.length≤6) && Z2 xs.length 0 xs

theorem SI {n k:Nat} {xs:List I3} (hk:k<xs.length):Z2 n k (xs.drop k)=((okI (xs.getD k (0,0,0)) && Wn (xs.getD k (0,0,0)) k n) && Z2 n (k+1) (xs.drop (k+1))):=by
 rw [List.drop_eq_getElem_cons hk]
 show ((okI (xs[k]) && Wn (xs[k]) k n) && Z2 n (k+1) (xs.drop (k+1)))=_
 simp [List.getD,hk]

theorem Nb (a:Option Addr) (len cap:Nat) (w:World) (hl:len≤maxLen) (hlen:6<len) :
  Calls Tryz.prog 174 #[.slice a len cap] w fun e w'=>e=.returned (.bool false)∧Below w.heap.size w w':=by
 unfold maxLen at hl
 go_enter Tryz.func174,Tryz.ntmps174
 go_wp2
 go_ret
 exact ⟨rfl,by go_grown⟩

theorem Pt (a:Option Addr) (len cap:Nat) (xs:List I3) (w:World) (h:ZK w a len cap xs) (hlen:len≤6) :
  Calls Tryz.prog 174 #[.slice a len cap] w fun e w'=>e=.returned (.bool (Z2 len 0 xs))∧Below w.heap.size w w':=by
 obtain ⟨fin,hfin⟩:∃ fin,fin=Z2 len 0 xs:=⟨_,rfl⟩
 rw [← hfin]
 have hfin':Hid (fin=Z2 len 0 (xs.drop 0)):=hfin
 clear hfin
 obtain ⟨hl,hlc,hcm,_,hcase⟩:=h
 unfold maxLen at hcm
 go_enter Tryz.func174,Tryz.ntmps174
 go_wp2
 go_loopw [10] (fun si wr=>∃ (k:Nat),k≤len∧si=.int .i64 k∧Hid (fin=Z2 len k (xs.drop k))∧Below w.heap.size w wr) (fun si _=>len - (intOf si).toNat)
 case atStart=>exact ⟨0,by omega,rfl,hfin',by go_grown⟩
 case round =>
  obtain ⟨k,hk,rfl,hH,hbel⟩:=hrel
  by_cases hlt:k<len
  ·rcases hcase with h0 | ⟨b,off,rfl,hblt,hcell⟩
   ·omega
   have hlt2:(k:Int)<(len:Int):=by omega
   obtain ⟨c0,c1,c2⟩:=hcell k hlt
   have hst:=SI (n:=len) (xs:=xs) (k:=k) (by omega)
   generalize xs.getD k (0,0,0)=x at c0 c1 c2 hst
   have hst':Hid (Z2 len k (xs.drop k)=((okI x && Wn x k len) && Z2 len (k+1) (xs.drop (k+1)))):=hst
   clear hst hcell
   have d0:wr.cell? ⟨b,off+k*3,none⟩=some (.int .i64 x.1):=by rw [hbel.cell (p:=⟨b,_,none⟩) hblt];exact c0
   have d1:wr.cell? ⟨b,off+k*3+1,none⟩=some (.int .i64 x.2.1):=by rw [hbel.cell (p:=⟨b,_,none⟩) hblt];exact c1
   have d2:wr.cell? ⟨b,off+k*3+2,none⟩=some (.int .i64 x.2.2):=by rw [hbel.cell (p:=⟨b,_,none⟩) hblt];exact c2
   clear c0 c1 c2
   go_wp2_with fail
   refine (MD x _).mono ?_
   rintro e w1 ⟨rfl,hb1⟩
   have e0:w1.cell? ⟨wr.heap.size,0,none⟩=some (.int .i64 x.1):=by rw [hb1.cell (by simp)];simp [go_sem]
   have e1:w1.cell? ⟨wr.heap.size,1,none⟩=some (.int .i64 x.2.1):=by rw [hb1.cell (by simp)];simp [go_sem]
   have e2:w1.cell? ⟨wr.heap.size,2,none⟩=some (.int .i64 x.2.2):=by rw [hb1.cell (by simp)];simp [go_sem]
   have hb2:Below w.heap.size w w1:=Zb hbel (Zb (by go_grown) hb1)
   clear hb1 hbel d0 d1 d2
   cases hp:okI x
   ·have hff:fin=false:=by rw [hH.out,hst'.out,hp];rfl
    subst hff
    clear hH hst' hp
    go_wp2
    go_ret
    exact ⟨rfl,hb2⟩
   go_wp2_with fail
   refine (MH x _ _ _).mono ?_
   rintro e w2 ⟨rfl,hb3⟩
   have hb4:=Zb hb2 hb3
   clear hb2 hb3 e0 e1 e2
   cases hq:Wn x k len
   ·have hff:fin=false:=by rw [hH.out,hst'.out,hp,hq];rfl
    subst hff
    clear hH hst' hp hq
    go_wp2
    go_ret
    exact ⟨rfl,hb4⟩
   have hH':Hid (fin=Z2 len (k+1) (xs.drop (k+1))):=by rw [Hid,hH.out,hst'.out,hp,hq];rfl
   clear hH hst' hp hq
   go_wp2
   go_roundw
   case rel=>exact ⟨k+1,by omega,by go_num,hH',hb4⟩
   case measure=>simp [intOf];omega
  obtain rfl:k=len:=by omega
  have hd:Z2 k k (xs.drop k)=true:=by rw [List.drop_eq_nil_of_le (by omega)];rfl
  have hff:fin=true:=hH.out.trans hd
  subst hff
  clear hH hd hcase
  go_wp2
  go_ret
  exact ⟨rfl,hbel⟩

theorem Ka (a:Option Addr) (len cap:Nat) (xs:List I3) (w:World) (h:ZK w a len cap xs) :
  Calls Tryz.prog 174 #[.slice a len cap] w fun e w'=>e=.returned (.bool (ZN xs))∧Below w.heap.size w w':=by
 unfold ZN
 by_cases hlen:len≤6
 ·have:=Pt a len cap xs w h hlen
  simpa [h.1,hlen] using this
 have:=Nb a len cap w (Nat.le_trans h.2.1 h.2.2.1) (by omega)
 simpa [h.1,hlen] using this

def Zn (rows:List (List I3)):Bool:=decide (rows.length=3) && rows.all ZN

theorem P1 {rows:List (List I3)} {k:Nat} (hk:k<rows.length):(rows.drop k).all ZN=(ZN (rows.getD k []) && (rows.drop (k+1)).all ZN):=by
 rw [List.drop_eq_getElem_cons hk,List.all_cons]
 simp [List.getD,hk]

theorem T8 (a:Option Addr) (len cap:Nat) (rows:List (List I3)) (w:World) (h:XL w a len cap rows) :
  Calls Tryz.prog 124 #[.agg #[.slice a len cap]] w fun e w'=>e=.returned (.bool (Zn rows))∧Below w.heap.size w w':=by
 obtain ⟨fin,hfin⟩:∃ fin,fin=Zn rows:=⟨_,rfl⟩
 rw [← hfin]
 obtain ⟨hl,hlc,hcm,hcase⟩:=h
 unfold maxLen at hcm
 by_cases h3:len=3
 ·subst h3
  have hfin':Hid (fin=(rows.drop 0).all ZN):=by rw [Hid,hfin,Zn,decide_eq_true hl];rfl
  clear hfin
  rcases hcase with h0 | ⟨b,off,rfl,hblt,hcell⟩
  ·omega
  go_enter Tryz.func124,Tryz.ntmps124
  go_wp2
  go_loopw [12] (fun si wr=>∃ (k:Nat),k≤3∧si=.int .i64 k∧Hid (fin=(rows.drop k).all ZN)∧Below w.heap.size w wr) (fun si _=>3 - (intOf si).toNat)
  case atStart=>exact ⟨0,by omega,rfl,hfin',by go_grown⟩
  case round =>
   obtain ⟨k,hk,rfl,hH,hbel⟩:=hrel
   by_cases hlt:k<3
   ·have hlt2:(k:Int)<3:=by omega
    obtain ⟨a',len',cap',hc,hI⟩:=hcell k hlt
    have hst:=P1 (rows:=rows) (k:=k) (by omega)
    generalize rows.getD k []=xs at hI hst
    have hst':Hid ((rows.drop k).all ZN=(ZN xs && (rows.drop (k+1)).all ZN)):=hst
    clear hst hcell
    have hc':wr.cell? ⟨b,off+k,none⟩=some (.slice a' len' cap'):=by rw [hbel.cell (p:=⟨b,_,none⟩) hblt];exact hc
    have hI':=hI.below hbel
    clear hc hI
    go_wp2_with fail
    refine (Ka a' len' cap' xs _ (hI'.below (by go_grown))).mono ?_
    rintro e w1 ⟨rfl,hb1⟩
    have hb2:Below w.heap.size w w1:=Zb hbel (Zb (by go_grown) hb1)
    clear hb1 hbel hc' hI'
    cases hp:ZN xs
    ·have hff:fin=false:=by rw [hH.out,hst'.out,hp];rfl
     subst hff
     clear hH hst' hp
     go_wp2
     go_ret
     exact ⟨rfl,hb2⟩
    have hH':Hid (fin=(rows.drop (k+1)).all ZN):=by rw [Hid,hH.out,hst'.out,hp];rfl
    clear hH hst' hp
    go_wp2
    go_roundw
    case rel=>exact ⟨k+1,by omega,by go_num,hH',hb2⟩
    case measure=>simp [intOf];omega
   obtain rfl:k=3:=by omega
   have hd:(rows.drop 3).all ZN=true:=by rw [List.drop_eq_nil_of_le (by omega)];rfl
   have hff:fin=true:=hH.out.trans hd
   subst hff
   clear hH hd hcell
   go_wp2
   go_ret
   exact ⟨rfl,hbel⟩
 have hff:fin=false:=by rw [hfin,Zn,decide_eq_false (by omega)];rfl
 subst hff
 clear hfin
 have h3':(len:Int)≠3:=by omega
 go_enter Tryz.func124,Tryz.ntmps124
 go_wp2
 go_ret
 exact ⟨rfl,by go_grown⟩


theorem KZ {x:I3} (h:okI x=true):(0≤x.1∧x.1≤9)∧(0≤x.2.1∧x.2.1≤9)∧(0≤x.2.2∧x.2.2≤9):=by
 unfold okI at h
 rcases Wi x with h' | h' | h' | h' | h' | h' | h' | h' | h'
 all_goals first
  | (simp [h'] at h;simp only [ZA] at h;omega)
  | (obtain ⟨h1,h2,h3,h4,h5,h6,h7,h8⟩:=h';simp [h1,h2,h3,h4,h5,h6,h7,h8] at h)
theorem RW {n:Nat}:∀ {xs:List I3} {i:Nat},Z2 n i xs=true→∀ x ∈ xs,okI x=true
 | [],_,_,x,hx=>by cases hx
 | y::ys,i,h,x,hx=>by
  unfold Z2 at h
  simp only [Bool.and_eq_true] at h
  rcases List.mem_cons.1 hx with rfl | hx
  ·exact h.1.1
  exact RW h.2 x hx
theorem Y9 {rows:List (List I3)} (h:Zn rows=true):rows.length=3∧∀ r ∈ rows,r.length≤6∧∀ x ∈ r,okI x=true:=by
 unfold Zn at h
 simp only [Bool.and_eq_true,decide_eq_true_eq,List.all_eq_true] at h
 refine ⟨h.1,fun r hr=>?_⟩
 have:=h.2 r hr
 unfold ZN at this
 simp only [Bool.and_eq_true,decide_eq_true_eq] at this
 exact ⟨this.1,RW this.2⟩
theorem Y5 {P:Program} {ops:Array Oper} {o:Oper} {a:Act} {w:World} {K:Act→World→Prop} {Q:Exit→Act→World→Prop} {E:Prop}
  (hg:o.guard=none) (s x:Operand) (t:TypeId) (hop:o.op=Op.call { callee:=Callee.builtin Builtin.append,args:=#[s,x],argTypes:=#[t,t] })
  (base:Nat) (e:TypeId) (i:TypeInfo) (z:Value) (size bytes:Nat) (h1:P.underlying t=some (.slice e)) (h2:P.info? e=some i) (h3:i.zero=some z) (h4:i.size=size) (h5:i.bytes=bytes) (h6:z.cells.size=size) (h7:0<size)
  (v:Value) (n:Nat) (olds:List Value) (hs:a.eval s=v) (hown:w.ownsRow base e size v n olds)
  (ad:Addr) (m c:Nat) (news:List Value) (hx:a.eval x=.slice (some ad) m c) (hn:news.length=m*size) (hc:∀ j u,news[j]?=some u→w.cell? (ad.add j)=some u) (h1c:∀ u ∈ news,u.oneCell'=true)
  (b1:n+m≤maxLen) (b2:(n+m)*bytes≤140737488355328) (hbw:base≤w.heap.size)
  (hK:∀ v' w',w'.ownsRow base e size v' (n+m) (olds++news)→w.grownBy w' v.ownBlock→K (a.put o.dst v') w') :
  if Region.wanted o (yielded ops a.tmps)=true then Oper.wp P o a w K Q else E:=by
 have hw:Region.wanted o (yielded ops a.tmps)=true:=by simp [Region.wanted,hg]
 rw [if_pos hw]
 obtain ⟨v',w',hrun,r1,r2,_⟩:=run_append_own (P:=P) w base t o.type e i z size bytes h1 h2 h3 h4 h5 h6 h7 v n olds hown ad m c news hn hc h1c b1 b2 hbw
 subst hs
 unfold Oper.wp
 simp [execOp,hop,resolve,invoke,builtin,hx,hrun,Result.andThen]
 exact hK v' w' r1 r2
theorem Pf (a b c:Int):∀ u ∈ [Value.int .i64 a,.int .i64 b,.int .i64 c],u.oneCell'=true:=by intro u hu;simp at hu;rcases hu with rfl | rfl | rfl<;>rfl
theorem WD (w:World) (x y z:Value) (t:TypeId):∀ j u,[x,y,z][j]?=some u→(w.alloc (.cells #[x,y,z] t)).cell? ((⟨w.heap.size,0,none⟩:Addr).add j)=some u:=by
 intro j u hj
 match j,hj with
 | 0,hj=>simp at hj;subst hj;simp [Addr.add]
 | 1,hj=>simp at hj;subst hj;simp [Addr.add]
 | 2,hj=>simp at hj;subst hj;simp [Addr.add]
 | (j+3),hj=>simp at hj
end Go.Proofs.YtmhlokahmblboaaGreatDoor
