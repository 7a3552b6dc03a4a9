/-
  Joined: InstrI.
-/
import Derived.Shelf.Abstract
import Derived.Test.YtmhlokahmblboaaGreatDoorQ03

namespace Go.Proofs.YtmhlokahmblboaaGreatDoor
set_option maxRecDepth 100000
set_option maxHeartbeats 16000000
open Go.RowKit

def okI (x:I3):Bool:=
 if x.1=1 then inB x.2.1 0 1 && inB x.2.2 0 3
 else if x.1=2 then inB x.2.1 0 3 && inB x.2.2 0 1
 else if x.1=3∨x.1=4∨x.1=8 then inB x.2.1 0 1 && inB x.2.2 0 9
 else if x.1=5∨x.1=6 then inB x.2.1 0 1 && inB x.2.2 0 0
 else if x.1=7 then inB x.2.1 0 1 && inB x.2.2 1 6
 else false

theorem VZ (x:I3):x.1=1∨x.1=2∨x.1=3∨x.1=4∨x.1=5∨x.1=6∨x.1=7∨x.1=8∨(x.1≠1∧x.1≠2∧x.1≠3∧x.1≠4∧x.1≠5∧x.1≠6∧x.1≠7∧x.1≠8):=by omega

theorem Xa (c a b:Int) (TA TB fA fB:Nat) (p q:Bool) (w:World)
  (hO:∀ w,Calls Tryz.prog 235 #[.agg #[.int .i64 c,.int .i64 a,.int .i64 b]] w fun e w'=>e=.returned (.tuple #[.iface TA (.int .i64 a),.iface TB (.int .i64 b)])∧Below w.heap.size w w')
  (mA:∀ (v:Value) (w:World),(Go.method 441 TA v "loop.example/g00632/impl.right").run Tryz.prog w=.ok (fA,v) w)
  (mB:∀ (v:Value) (w:World),(Go.method 441 TB v "loop.example/g00632/impl.right").run Tryz.prog w=.ok (fB,v) w)
  (gA:∀ args w,(callFunc fA args).run Tryz.prog w=.ok (.enter fA args) w) (gB:∀ args w,(callFunc fB args).run Tryz.prog w=.ok (.enter fB args) w)
  (rA:∀ w,Calls Tryz.prog fA #[.int .i64 a] w fun e w'=>e=.returned (.bool p)∧w=w')
  (rB:∀ w,Calls Tryz.prog fB #[.int .i64 b] w fun e w'=>e=.returned (.bool q)∧w=w') :
  Calls Tryz.prog 211 #[.agg #[.int .i64 c,.int .i64 a,.int .i64 b]] w fun e w'=>e=.returned (.bool (p && q))∧Below w.heap.size w w':=by
 go_enter Tryz.func211,Tryz.ntmps211
 go_wp2_with fail
 refine (hO _).mono ?_
 rintro e w1 ⟨rfl,hb1⟩
 have hb:Below w.heap.size w w1:=Zb (by go_grown) hb1
 clear hb1 hO
 have kA:=rA w1
 have kB:=rB w1
 clear rA rB
 cases p
 ·go_wp2_with (go_at_fn fA;refine kA.mono ?_;rintro e w2 ⟨rfl,rfl⟩)
  go_ret
  exact ⟨rfl,hb⟩
 go_wp2_with (go_at_fn fA;refine kA.mono ?_;rintro e w2 ⟨rfl,rfl⟩)
 go_wp2_with (go_at_fn fB;refine kB.mono ?_;rintro e w2 ⟨rfl,rfl⟩)
 go_ret
 exact ⟨rfl,hb⟩

theorem Tj (a b:Int) (w:World):Calls Tryz.prog 235 #[.agg #[.int .i64 1,.int .i64 a,.int .i64 b]] w fun e w'=>e=.returned (.tuple #[.iface 314 (.int .i64 a),.iface 315 (.int .i64 b)])∧Below w.heap.size w w':=by
 go_enter Tryz.func235,Tryz.ntmps235
 go_wp2
 go_region
 go_wp2
 go_returns
 exact ⟨rfl,by go_grown⟩

theorem Kw (a b:Int) (w:World):Calls Tryz.prog 211 #[.agg #[.int .i64 1,.int .i64 a,.int .i64 b]] w fun e w'=>e=.returned (.bool (inB a 0 1 && inB b 0 3))∧Below w.heap.size w w':=
 Xa 1 a b 314 315 278 279 _ _ w (Tj a b) YY St
  (enters_of Tryz.func278 (by kernel_rfl) rfl) (enters_of Tryz.func279 (by kernel_rfl) rfl) (YT a) (Ty b)

theorem Tl (a b:Int) (w:World):Calls Tryz.prog 235 #[.agg #[.int .i64 2,.int .i64 a,.int .i64 b]] w fun e w'=>e=.returned (.tuple #[.iface 315 (.int .i64 a),.iface 314 (.int .i64 b)])∧Below w.heap.size w w':=by
 go_enter Tryz.func235,Tryz.ntmps235
 go_wp2
 go_region
 go_wp2
 go_returns
 exact ⟨rfl,by go_grown⟩

theorem Kx (a b:Int) (w:World):Calls Tryz.prog 211 #[.agg #[.int .i64 2,.int .i64 a,.int .i64 b]] w fun e w'=>e=.returned (.bool (inB a 0 3 && inB b 0 1))∧Below w.heap.size w w':=
 Xa 2 a b 315 314 279 278 _ _ w (Tl a b) St YY
  (enters_of Tryz.func279 (by kernel_rfl) rfl) (enters_of Tryz.func278 (by kernel_rfl) rfl) (Ty a) (YT b)

theorem Tm (a b:Int) (w:World):Calls Tryz.prog 235 #[.agg #[.int .i64 3,.int .i64 a,.int .i64 b]] w fun e w'=>e=.returned (.tuple #[.iface 314 (.int .i64 a),.iface 316 (.int .i64 b)])∧Below w.heap.size w w':=by
 go_enter Tryz.func235,Tryz.ntmps235
 go_wp2
 go_region
 go_wp2
 go_returns
 exact ⟨rfl,by go_grown⟩

theorem Ky (a b:Int) (w:World):Calls Tryz.prog 211 #[.agg #[.int .i64 3,.int .i64 a,.int .i64 b]] w fun e w'=>e=.returned (.bool (inB a 0 1 && inB b 0 9))∧Below w.heap.size w w':=
 Xa 3 a b 314 316 278 280 _ _ w (Tm a b) YY UD
  (enters_of Tryz.func278 (by kernel_rfl) rfl) (enters_of Tryz.func280 (by kernel_rfl) rfl) (YT a) (Ua b)

theorem Tn (a b:Int) (w:World):Calls Tryz.prog 235 #[.agg #[.int .i64 4,.int .i64 a,.int .i64 b]] w fun e w'=>e=.returned (.tuple #[.iface 314 (.int .i64 a),.iface 316 (.int .i64 b)])∧Below w.heap.size w w':=by
 go_enter Tryz.func235,Tryz.ntmps235
 go_wp2
 go_region
 go_wp2
 go_returns
 exact ⟨rfl,by go_grown⟩

theorem Kz (a b:Int) (w:World):Calls Tryz.prog 211 #[.agg #[.int .i64 4,.int .i64 a,.int .i64 b]] w fun e w'=>e=.returned (.bool (inB a 0 1 && inB b 0 9))∧Below w.heap.size w w':=
 Xa 4 a b 314 316 278 280 _ _ w (Tn a b) YY UD
  (enters_of Tryz.func278 (by kernel_rfl) rfl) (enters_of Tryz.func280 (by kernel_rfl) rfl) (YT a) (Ua b)

theorem To (a b:Int) (w:World):Calls Tryz.prog 235 #[.agg #[.int .i64 5,.int .i64 a,.int .i64 b]] w fun e w'=>e=.returned (.tuple #[.iface 317 (.int .i64 a),.iface 318 (.int .i64 b)])∧Below w.heap.size w w':=by
 go_enter Tryz.func235,Tryz.ntmps235
 go_wp2
 go_region
 go_wp2
 go_returns
 exact ⟨rfl,by go_grown⟩

theorem KA (a b:Int) (w:World):Calls Tryz.prog 211 #[.agg #[.int .i64 5,.int .i64 a,.int .i64 b]] w fun e w'=>e=.returned (.bool (inB a 0 1 && inB b 0 0))∧Below w.heap.size w w':=
 Xa 5 a b 317 318 281 282 _ _ w (To a b) Pa LI
  (enters_of Tryz.func281 (by kernel_rfl) rfl) (enters_of Tryz.func282 (by kernel_rfl) rfl) (RX a) (N7 b)

theorem Tp (a b:Int) (w:World):Calls Tryz.prog 235 #[.agg #[.int .i64 6,.int .i64 a,.int .i64 b]] w fun e w'=>e=.returned (.tuple #[.iface 317 (.int .i64 a),.iface 318 (.int .i64 b)])∧Below w.heap.size w w':=by
 go_enter Tryz.func235,Tryz.ntmps235
 go_wp2
 go_region
 go_wp2
 go_returns
 exact ⟨rfl,by go_grown⟩

theorem KB (a b:Int) (w:World):Calls Tryz.prog 211 #[.agg #[.int .i64 6,.int .i64 a,.int .i64 b]] w fun e w'=>e=.returned (.bool (inB a 0 1 && inB b 0 0))∧Below w.heap.size w w':=
 Xa 6 a b 317 318 281 282 _ _ w (Tp a b) Pa LI
  (enters_of Tryz.func281 (by kernel_rfl) rfl) (enters_of Tryz.func282 (by kernel_rfl) rfl) (RX a) (N7 b)

theorem VC (a b:Int) (w:World):Calls Tryz.prog 235 #[.agg #[.int .i64 7,.int .i64 a,.int .i64 b]] w fun e w'=>e=.returned (.tuple #[.iface 314 (.int .i64 a),.iface 306 (.int .i64 b)])∧Below w.heap.size w w':=by
 go_enter Tryz.func235,Tryz.ntmps235
 go_wp2
 go_region
 go_wp2
 go_returns
 exact ⟨rfl,by go_grown⟩

theorem KC (a b:Int) (w:World):Calls Tryz.prog 211 #[.agg #[.int .i64 7,.int .i64 a,.int .i64 b]] w fun e w'=>e=.returned (.bool (inB a 0 1 && inB b 1 6))∧Below w.heap.size w w':=
 Xa 7 a b 314 306 278 277 _ _ w (VC a b) YY NY
  (enters_of Tryz.func278 (by kernel_rfl) rfl) (enters_of Tryz.func277 (by kernel_rfl) rfl) (YT a) (P4 b)

theorem Tq (a b:Int) (w:World):Calls Tryz.prog 235 #[.agg #[.int .i64 8,.int .i64 a,.int .i64 b]] w fun e w'=>e=.returned (.tuple #[.iface 314 (.int .i64 a),.iface 316 (.int .i64 b)])∧Below w.heap.size w w':=by
 go_enter Tryz.func235,Tryz.ntmps235
 go_wp2
 go_region
 go_wp2
 go_returns
 exact ⟨rfl,by go_grown⟩

theorem KD (a b:Int) (w:World):Calls Tryz.prog 211 #[.agg #[.int .i64 8,.int .i64 a,.int .i64 b]] w fun e w'=>e=.returned (.bool (inB a 0 1 && inB b 0 9))∧Below w.heap.size w w':=
 Xa 8 a b 314 316 278 280 _ _ w (Tq a b) YY UD
  (enters_of Tryz.func278 (by kernel_rfl) rfl) (enters_of Tryz.func280 (by kernel_rfl) rfl) (YT a) (Ua b)

theorem Ti (c a b:Int) (w:World) (h:c≠1∧c≠2∧c≠3∧c≠4∧c≠5∧c≠6∧c≠7∧c≠8):Calls Tryz.prog 235 #[.agg #[.int .i64 c,.int .i64 a,.int .i64 b]] w fun e w'=>e=.returned (.tuple #[.nilIface,.nilIface])∧Below w.heap.size w w':=by
 obtain ⟨h1,h2,h3,h4,h5,h6,h7,h8⟩:=h
 go_enter Tryz.func235,Tryz.ntmps235
 go_wp2
 go_ret2
 exact ⟨rfl,by go_grown⟩

theorem Kv (c a b:Int) (w:World) (h:c≠1∧c≠2∧c≠3∧c≠4∧c≠5∧c≠6∧c≠7∧c≠8):Calls Tryz.prog 211 #[.agg #[.int .i64 c,.int .i64 a,.int .i64 b]] w fun e w'=>e=.returned (.bool false)∧Below w.heap.size w w':=by
 go_enter Tryz.func211,Tryz.ntmps211
 go_wp2_with fail
 refine (Ti c a b _ h).mono ?_
 rintro e w1 ⟨rfl,hb1⟩
 have hb:Below w.heap.size w w1:=Zb (by go_grown) hb1
 clear hb1 h
 go_wp2
 go_ret
 exact ⟨rfl,hb⟩

theorem MR (x:I3) (w:World):Calls Tryz.prog 211 #[x.val] w fun e w'=>e=.returned (.bool (okI x))∧Below w.heap.size w w':=by
 obtain ⟨c,a,b⟩:=x
 unfold I3.val okI
 rcases VZ (c,a,b) with h | h | h | h | h | h | h | h | h
 ·obtain rfl:c=1:=h
  simpa using Kw a b w
 ·obtain rfl:c=2:=h
  simpa using Kx a b w
 ·obtain rfl:c=3:=h
  simpa using Ky a b w
 ·obtain rfl:c=4:=h
  simpa using Kz a b w
 ·obtain rfl:c=5:=h
  simpa using KA a b w
 ·obtain rfl:c=6:=h
  simpa using KB a b w
 ·obtain rfl:c=7:=h
  simpa using KC a b w
 ·obtain rfl:c=8:=h
  simpa using KD a b w
 have h':=h
 obtain ⟨h1,h2,h3,h4,h5,h6,h7,h8⟩:=h
 simp only [] at h1 h2 h3 h4 h5 h6 h7 h8
 rw [if_neg h1,if_neg h2,if_neg (by simp;omega),if_neg (by simp;omega),if_neg h7]
 exact Kv c a b w h'
end Go.Proofs.YtmhlokahmblboaaGreatDoor
