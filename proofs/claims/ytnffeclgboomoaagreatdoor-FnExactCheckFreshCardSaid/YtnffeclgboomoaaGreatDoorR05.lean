/-
  Joined: InstrI.
-/
import Derived.Shelf.Abstract
import Derived.Test.YtnffeclgboomoaaGreatDoorR01

namespace Go.Proofs.YtnffeclgboomoaaGreatDoor
set_option maxRecDepth 100000
set_option maxHeartbeats 16000000
open Go.RowKit

def okI (x:I3):Bool:=
 if x.1=1 then inB x.2.1 0 1 && inB x.2.2 0 3
 else if x.1=2 then inB x.2.1 0 3 && inB x.2.2 0 1
 else if x.1=3∨x.1=4∨x.1=8 then inB x.2.1 0 1 && inB x.2.2 0 9
 else if x.1=5∨x.1=6 then inB x.2.1 0 1 && inB x.2.2 0 0
 else if x.1=7 then inB x.2.1 0 1 && inB x.2.2 1 6
 else false

theorem VX (x:I3):x.1=1∨x.1=2∨x.1=3∨x.1=4∨x.1=5∨x.1=6∨x.1=7∨x.1=8∨(x.1≠1∧x.1≠2∧x.1≠3∧x.1≠4∧x.1≠5∧x.1≠6∧x.1≠7∧x.1≠8):=by omega

theorem Xb (c a b:Int) (TA TB fA fB:Nat) (p q:Bool) (w:World)
  (hO:∀ w,Calls Tryz.prog 199 #[.agg #[.int .i64 c,.int .i64 a,.int .i64 b]] w fun e w'=>e=.returned (.tuple #[.iface TA (.int .i64 a),.iface TB (.int .i64 b)])∧Below w.heap.size w w')
  (mA:∀ (v:Value) (w:World),(Go.method 441 TA v "loop.example/g00632/impl.right").run Tryz.prog w=.ok (fA,v) w)
  (mB:∀ (v:Value) (w:World),(Go.method 441 TB v "loop.example/g00632/impl.right").run Tryz.prog w=.ok (fB,v) w)
  (gA:∀ args w,(callFunc fA args).run Tryz.prog w=.ok (.enter fA args) w) (gB:∀ args w,(callFunc fB args).run Tryz.prog w=.ok (.enter fB args) w)
  (rA:∀ w,Calls Tryz.prog fA #[.int .i64 a] w fun e w'=>e=.returned (.bool p)∧w=w')
  (rB:∀ w,Calls Tryz.prog fB #[.int .i64 b] w fun e w'=>e=.returned (.bool q)∧w=w') :
  Calls Tryz.prog 158 #[.agg #[.int .i64 c,.int .i64 a,.int .i64 b]] w fun e w'=>e=.returned (.bool (p && q))∧Below w.heap.size w w':=by
 go_enter Tryz.func158,Tryz.ntmps158
 go_wp2_with fail
 refine (hO _).mono ?_
 rintro e w1 ⟨rfl,hb1⟩
 have hb:Below w.heap.size w w1:=Zb (by go_grown) hb1
 clear hb1 hO
 have kA:=rA w1
 have kB:=rB w1
 clear rA rB
 cases p
 ·go_wp2_with (go_at_fn fA;refine kA.mono ?_;rintro e w2 ⟨rfl,rfl⟩)
  go_ret
  exact ⟨rfl,hb⟩
 go_wp2_with (go_at_fn fA;refine kA.mono ?_;rintro e w2 ⟨rfl,rfl⟩)
 go_wp2_with (go_at_fn fB;refine kB.mono ?_;rintro e w2 ⟨rfl,rfl⟩)
 go_ret
 exact ⟨rfl,hb⟩

theorem Te (a b:Int) (w:World):Calls Tryz.prog 199 #[.agg #[.int .i64 1,.int .i64 a,.int .i64 b]] w fun e w'=>e=.returned (.tuple #[.iface 287 (.int .i64 a),.iface 288 (.int .i64 b)])∧Below w.heap.size w w':=by
 go_enter Tryz.func199,Tryz.ntmps199
 go_wp2
 go_region
 go_wp2
 go_returns
 exact ⟨rfl,by go_grown⟩

theorem LN (a b:Int) (w:World):Calls Tryz.prog 158 #[.agg #[.int .i64 1,.int .i64 a,.int .i64 b]] w fun e w'=>e=.returned (.bool (inB a 0 1 && inB b 0 3))∧Below w.heap.size w w':=
 Xb 1 a b 287 288 290 291 _ _ w (Te a b) Y1 So
  (enters_of Tryz.func290 (by kernel_rfl) rfl) (enters_of Tryz.func291 (by kernel_rfl) rfl) (YQ a) (Ts b)

theorem Tf (a b:Int) (w:World):Calls Tryz.prog 199 #[.agg #[.int .i64 2,.int .i64 a,.int .i64 b]] w fun e w'=>e=.returned (.tuple #[.iface 288 (.int .i64 a),.iface 287 (.int .i64 b)])∧Below w.heap.size w w':=by
 go_enter Tryz.func199,Tryz.ntmps199
 go_wp2
 go_region
 go_wp2
 go_returns
 exact ⟨rfl,by go_grown⟩

theorem LO (a b:Int) (w:World):Calls Tryz.prog 158 #[.agg #[.int .i64 2,.int .i64 a,.int .i64 b]] w fun e w'=>e=.returned (.bool (inB a 0 3 && inB b 0 1))∧Below w.heap.size w w':=
 Xb 2 a b 288 287 291 290 _ _ w (Tf a b) So Y1
  (enters_of Tryz.func291 (by kernel_rfl) rfl) (enters_of Tryz.func290 (by kernel_rfl) rfl) (Ts a) (YQ b)

theorem Tg (a b:Int) (w:World):Calls Tryz.prog 199 #[.agg #[.int .i64 3,.int .i64 a,.int .i64 b]] w fun e w'=>e=.returned (.tuple #[.iface 287 (.int .i64 a),.iface 289 (.int .i64 b)])∧Below w.heap.size w w':=by
 go_enter Tryz.func199,Tryz.ntmps199
 go_wp2
 go_region
 go_wp2
 go_returns
 exact ⟨rfl,by go_grown⟩

theorem LP (a b:Int) (w:World):Calls Tryz.prog 158 #[.agg #[.int .i64 3,.int .i64 a,.int .i64 b]] w fun e w'=>e=.returned (.bool (inB a 0 1 && inB b 0 9))∧Below w.heap.size w w':=
 Xb 3 a b 287 289 290 292 _ _ w (Tg a b) Y1 UB
  (enters_of Tryz.func290 (by kernel_rfl) rfl) (enters_of Tryz.func292 (by kernel_rfl) rfl) (YQ a) (VY b)

theorem Th (a b:Int) (w:World):Calls Tryz.prog 199 #[.agg #[.int .i64 4,.int .i64 a,.int .i64 b]] w fun e w'=>e=.returned (.tuple #[.iface 287 (.int .i64 a),.iface 289 (.int .i64 b)])∧Below w.heap.size w w':=by
 go_enter Tryz.func199,Tryz.ntmps199
 go_wp2
 go_region
 go_wp2
 go_returns
 exact ⟨rfl,by go_grown⟩

theorem LQ (a b:Int) (w:World):Calls Tryz.prog 158 #[.agg #[.int .i64 4,.int .i64 a,.int .i64 b]] w fun e w'=>e=.returned (.bool (inB a 0 1 && inB b 0 9))∧Below w.heap.size w w':=
 Xb 4 a b 287 289 290 292 _ _ w (Th a b) Y1 UB
  (enters_of Tryz.func290 (by kernel_rfl) rfl) (enters_of Tryz.func292 (by kernel_rfl) rfl) (YQ a) (VY b)

theorem Ti (a b:Int) (w:World):Calls Tryz.prog 199 #[.agg #[.int .i64 5,.int .i64 a,.int .i64 b]] w fun e w'=>e=.returned (.tuple #[.iface 290 (.int .i64 a),.iface 291 (.int .i64 b)])∧Below w.heap.size w w':=by
 go_enter Tryz.func199,Tryz.ntmps199
 go_wp2
 go_region
 go_wp2
 go_returns
 exact ⟨rfl,by go_grown⟩

theorem LR (a b:Int) (w:World):Calls Tryz.prog 158 #[.agg #[.int .i64 5,.int .i64 a,.int .i64 b]] w fun e w'=>e=.returned (.bool (inB a 0 1 && inB b 0 0))∧Below w.heap.size w w':=
 Xb 5 a b 290 291 293 294 _ _ w (Ti a b) QL M5
  (enters_of Tryz.func293 (by kernel_rfl) rfl) (enters_of Tryz.func294 (by kernel_rfl) rfl) (RG a) (NA b)

theorem Tj (a b:Int) (w:World):Calls Tryz.prog 199 #[.agg #[.int .i64 6,.int .i64 a,.int .i64 b]] w fun e w'=>e=.returned (.tuple #[.iface 290 (.int .i64 a),.iface 291 (.int .i64 b)])∧Below w.heap.size w w':=by
 go_enter Tryz.func199,Tryz.ntmps199
 go_wp2
 go_region
 go_wp2
 go_returns
 exact ⟨rfl,by go_grown⟩

theorem LS (a b:Int) (w:World):Calls Tryz.prog 158 #[.agg #[.int .i64 6,.int .i64 a,.int .i64 b]] w fun e w'=>e=.returned (.bool (inB a 0 1 && inB b 0 0))∧Below w.heap.size w w':=
 Xb 6 a b 290 291 293 294 _ _ w (Tj a b) QL M5
  (enters_of Tryz.func293 (by kernel_rfl) rfl) (enters_of Tryz.func294 (by kernel_rfl) rfl) (RG a) (NA b)

theorem Vu (a b:Int) (w:World):Calls Tryz.prog 199 #[.agg #[.int .i64 7,.int .i64 a,.int .i64 b]] w fun e w'=>e=.returned (.tuple #[.iface 287 (.int .i64 a),.iface 265 (.int .i64 b)])∧Below w.heap.size w w':=by
 go_enter Tryz.func199,Tryz.ntmps199
 go_wp2
 go_region
 go_wp2
 go_returns
 exact ⟨rfl,by go_grown⟩

theorem LT (a b:Int) (w:World):Calls Tryz.prog 158 #[.agg #[.int .i64 7,.int .i64 a,.int .i64 b]] w fun e w'=>e=.returned (.bool (inB a 0 1 && inB b 1 6))∧Below w.heap.size w w':=
 Xb 7 a b 287 265 290 289 _ _ w (Vu a b) Y1 No
  (enters_of Tryz.func290 (by kernel_rfl) rfl) (enters_of Tryz.func289 (by kernel_rfl) rfl) (YQ a) (PC b)

theorem Tl (a b:Int) (w:World):Calls Tryz.prog 199 #[.agg #[.int .i64 8,.int .i64 a,.int .i64 b]] w fun e w'=>e=.returned (.tuple #[.iface 287 (.int .i64 a),.iface 289 (.int .i64 b)])∧Below w.heap.size w w':=by
 go_enter Tryz.func199,Tryz.ntmps199
 go_wp2
 go_region
 go_wp2
 go_returns
 exact ⟨rfl,by go_grown⟩

theorem LU (a b:Int) (w:World):Calls Tryz.prog 158 #[.agg #[.int .i64 8,.int .i64 a,.int .i64 b]] w fun e w'=>e=.returned (.bool (inB a 0 1 && inB b 0 9))∧Below w.heap.size w w':=
 Xb 8 a b 287 289 290 292 _ _ w (Tl a b) Y1 UB
  (enters_of Tryz.func290 (by kernel_rfl) rfl) (enters_of Tryz.func292 (by kernel_rfl) rfl) (YQ a) (VY b)

theorem Td (c a b:Int) (w:World) (h:c≠1∧c≠2∧c≠3∧c≠4∧c≠5∧c≠6∧c≠7∧c≠8):Calls Tryz.prog 199 #[.agg #[.int .i64 c,.int .i64 a,.int .i64 b]] w fun e w'=>e=.returned (.tuple #[.nilIface,.nilIface])∧Below w.heap.size w w':=by
 obtain ⟨h1,h2,h3,h4,h5,h6,h7,h8⟩:=h
 go_enter Tryz.func199,Tryz.ntmps199
 go_wp2
 go_ret2
 exact ⟨rfl,by go_grown⟩

theorem LM (c a b:Int) (w:World) (h:c≠1∧c≠2∧c≠3∧c≠4∧c≠5∧c≠6∧c≠7∧c≠8):Calls Tryz.prog 158 #[.agg #[.int .i64 c,.int .i64 a,.int .i64 b]] w fun e w'=>e=.returned (.bool false)∧Below w.heap.size w w':=by
 go_enter Tryz.func158,Tryz.ntmps158
 go_wp2_with fail
 refine (Td c a b _ h).mono ?_
 rintro e w1 ⟨rfl,hb1⟩
 have hb:Below w.heap.size w w1:=Zb (by go_grown) hb1
 clear hb1 h
 go_wp2
 go_ret
 exact ⟨rfl,hb⟩

theorem Mg (x:I3) (w:World):Calls Tryz.prog 158 #[x.val] w fun e w'=>e=.returned (.bool (okI x))∧Below w.heap.size w w':=by
 obtain ⟨c,a,b⟩:=x
 unfold I3.val okI
 rcases VX (c,a,b) with h | h | h | h | h | h | h | h | h
 ·obtain rfl:c=1:=h
  simpa using LN a b w
 ·obtain rfl:c=2:=h
  simpa using LO a b w
 ·obtain rfl:c=3:=h
  simpa using LP a b w
 ·obtain rfl:c=4:=h
  simpa using LQ a b w
 ·obtain rfl:c=5:=h
  simpa using LR a b w
 ·obtain rfl:c=6:=h
  simpa using LS a b w
 ·obtain rfl:c=7:=h
  simpa using LT a b w
 ·obtain rfl:c=8:=h
  simpa using LU a b w
 have h':=h
 obtain ⟨h1,h2,h3,h4,h5,h6,h7,h8⟩:=h
 simp only [] at h1 h2 h3 h4 h5 h6 h7 h8
 rw [if_neg h1,if_neg h2,if_neg (by simp;omega),if_neg (by simp;omega),if_neg h7]
 exact LM c a b w h'
end Go.Proofs.YtnffeclgboomoaaGreatDoor
