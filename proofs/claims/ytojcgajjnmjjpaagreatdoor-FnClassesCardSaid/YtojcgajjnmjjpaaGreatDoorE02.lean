/-
  Joined: InstrI.
-/
import Derived.Shelf.Abstract
import Derived.Test.YtojcgajjnmjjpaaGreatDoorE01

namespace Go.Proofs.YtojcgajjnmjjpaaGreatDoor
set_option maxRecDepth 100000
set_option maxHeartbeats 16000000
open Go.RowKit

def okI (x:I3):Bool:=
 if x.1=1 then inB x.2.1 0 1 && inB x.2.2 0 3
 else if x.1=2 then inB x.2.1 0 3 && inB x.2.2 0 1
 else if x.1=3∨x.1=4∨x.1=8 then inB x.2.1 0 1 && inB x.2.2 0 9
 else if x.1=5∨x.1=6 then inB x.2.1 0 1 && inB x.2.2 0 0
 else if x.1=7 then inB x.2.1 0 1 && inB x.2.2 1 6
 else false

theorem Wo (x:I3):x.1=1∨x.1=2∨x.1=3∨x.1=4∨x.1=5∨x.1=6∨x.1=7∨x.1=8∨(x.1≠1∧x.1≠2∧x.1≠3∧x.1≠4∧x.1≠5∧x.1≠6∧x.1≠7∧x.1≠8):=by omega

theorem Xp (c a b:Int) (TA TB fA fB:Nat) (p q:Bool) (w:World)
  (hO:∀ w,Calls Tryz.prog 184 #[.agg #[.int .i64 c,.int .i64 a,.int .i64 b]] w fun e w'=>e=.returned (.tuple #[.iface TA (.int .i64 a),.iface TB (.int .i64 b)])∧Below w.heap.size w w')
  (mA:∀ (v:Value) (w:World),(Go.method 371 TA v "loop.example/g00632/impl.right").run Tryz.prog w=.ok (fA,v) w)
  (mB:∀ (v:Value) (w:World),(Go.method 371 TB v "loop.example/g00632/impl.right").run Tryz.prog w=.ok (fB,v) w)
  (gA:∀ args w,(callFunc fA args).run Tryz.prog w=.ok (.enter fA args) w) (gB:∀ args w,(callFunc fB args).run Tryz.prog w=.ok (.enter fB args) w)
  (rA:∀ w,Calls Tryz.prog fA #[.int .i64 a] w fun e w'=>e=.returned (.bool p)∧w=w')
  (rB:∀ w,Calls Tryz.prog fB #[.int .i64 b] w fun e w'=>e=.returned (.bool q)∧w=w') :
  Calls Tryz.prog 167 #[.agg #[.int .i64 c,.int .i64 a,.int .i64 b]] w fun e w'=>e=.returned (.bool (p && q))∧Below w.heap.size w w':=by
 go_enter Tryz.func167,Tryz.ntmps167
 go_wp2_with fail
 refine (hO _).mono ?_
 rintro e w1 ⟨rfl,hb1⟩
 have hb:Below w.heap.size w w1:=Zb (by go_grown) hb1
 clear hb1 hO
 have kA:=rA w1
 have kB:=rB w1
 clear rA rB
 cases p
 ·go_wp2_with (go_at_fn fA;refine kA.mono ?_;rintro e w2 ⟨rfl,rfl⟩)
  go_ret
  exact ⟨rfl,hb⟩
 go_wp2_with (go_at_fn fA;refine kA.mono ?_;rintro e w2 ⟨rfl,rfl⟩)
 go_wp2_with (go_at_fn fB;refine kB.mono ?_;rintro e w2 ⟨rfl,rfl⟩)
 go_ret
 exact ⟨rfl,hb⟩

theorem TM (a b:Int) (w:World):Calls Tryz.prog 184 #[.agg #[.int .i64 1,.int .i64 a,.int .i64 b]] w fun e w'=>e=.returned (.tuple #[.iface 250 (.int .i64 a),.iface 251 (.int .i64 b)])∧Below w.heap.size w w':=by
 go_enter Tryz.func184,Tryz.ntmps184
 go_wp2
 go_region
 go_wp2
 go_returns
 exact ⟨rfl,by go_grown⟩

theorem Ky (a b:Int) (w:World):Calls Tryz.prog 167 #[.agg #[.int .i64 1,.int .i64 a,.int .i64 b]] w fun e w'=>e=.returned (.bool (inB a 0 1 && inB b 0 3))∧Below w.heap.size w w':=
 Xp 1 a b 250 251 207 208 _ _ w (TM a b) Xi SO
  (enters_of Tryz.func207 (by kernel_rfl) rfl) (enters_of Tryz.func208 (by kernel_rfl) rfl) (Y7 a) (TW b)

theorem TN (a b:Int) (w:World):Calls Tryz.prog 184 #[.agg #[.int .i64 2,.int .i64 a,.int .i64 b]] w fun e w'=>e=.returned (.tuple #[.iface 251 (.int .i64 a),.iface 250 (.int .i64 b)])∧Below w.heap.size w w':=by
 go_enter Tryz.func184,Tryz.ntmps184
 go_wp2
 go_region
 go_wp2
 go_returns
 exact ⟨rfl,by go_grown⟩

theorem Kz (a b:Int) (w:World):Calls Tryz.prog 167 #[.agg #[.int .i64 2,.int .i64 a,.int .i64 b]] w fun e w'=>e=.returned (.bool (inB a 0 3 && inB b 0 1))∧Below w.heap.size w w':=
 Xp 2 a b 251 250 208 207 _ _ w (TN a b) SO Xi
  (enters_of Tryz.func208 (by kernel_rfl) rfl) (enters_of Tryz.func207 (by kernel_rfl) rfl) (TW a) (Y7 b)

theorem TO (a b:Int) (w:World):Calls Tryz.prog 184 #[.agg #[.int .i64 3,.int .i64 a,.int .i64 b]] w fun e w'=>e=.returned (.tuple #[.iface 250 (.int .i64 a),.iface 252 (.int .i64 b)])∧Below w.heap.size w w':=by
 go_enter Tryz.func184,Tryz.ntmps184
 go_wp2
 go_region
 go_wp2
 go_returns
 exact ⟨rfl,by go_grown⟩

theorem KA (a b:Int) (w:World):Calls Tryz.prog 167 #[.agg #[.int .i64 3,.int .i64 a,.int .i64 b]] w fun e w'=>e=.returned (.bool (inB a 0 1 && inB b 0 9))∧Below w.heap.size w w':=
 Xp 3 a b 250 252 207 209 _ _ w (TO a b) Xi Tc
  (enters_of Tryz.func207 (by kernel_rfl) rfl) (enters_of Tryz.func209 (by kernel_rfl) rfl) (Y7 a) (Ul b)

theorem TP (a b:Int) (w:World):Calls Tryz.prog 184 #[.agg #[.int .i64 4,.int .i64 a,.int .i64 b]] w fun e w'=>e=.returned (.tuple #[.iface 250 (.int .i64 a),.iface 252 (.int .i64 b)])∧Below w.heap.size w w':=by
 go_enter Tryz.func184,Tryz.ntmps184
 go_wp2
 go_region
 go_wp2
 go_returns
 exact ⟨rfl,by go_grown⟩

theorem KB (a b:Int) (w:World):Calls Tryz.prog 167 #[.agg #[.int .i64 4,.int .i64 a,.int .i64 b]] w fun e w'=>e=.returned (.bool (inB a 0 1 && inB b 0 9))∧Below w.heap.size w w':=
 Xp 4 a b 250 252 207 209 _ _ w (TP a b) Xi Tc
  (enters_of Tryz.func207 (by kernel_rfl) rfl) (enters_of Tryz.func209 (by kernel_rfl) rfl) (Y7 a) (Ul b)

theorem TQ (a b:Int) (w:World):Calls Tryz.prog 184 #[.agg #[.int .i64 5,.int .i64 a,.int .i64 b]] w fun e w'=>e=.returned (.tuple #[.iface 253 (.int .i64 a),.iface 254 (.int .i64 b)])∧Below w.heap.size w w':=by
 go_enter Tryz.func184,Tryz.ntmps184
 go_wp2
 go_region
 go_wp2
 go_returns
 exact ⟨rfl,by go_grown⟩

theorem KC (a b:Int) (w:World):Calls Tryz.prog 167 #[.agg #[.int .i64 5,.int .i64 a,.int .i64 b]] w fun e w'=>e=.returned (.bool (inB a 0 1 && inB b 0 0))∧Below w.heap.size w w':=
 Xp 5 a b 253 254 210 211 _ _ w (TQ a b) QZ Lt
  (enters_of Tryz.func210 (by kernel_rfl) rfl) (enters_of Tryz.func211 (by kernel_rfl) rfl) (Qb a) (Mb b)

theorem TR (a b:Int) (w:World):Calls Tryz.prog 184 #[.agg #[.int .i64 6,.int .i64 a,.int .i64 b]] w fun e w'=>e=.returned (.tuple #[.iface 253 (.int .i64 a),.iface 254 (.int .i64 b)])∧Below w.heap.size w w':=by
 go_enter Tryz.func184,Tryz.ntmps184
 go_wp2
 go_region
 go_wp2
 go_returns
 exact ⟨rfl,by go_grown⟩

theorem KD (a b:Int) (w:World):Calls Tryz.prog 167 #[.agg #[.int .i64 6,.int .i64 a,.int .i64 b]] w fun e w'=>e=.returned (.bool (inB a 0 1 && inB b 0 0))∧Below w.heap.size w w':=
 Xp 6 a b 253 254 210 211 _ _ w (TR a b) QZ Lt
  (enters_of Tryz.func210 (by kernel_rfl) rfl) (enters_of Tryz.func211 (by kernel_rfl) rfl) (Qb a) (Mb b)

theorem VP (a b:Int) (w:World):Calls Tryz.prog 184 #[.agg #[.int .i64 7,.int .i64 a,.int .i64 b]] w fun e w'=>e=.returned (.tuple #[.iface 250 (.int .i64 a),.iface 244 (.int .i64 b)])∧Below w.heap.size w w':=by
 go_enter Tryz.func184,Tryz.ntmps184
 go_wp2
 go_region
 go_wp2
 go_returns
 exact ⟨rfl,by go_grown⟩

theorem KE (a b:Int) (w:World):Calls Tryz.prog 167 #[.agg #[.int .i64 7,.int .i64 a,.int .i64 b]] w fun e w'=>e=.returned (.bool (inB a 0 1 && inB b 1 6))∧Below w.heap.size w w':=
 Xp 7 a b 250 244 207 206 _ _ w (VP a b) Xi NU
  (enters_of Tryz.func207 (by kernel_rfl) rfl) (enters_of Tryz.func206 (by kernel_rfl) rfl) (Y7 a) (PY b)

theorem TS (a b:Int) (w:World):Calls Tryz.prog 184 #[.agg #[.int .i64 8,.int .i64 a,.int .i64 b]] w fun e w'=>e=.returned (.tuple #[.iface 250 (.int .i64 a),.iface 252 (.int .i64 b)])∧Below w.heap.size w w':=by
 go_enter Tryz.func184,Tryz.ntmps184
 go_wp2
 go_region
 go_wp2
 go_returns
 exact ⟨rfl,by go_grown⟩

theorem KF (a b:Int) (w:World):Calls Tryz.prog 167 #[.agg #[.int .i64 8,.int .i64 a,.int .i64 b]] w fun e w'=>e=.returned (.bool (inB a 0 1 && inB b 0 9))∧Below w.heap.size w w':=
 Xp 8 a b 250 252 207 209 _ _ w (TS a b) Xi Tc
  (enters_of Tryz.func207 (by kernel_rfl) rfl) (enters_of Tryz.func209 (by kernel_rfl) rfl) (Y7 a) (Ul b)

theorem TL (c a b:Int) (w:World) (h:c≠1∧c≠2∧c≠3∧c≠4∧c≠5∧c≠6∧c≠7∧c≠8):Calls Tryz.prog 184 #[.agg #[.int .i64 c,.int .i64 a,.int .i64 b]] w fun e w'=>e=.returned (.tuple #[.nilIface,.nilIface])∧Below w.heap.size w w':=by
 obtain ⟨h1,h2,h3,h4,h5,h6,h7,h8⟩:=h
 go_enter Tryz.func184,Tryz.ntmps184
 go_wp2
 go_ret2
 exact ⟨rfl,by go_grown⟩

theorem Kx (c a b:Int) (w:World) (h:c≠1∧c≠2∧c≠3∧c≠4∧c≠5∧c≠6∧c≠7∧c≠8):Calls Tryz.prog 167 #[.agg #[.int .i64 c,.int .i64 a,.int .i64 b]] w fun e w'=>e=.returned (.bool false)∧Below w.heap.size w w':=by
 go_enter Tryz.func167,Tryz.ntmps167
 go_wp2_with fail
 refine (TL c a b _ h).mono ?_
 rintro e w1 ⟨rfl,hb1⟩
 have hb:Below w.heap.size w w1:=Zb (by go_grown) hb1
 clear hb1 h
 go_wp2
 go_ret
 exact ⟨rfl,hb⟩

theorem MJ (x:I3) (w:World):Calls Tryz.prog 167 #[x.val] w fun e w'=>e=.returned (.bool (okI x))∧Below w.heap.size w w':=by
 obtain ⟨c,a,b⟩:=x
 unfold I3.val okI
 rcases Wo (c,a,b) with h | h | h | h | h | h | h | h | h
 ·obtain rfl:c=1:=h
  simpa using Ky a b w
 ·obtain rfl:c=2:=h
  simpa using Kz a b w
 ·obtain rfl:c=3:=h
  simpa using KA a b w
 ·obtain rfl:c=4:=h
  simpa using KB a b w
 ·obtain rfl:c=5:=h
  simpa using KC a b w
 ·obtain rfl:c=6:=h
  simpa using KD a b w
 ·obtain rfl:c=7:=h
  simpa using KE a b w
 ·obtain rfl:c=8:=h
  simpa using KF a b w
 have h':=h
 obtain ⟨h1,h2,h3,h4,h5,h6,h7,h8⟩:=h
 simp only [] at h1 h2 h3 h4 h5 h6 h7 h8
 rw [if_neg h1,if_neg h2,if_neg (by simp;omega),if_neg (by simp;omega),if_neg h7]
 exact Kx c a b w h'
end Go.Proofs.YtojcgajjnmjjpaaGreatDoor
