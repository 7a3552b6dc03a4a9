/-
  Joined: ItmI, VmOfS.
-/
import Derived.Test.YtmhlokahmblboaaGreatDoorQ16
import Derived.Test.YtmhlokahmblboaaGreatDoorQ17

namespace Go.Proofs.YtmhlokahmblboaaGreatDoor
set_option maxRecDepth 100000
set_option maxHeartbeats 16000000
open Go.RowKit
set_option linter.unusedVariables false

def XD (n a b:Int):Bool:=decide (a≤n∧n≤b)
theorem YF {n a b:Int}:XD n a b=true↔a≤n∧n≤b:=by simp [XD]
theorem XW {n a b:Int}:XD n a b=false↔¬ (a≤n∧n≤b):=by simp only [XD,decide_eq_false_iff_not]
theorem Fo (n a b:Int) (w:World):Calls Tryz.prog 98 #[.int .i64 n,.int .i64 a,.int .i64 b] w fun e w'=>e=.returned (.bool (XD n a b))∧w=w':=by
 cases h:XD n a b
 ·exact Ta n a b w (XW.1 h)
 exact Ui n a b w (YF.1 h)

theorem QX (n:Int) (w:World):Calls Tryz.prog 221 #[.int .i64 n] w fun e w'=>e=.returned (.bool (XD n 0 2))∧w=w':=by
 cases h:XD n 0 2
 ·rw [XW] at h
  by_cases h1:0≤n
  ·have h2:decide (n<3)=false:=by simp;omega
   clear h
   go_enter Tryz.func221,Tryz.ntmps221
   go_wp2
   go_ret
   exact ⟨rfl,rfl⟩
  clear h
  go_enter Tryz.func221,Tryz.ntmps221
  go_wp2
  go_ret
  exact ⟨rfl,rfl⟩
 rw [YF] at h
 obtain ⟨h1,h3⟩:=h
 have h2:decide (n<3)=true:=by simp;omega
 clear h3
 go_enter Tryz.func221,Tryz.ntmps221
 go_wp2
 go_ret
 exact ⟨by simp_all,rfl⟩

theorem ND (n:Int) (w:World):Calls Tryz.prog 222 #[.int .i64 n] w fun e w'=>e=.returned (.bool (XD n 0 6))∧w=w':=by
 cases h:XD n 0 6
 ·rw [XW] at h
  by_cases h1:0≤n
  ·have h2:decide (n≤6)=false:=by simp;omega
   clear h
   go_enter Tryz.func222,Tryz.ntmps222
   go_wp2
   go_ret
   exact ⟨rfl,rfl⟩
  clear h
  go_enter Tryz.func222,Tryz.ntmps222
  go_wp2
  go_ret
  exact ⟨rfl,rfl⟩
 rw [YF] at h
 obtain ⟨h1,h3⟩:=h
 have h2:decide (n≤6)=true:=by simp;omega
 clear h3
 go_enter Tryz.func222,Tryz.ntmps222
 go_wp2
 go_ret
 exact ⟨by simp_all,rfl⟩

def LE (k pc:Int):Value:=if XD k 0 2=true∧XD pc 0 6=true then .tuple #[.int .i64 (8*k+pc),.int .i64 0] else .tuple #[.int .i64 0,.int .i64 4]
theorem Ug {k pc:Int} (h1:XD k 0 2=true) (h2:XD pc 0 6=true):LE k pc=.tuple #[.int .i64 (8*k+pc),.int .i64 0]:=if_pos ⟨h1,h2⟩
theorem KF {k pc:Int} (h1:XD k 0 2=false):LE k pc=.tuple #[.int .i64 0,.int .i64 4]:=if_neg (by rw [h1];simp)
theorem KG {k pc:Int} (h2:XD pc 0 6=false):LE k pc=.tuple #[.int .i64 0,.int .i64 4]:=if_neg (by rw [h2];simp)

theorem Vd (k pc:Int) (w:World):Calls Tryz.prog 205 #[.int .i64 k,.int .i64 pc] w fun e w'=>e=.returned (LE k pc)∧w=w':=by
 have kT:=QX k
 have kP:=ND pc
 cases hA:XD k 0 2
 ·rw [KF hA]
  rw [hA] at kT
  clear hA
  go_enter Tryz.func205,Tryz.ntmps205
  go_wp2_with fail
  refine (kT _).mono ?_
  rintro e w1 ⟨rfl,rfl⟩
  go_wp2
  go_ret2
  exact ⟨rfl,rfl⟩
 cases hB:XD pc 0 6
 ·rw [KG hB]
  rw [hA] at kT
  rw [hB] at kP
  clear hA hB
  go_enter Tryz.func205,Tryz.ntmps205
  go_wp2_with fail
  refine (kT _).mono ?_
  rintro e w1 ⟨rfl,rfl⟩
  go_wp2_with fail
  refine (kP _).mono ?_
  rintro e w1 ⟨rfl,rfl⟩
  go_wp2
  go_ret2
  exact ⟨rfl,rfl⟩
 rw [Ug hA hB]
 rw [hA] at kT
 rw [hB] at kP
 obtain ⟨a1,a2⟩:=YF.1 hA
 obtain ⟨b1,b2⟩:=YF.1 hB
 clear hA hB
 have q1:IntKind.i64.wrap (8*k)=8*k:=by rw [IntKind.wrap_i64];omega
 have q2:IntKind.i64.wrap (8*k+pc)=8*k+pc:=by rw [IntKind.wrap_i64];omega
 go_enter Tryz.func205,Tryz.ntmps205
 go_wp2_with fail
 refine (kT _).mono ?_
 rintro e w1 ⟨rfl,rfl⟩
 go_wp2_with fail
 refine (kP _).mono ?_
 rintro e w1 ⟨rfl,rfl⟩
 go_wp2
 go_ret2
 exact ⟨rfl,rfl⟩

theorem MU (k pc:Int) (w:World) (h1:XD k 0 2=true) (h2:XD pc 0 6=true):Calls Tryz.prog 198 #[.int .i64 k,.int .i64 pc] w fun e w'=>e=.returned (.int .i64 (8*k+pc))∧w=w':=by
 obtain ⟨a1,a2⟩:=YF.1 h1
 obtain ⟨b1,b2⟩:=YF.1 h2
 clear h1 h2
 have q1:IntKind.i64.wrap (8*k)=8*k:=by rw [IntKind.wrap_i64];omega
 have q2:IntKind.i64.wrap (8*k+pc)=8*k+pc:=by rw [IntKind.wrap_i64];omega
 go_enter Tryz.func198,Tryz.ntmps198
 go_wp2
 go_ret
 exact ⟨rfl,rfl⟩

def Xq (n:Int):Bool:=decide (0≤n∧n≤22∧n % 8≤6)
def atV (n:Int):Value:=if Xq n=true then .tuple #[.int .i64 (n / 8),.int .i64 (n % 8),.int .i64 0] else .tuple #[.int .i64 0,.int .i64 0,.int .i64 4]
theorem Lx {n:Int} (h:Xq n=true):atV n=.tuple #[.int .i64 (n / 8),.int .i64 (n % 8),.int .i64 0]:=if_pos h
theorem MD {n:Int} (h:Xq n=false):atV n=.tuple #[.int .i64 0,.int .i64 0,.int .i64 4]:=if_neg (by rw [h];simp)

theorem FF (n:Int) (h:-9223372036854775808≤n∧n≤9223372036854775807):∃ q r:Int,n.tdiv 8=q∧n.tmod 8=r∧IntKind.i64.wrap q=q∧IntKind.i64.wrap r=r∧Xq n=(XD q 0 2 && XD r 0 6)∧(Xq n=true→q=n / 8∧r=n % 8)∧(0≤n→q=n / 8∧r=n % 8):=by
 rcases Int.lt_or_le n 0 with hn | hn
 ·have e1:n.tdiv 8=- ((-n) / 8):=by
   have:n=- (- n):=by omega
   rw [this,Int.neg_tdiv,Int.tdiv_eq_ediv_of_nonneg (by omega)];omega
  have e2:n.tmod 8=- ((-n) % 8):=by
   have:n=- (- n):=by omega
   rw [this,Int.neg_tmod,Int.tmod_eq_emod_of_nonneg (by omega)];omega
  refine ⟨_,_,e1,e2,by rw [IntKind.wrap_i64];omega,by rw [IntKind.wrap_i64];omega,?_,?_,by omega⟩
  ·have hz:Xq n=false:=by simp only [Xq,decide_eq_false_iff_not];omega
   rw [hz]
   symm
   rw [Bool.and_eq_false_iff]
   rcases Int.lt_or_le ((-n) / 8) 1 with h1 | h1
   ·right;rw [XW];omega
   left;rw [XW];omega
  intro hz
  simp only [Xq,decide_eq_true_eq] at hz
  omega
 have e1:n.tdiv 8=n / 8:=Int.tdiv_eq_ediv_of_nonneg hn
 have e2:n.tmod 8=n % 8:=Int.tmod_eq_emod_of_nonneg hn
 refine ⟨_,_,e1,e2,by rw [IntKind.wrap_i64];omega,by rw [IntKind.wrap_i64];omega,?_,fun _=>⟨rfl,rfl⟩,fun _=>⟨rfl,rfl⟩⟩
 rw [Bool.eq_iff_iff,Bool.and_eq_true,YF,YF]
 simp only [Xq,decide_eq_true_eq]
 omega

theorem Qq (n:Int) (hn:-9223372036854775808≤n∧n≤9223372036854775807) (w:World):Calls Tryz.prog 219 #[.int .i64 n] w fun e w'=>e=.returned (atV n)∧w=w':=by
 obtain ⟨q,r,e1,e2,u1,u2,hOk,hYes,_⟩:=FF n hn
 clear hn
 have kT:=QX q
 have kP:=ND r
 cases hA:XD q 0 2
 ·rw [MD (by rw [hOk,hA];rfl)]
  rw [hA] at kT
  clear hA hOk hYes
  go_enter Tryz.func219,Tryz.ntmps219
  go_wp2_with fail
  refine (kT _).mono ?_
  rintro e w1 ⟨rfl,rfl⟩
  go_wp2
  go_ret3
  exact ⟨rfl,rfl⟩
 cases hB:XD r 0 6
 ·rw [MD (by rw [hOk,hA,hB];rfl)]
  rw [hA] at kT
  rw [hB] at kP
  clear hA hB hOk hYes
  go_enter Tryz.func219,Tryz.ntmps219
  go_wp2_with fail
  refine (kT _).mono ?_
  rintro e w1 ⟨rfl,rfl⟩
  go_wp2_with fail
  refine (kP _).mono ?_
  rintro e w1 ⟨rfl,rfl⟩
  go_wp2
  go_ret3
  exact ⟨rfl,rfl⟩
 have hz:Xq n=true:=by rw [hOk,hA,hB];rfl
 rw [Lx hz]
 obtain ⟨f1,f2⟩:=hYes hz
 rw [hA] at kT
 rw [hB] at kP
 rw [← f1,← f2]
 clear hA hB hOk hYes hz f1 f2
 go_enter Tryz.func219,Tryz.ntmps219
 go_wp2_with fail
 refine (kT _).mono ?_
 rintro e w1 ⟨rfl,rfl⟩
 go_wp2_with fail
 refine (kP _).mono ?_
 rintro e w1 ⟨rfl,rfl⟩
 go_wp2
 go_ret3
 exact ⟨rfl,rfl⟩

theorem Tb (n:Int) (hn:-9223372036854775808≤n∧n≤9223372036854775807) (w:World):Calls Tryz.prog 197 #[.int .i64 n] w fun e w'=>e=.returned (.bool (Xq n))∧w=w':=by
 rcases Int.lt_or_le n 0 with h0 | h0
 ·have hz:Xq n=false:=by simp only [Xq,decide_eq_false_iff_not];omega
  rw [hz]
  clear hz hn
  have g0:decide (0≤n)=false:=by simp;omega
  go_enter Tryz.func197,Tryz.ntmps197
  go_wp2
  go_ret
  exact ⟨rfl,rfl⟩
 obtain ⟨q,r,e1,e2,u1,u2,hOk,_,hPos⟩:=FF n hn
 clear hn
 have hr0:0≤r:=by have:=(hPos h0).2;omega
 have kT:=Fo q 0 2
 rw [hOk]
 cases hA:XD q 0 2
 ·rw [hA] at kT
  clear hA hOk hPos
  go_enter Tryz.func197,Tryz.ntmps197
  go_wp2_with fail
  refine (kT _).mono ?_
  rintro e w1 ⟨rfl,rfl⟩
  go_wp2
  go_ret
  exact ⟨rfl,rfl⟩
 rw [hA] at kT
 cases hB:XD r 0 6
 ·have h2:decide (r≤6)=false:=by have:=XW.1 hB;simp;omega
  clear hA hB hOk hPos
  go_enter Tryz.func197,Tryz.ntmps197
  go_wp2_with fail
  refine (kT _).mono ?_
  rintro e w1 ⟨rfl,rfl⟩
  go_wp2
  go_ret
  exact ⟨rfl,rfl⟩
 have h2:decide (r≤6)=true:=by have:=YF.1 hB;simp;omega
 clear hA hB hOk hPos
 go_enter Tryz.func197,Tryz.ntmps197
 go_wp2_with fail
 refine (kT _).mono ?_
 rintro e w1 ⟨rfl,rfl⟩
 go_wp2
 go_ret
 exact ⟨by simp_all,rfl⟩

theorem KE (n:Int) (hn:-9223372036854775808≤n∧n≤9223372036854775807) (w:World):Calls Tryz.prog 203 #[.int .i64 n] w fun e w'=>e=.returned (.bool (Xq n))∧w=w':=by
 have kO:=Qq n hn
 clear hn
 cases hA:Xq n
 ·rw [MD hA] at kO
  clear hA
  go_enter Tryz.func203,Tryz.ntmps203
  go_wp2_with fail
  refine (kO _).mono ?_
  rintro e w1 ⟨rfl,rfl⟩
  go_wp2
  go_ret
  exact ⟨rfl,rfl⟩
 rw [Lx hA] at kO
 clear hA
 go_enter Tryz.func203,Tryz.ntmps203
 go_wp2_with fail
 refine (kO _).mono ?_
 rintro e w1 ⟨rfl,rfl⟩
 go_wp2
 go_ret
 exact ⟨rfl,rfl⟩

theorem Rx {n:Int} (h:(Lit.int .i64 n).wf=true):-9223372036854775808≤n∧n≤9223372036854775807:=by
 have h1:IntKind.i64.min=-9223372036854775808:=by decide
 have h2:IntKind.i64.max=9223372036854775807:=by decide
 simp [Lit.wf,h1,h2] at h
 omega


def VN (e:Ending) (w:World) (B:Nat) (z:V4) (b:Bool):Prop:=∃ t:S4,e=.returned (.tuple #[t.val,.bool b])∧ZI w B t z
theorem VN.mk9 {e:Ending} {w:World} {B:Nat} {z:V4} {b:Bool} (t:S4) (h:e=.returned (.tuple #[t.val,.bool b])) (hO:ZI w B t z):VN e w B z b:=⟨t,h,hO⟩

def OfB (s:ByteArray) (z:V4) (b:Bool):Prop:=b=Ze (Yh s)∧(b=true→z=Yh s)
theorem X8 (x:Int) (w:World) (h:48≤x∧x≤57):Calls Tryz.prog 130 #[.int .u8 x] w fun e w'=>e=.returned (.bool true)∧w=w':=by
 have h1:decide (48≤x)=true:=by simp;omega
 have h2:decide (x≤57)=true:=by simp;omega
 go_enter Tryz.func130,Tryz.ntmps130
 go_wp2
 go_ret
 exact ⟨rfl,rfl⟩
theorem PP (x:Int) (w:World) (h:¬ (48≤x∧x≤57)):Calls Tryz.prog 130 #[.int .u8 x] w fun e w'=>e=.returned (.bool false)∧w=w':=by
 by_cases h0:48≤x
 ·have h1:decide (48≤x)=true:=by simp;omega
  have h2:decide (x≤57)=false:=by simp;omega
  clear h
  go_enter Tryz.func130,Tryz.ntmps130
  go_wp2
  go_ret
  exact ⟨rfl,rfl⟩
 have h1:decide (48≤x)=false:=by simp;omega
 clear h
 go_enter Tryz.func130,Tryz.ntmps130
 go_wp2
 go_ret
 exact ⟨rfl,rfl⟩
theorem UQ (s:ByteArray) {off n i j:Nat} (h:j<n) (h':off+j<i):btV s (off+j) - 48 ∈ Wj s off n i:=by
 unfold Wj
 refine List.mem_map.2 ⟨j,by simpa using h,?_⟩
 rw [if_pos h']
theorem Me {s:ByteArray} (h:Ze (Yh s)=true) {i:Nat} (hi:i<15):48≤btV s i∧btV s i≤57:=by
 obtain ⟨_,_,_,_,hd⟩:=ZF h
 have key:btV s i - 48 ∈ XJ (Yh s):=by
  unfold XJ Yh Yt
  simp only [List.mem_append]
  by_cases h0:i<3
  ·have:=UQ s (off:=0) (n:=3) (i:=15) (j:=i) h0 (by omega)
   rw [Nat.zero_add] at this
   exact .inl (.inl (.inl this))
  by_cases h1:i<7
  ·obtain ⟨j,rfl⟩:∃ j,i=3+j:=⟨i - 3,by omega⟩
   exact .inl (.inl (.inr (UQ s (by omega) (by omega))))
  by_cases h2:i<9
  ·obtain ⟨j,rfl⟩:∃ j,i=7+j:=⟨i - 7,by omega⟩
   exact .inl (.inr (UQ s (by omega) (by omega)))
  obtain ⟨j,rfl⟩:∃ j,i=9+j:=⟨i - 9,by omega⟩
  exact .inr (UQ s (by omega) (by omega))
 have:=hd _ key
 omega

theorem J3 (s:ByteArray) (w:World) (h15:s.size=15) :
  Calls Tryz.prog 76 #[.string s] w fun e w'=>(∃ z b,VN e w' w.heap.size z b∧OfB s z b)∧Below w.heap.size w w':=by
 have kN:=VH
 have kR:=fun t w h=>NH t (Yh s) w h
 have hfit:=RS s 15
 have HD:Hid (∀ i,i<15→¬ (48≤btV s i∧btV s i≤57)→Ze (Yh s)=false):=fun i hi hn=>by
  cases h:Ze (Yh s)
  ·rfl
  exact absurd (Me h hi) hn
 have bw:Below w.heap.size w (w.alloc (.cells #[.slice none 0 0,.slice none 0 0,.slice none 0 0,.slice none 0 0] 74)):=by go_grown
 have pR:=Blk.new w 74 [.slice none 0 0,.slice none 0 0,.slice none 0 0,.slice none 0 0]
 have hne:((s.size:Int) != 15)=false:=by simp [h15]
 have hsz:(s.size:Int)=15:=by omega
 go_enter Tryz.func76,Tryz.ntmps76
 go_wp2_with fail
 refine (kN _).mono ?_
 rintro e w1 ⟨⟨t,rfl,hO⟩,hb⟩
 obtain ⟨g0,g1,g2,g3,c0,c1,c2,c3,rfl,⟨l0,l1,l2,l3⟩,m0,m1,m2,m3⟩:=VB hO
 unfold maxLen at m0 m1 m2 m3
 replace kR:=kR ((some ⟨g0,0,none⟩,3,c0),(some ⟨g1,0,none⟩,4,c1),(some ⟨g2,0,none⟩,2,c2),(some ⟨g3,0,none⟩,6,c3))
 have uX:S4.val ((some ⟨g0,0,none⟩,3,c0),(some ⟨g1,0,none⟩,4,c1),(some ⟨g2,0,none⟩,2,c2),(some ⟨g3,0,none⟩,6,c3))=.agg #[.slice (some ⟨g0,0,none⟩) 3 c0,.slice (some ⟨g1,0,none⟩) 4 c1,.slice (some ⟨g2,0,none⟩) 2 c2,.slice (some ⟨g3,0,none⟩) 6 c3]:=rfl
 rw [uX] at kR ⊢
 clear uX
 replace hO:=hO.lower9 bw.size
 have bA:Below w1.heap.size w1 (w1.alloc (.cells #[.slice (some ⟨g0,0,none⟩) 3 c0,.slice (some ⟨g1,0,none⟩) 4 c1,.slice (some ⟨g2,0,none⟩) 2 c2,.slice (some ⟨g3,0,none⟩) 6 c3] 74)):=by go_grown
 have pS:=Blk.new w1 74 [.slice (some ⟨g0,0,none⟩) 3 c0,.slice (some ⟨g1,0,none⟩) 4 c1,.slice (some ⟨g2,0,none⟩) 2 c2,.slice (some ⟨g3,0,none⟩) 6 c3]
 have hgS:w.heap.size<w1.heap.size:=Nat.lt_of_lt_of_le (by simp) hb.size
 replace bw:=Zb bw (Zb hb bA)
 replace pR:=pR.below (Zb hb bA)
 replace hO:=hO.below bA
 rw [← RT s] at hO
 clear hb bA kN
 go_wp2_with fail
 generalize (w1.alloc (.cells #[.slice (some ⟨g0,0,none⟩) 3 c0,.slice (some ⟨g1,0,none⟩) 4 c1,.slice (some ⟨g2,0,none⟩) 2 c2,.slice (some ⟨g3,0,none⟩) 6 c3] 74))=W1 at *
 generalize w1.heap.size=gS at *
 go_loopw [5] (fun si wr=>∃ i:Nat,i≤15∧si=.int .i64 i∧ZI wr w.heap.size ((some ⟨g0,0,none⟩,3,c0),(some ⟨g1,0,none⟩,4,c1),(some ⟨g2,0,none⟩,2,c2),(some ⟨g3,0,none⟩,6,c3)) (Yt s i)∧Blk wr gS 74 [.slice (some ⟨g0,0,none⟩) 3 c0,.slice (some ⟨g1,0,none⟩) 4 c1,.slice (some ⟨g2,0,none⟩) 2 c2,.slice (some ⟨g3,0,none⟩) 6 c3]∧Blk wr w.heap.size 74 [.slice none 0 0,.slice none 0 0,.slice none 0 0,.slice none 0 0]∧Below w.heap.size w wr) (fun si _=>15 - (intOf si).toNat)
 case atStart=>exact ⟨0,by omega,rfl,hO,pS,pR,bw⟩
 case round =>
  clear hO pS pR bw
  obtain ⟨i,hi,rfl,hO,pS,pR,bw⟩:=hrel
  by_cases hlt:i<15
  ·have hbb:=XU s i
   by_cases hdg:48≤btV s i∧btV s i≤57
   ·have e0:=pS.cell 0
    have e1:=pS.cell 1
    have e2:=pS.cell 2
    have e3:=pS.cell 3
    simp only [List.getElem?_cons_zero,List.getElem?_cons_succ] at e0 e1 e2 e3
    by_cases k0:i<3
    ·skip
     have hix:=Wk s (i) ((i:Int)) (by omega) (by omega)
     have hst:=hO.set0 i (btV s (i) - 48)
     rw [LV s (by omega)] at hst
     obtain ⟨old,hold⟩:∃ u,wr.cell? ⟨g0,i,none⟩=some u:=⟨_,hO.1.1.at9 (by omega)⟩
     have hfz:=hO.1.1.frz9 i
     have hlo:=hO.1.1.lo9
     have neS:=hO.1.1.ne9 pS (by decide)
     have neR:=hO.1.1.ne9 pR (by decide)
     have kD:=fun w=>X8 (btV s (i)) w hdg
     generalize btV s (i)=bx at *
     have pS2:=pS.off ⟨g0,i,none⟩ (.int .i64 (bx - 48)) neS
     have pR2:=pR.off ⟨g0,i,none⟩ (.int .i64 (bx - 48)) neR
     have b2:=bw.setCell (p:=⟨g0,i,none⟩) hlo.1 (.int .i64 (bx - 48))
     have hjI:(i:Int)<3:=by omega
     have hwb:IntKind.u8.wrap (bx - 48)=bx - 48:=IntWalk.u8_in _ (by omega)
     clear hO pS pR bw
     go_wp2_with fail
     refine (kD _).mono ?_
     rintro e wd ⟨rfl,rfl⟩
     go_wp2
     go_roundw
     case rel=>exact ⟨i+1,by omega,by go_num,hst,pS2,pR2,b2⟩
     case measure=>simp [intOf];omega
    by_cases k1:i<7
    ·obtain ⟨j,rfl⟩:∃ j,i=3+j:=⟨i - 3,by omega⟩
     have hix:=Wk s (3+j) (3+(j:Int)) (by omega) (by omega)
     have hst:=hO.set1 j (btV s (3+j) - 48)
     rw [LW s (by omega)] at hst
     obtain ⟨old,hold⟩:∃ u,wr.cell? ⟨g1,j,none⟩=some u:=⟨_,hO.1.2.1.at9 (by omega)⟩
     have hfz:=hO.1.2.1.frz9 j
     have hlo:=hO.1.2.1.lo9
     have neS:=hO.1.2.1.ne9 pS (by decide)
     have neR:=hO.1.2.1.ne9 pR (by decide)
     have kD:=fun w=>X8 (btV s (3+j)) w hdg
     generalize btV s (3+j)=bx at *
     have pS2:=pS.off ⟨g1,j,none⟩ (.int .i64 (bx - 48)) neS
     have pR2:=pR.off ⟨g1,j,none⟩ (.int .i64 (bx - 48)) neR
     have b2:=bw.setCell (p:=⟨g1,j,none⟩) hlo.1 (.int .i64 (bx - 48))
     have hjI:(j:Int)<4:=by omega
     have hwb:IntKind.u8.wrap (bx - 48)=bx - 48:=IntWalk.u8_in _ (by omega)
     clear hO pS pR bw
     go_wp2_with fail
     refine (kD _).mono ?_
     rintro e wd ⟨rfl,rfl⟩
     go_wp2
     go_roundw
     case rel=>exact ⟨3+j+1,by omega,by go_num,hst,pS2,pR2,b2⟩
     case measure=>simp [intOf];omega
    by_cases k2:i<9
    ·obtain ⟨j,rfl⟩:∃ j,i=7+j:=⟨i - 7,by omega⟩
     have hix:=Wk s (7+j) (7+(j:Int)) (by omega) (by omega)
     have hst:=hO.set2 j (btV s (7+j) - 48)
     rw [LX s (by omega)] at hst
     obtain ⟨old,hold⟩:∃ u,wr.cell? ⟨g2,j,none⟩=some u:=⟨_,hO.1.2.2.1.at9 (by omega)⟩
     have hfz:=hO.1.2.2.1.frz9 j
     have hlo:=hO.1.2.2.1.lo9
     have neS:=hO.1.2.2.1.ne9 pS (by decide)
     have neR:=hO.1.2.2.1.ne9 pR (by decide)
     have kD:=fun w=>X8 (btV s (7+j)) w hdg
     generalize btV s (7+j)=bx at *
     have pS2:=pS.off ⟨g2,j,none⟩ (.int .i64 (bx - 48)) neS
     have pR2:=pR.off ⟨g2,j,none⟩ (.int .i64 (bx - 48)) neR
     have b2:=bw.setCell (p:=⟨g2,j,none⟩) hlo.1 (.int .i64 (bx - 48))
     have hjI:(j:Int)<2:=by omega
     have hwb:IntKind.u8.wrap (bx - 48)=bx - 48:=IntWalk.u8_in _ (by omega)
     have r1:(7:Int)+(j:Int) - 3=4+(j:Int):=by omega
     have r2:(4:Int)+(j:Int) - 4=(j:Int):=by omega
     clear hO pS pR bw
     go_wp2_with fail
     refine (kD _).mono ?_
     rintro e wd ⟨rfl,rfl⟩
     go_wp2
     go_roundw
     case rel=>exact ⟨7+j+1,by omega,by go_num,hst,pS2,pR2,b2⟩
     case measure=>simp [intOf];omega
    obtain ⟨j,rfl⟩:∃ j,i=9+j:=⟨i - 9,by omega⟩
    have hix:=Wk s (9+j) (9+(j:Int)) (by omega) (by omega)
    have hst:=hO.set3 j (btV s (9+j) - 48)
    rw [LY s (by omega)] at hst
    obtain ⟨old,hold⟩:∃ u,wr.cell? ⟨g3,j,none⟩=some u:=⟨_,hO.1.2.2.2.at9 (by omega)⟩
    have hfz:=hO.1.2.2.2.frz9 j
    have hlo:=hO.1.2.2.2.lo9
    have neS:=hO.1.2.2.2.ne9 pS (by decide)
    have neR:=hO.1.2.2.2.ne9 pR (by decide)
    have kD:=fun w=>X8 (btV s (9+j)) w hdg
    generalize btV s (9+j)=bx at *
    have pS2:=pS.off ⟨g3,j,none⟩ (.int .i64 (bx - 48)) neS
    have pR2:=pR.off ⟨g3,j,none⟩ (.int .i64 (bx - 48)) neR
    have b2:=bw.setCell (p:=⟨g3,j,none⟩) hlo.1 (.int .i64 (bx - 48))
    have hjI:(j:Int)<6:=by omega
    have hwb:IntKind.u8.wrap (bx - 48)=bx - 48:=IntWalk.u8_in _ (by omega)
    have r1:(9:Int)+(j:Int) - 3=6+(j:Int):=by omega
    have r2:(6:Int)+(j:Int) - 4=2+(j:Int):=by omega
    have r3:(2:Int)+(j:Int) - 2=(j:Int):=by omega
    clear hO pS pR bw
    go_wp2_with fail
    refine (kD _).mono ?_
    rintro e wd ⟨rfl,rfl⟩
    go_wp2
    go_roundw
    case rel=>exact ⟨9+j+1,by omega,by go_num,hst,pS2,pR2,b2⟩
    case measure=>simp [intOf];omega
   have hix:=LC s i (by omega)
   have hnd:=HD.out i hlt hdg
   have kD:=fun w=>PP (btV s i) w hdg
   have HB:OfB s ([],[],[],[]) false:=⟨hnd.symm,fun h=>by cases h⟩
   clear hnd hO pS
   generalize btV s i=bx at *
   go_wp2_with fail
   refine (kD _).mono ?_
   rintro e wd ⟨rfl,rfl⟩
   go_wp2_with (refine Zd rfl 74 _ _ rfl w.heap.size [.slice none 0 0,.slice none 0 0,.slice none 0 0,.slice none 0 0] rfl rfl pR (by kernel_rfl) rfl rfl ?_)
   intro w4 pR4 g4
   replace bw:=bw.grown g4 bw.size (fun x hx=>by cases hx;omega)
   clear g4
   go_wp2_with fail
   refine bodyPost_ret (Zu Tryz.results76 _ _ _ _ _ _ rfl pR4.out Tryz.underlying74 rfl (by kernel_rfl)) rfl ?_
   exact ⟨⟨_,_,VN.mk9 ((none,0,0),(none,0,0),(none,0,0),(none,0,0)) rfl (Vo _ _),HB⟩,bw⟩
  obtain rfl:i=15:=by omega
  have hO':ZI wr w.heap.size ((some ⟨g0,0,none⟩,3,c0),(some ⟨g1,0,none⟩,4,c1),(some ⟨g2,0,none⟩,2,c2),(some ⟨g3,0,none⟩,6,c3)) (Yh s):=hO
  have e0:=pS.cell 0
  have e1:=pS.cell 1
  have e2:=pS.cell 2
  have e3:=pS.cell 3
  simp only [List.getElem?_cons_zero,List.getElem?_cons_succ] at e0 e1 e2 e3
  have kR1:=fun (W:World) (h:ZI W w.heap.size ((some ⟨g0,0,none⟩,3,c0),(some ⟨g1,0,none⟩,4,c1),(some ⟨g2,0,none⟩,2,c2),(some ⟨g3,0,none⟩,6,c3)) (Yh s))=>kR W (h.mem hfit)
  obtain ⟨sb,hsb⟩:∃ sb,sb=Ze (Yh s):=⟨_,rfl⟩
  rw [← hsb] at kR1
  have HB:OfB s (Yh s) sb:=⟨hsb,fun _=>rfl⟩
  clear hO kR HD hsb
  go_wp2_with fail
  refine wp_region_held_drew (S:=(fun w'=>w'.cell? ⟨gS,0,none⟩=some (.slice (some ⟨g0,0,none⟩) 3 c0)∧w'.cell? ⟨gS,1,none⟩=some (.slice (some ⟨g1,0,none⟩) 4 c1)∧w'.cell? ⟨gS,2,none⟩=some (.slice (some ⟨g2,0,none⟩) 2 c2)∧w'.cell? ⟨gS,3,none⟩=some (.slice (some ⟨g3,0,none⟩) 6 c3))) (by kernel_rfl) ⟨e0,e1,e2,e3⟩ (fun hS0=>?_)
  refine tkm 0 64 (.agg #[.slice (some ⟨g0,0,none⟩) 3 c0,.slice (some ⟨g1,0,none⟩) 4 c1,.slice (some ⟨g2,0,none⟩) 2 c2,.slice (some ⟨g3,0,none⟩) 6 c3]) ?_
  refine tkm 1 65 (.agg #[.slice (some ⟨g0,0,none⟩) 3 c0,.slice (some ⟨g1,0,none⟩) 4 c1,.slice (some ⟨g2,0,none⟩) 2 c2,.slice (some ⟨g3,0,none⟩) 6 c3]) ?_
  refine tkr 2 66 (fun K hK=>?_)
  go_simp
  refine (kR1 _ (hO'.below (by go_grown))).mono ?_
  rintro e w3 ⟨rfl,hb⟩
  go_wp2_with fail
  refine hK.out _ _ ?_ (fun hS1=>?_)
  ·exact ⟨Za hb _ _ hS0.1,Za hb _ _ hS0.2.1,Za hb _ _ hS0.2.2.1,Za hb _ _ hS0.2.2.2⟩
  clear hK
  try simp only [Act.put,tka,tkb,tkc]
  have hbd:Below wr.heap.size wr w3:=Zb (by go_grown) hb
  replace bw:=Zb bw hbd
  replace pS:=pS.below hbd
  replace pR:=pR.below hbd
  replace hO':=hO'.below hbd
  clear hb hbd hS0 e0 e1 e2 e3 kR1
  have nSR:gS≠w.heap.size:=by omega
  have r0:w3.cell? ⟨w.heap.size,0,none⟩=some (.slice none 0 0):=by simpa using pR.cell 0
  have r1:w3.cell? ⟨w.heap.size,1,none⟩=some (.slice none 0 0):=by simpa using pR.cell 1
  have r2:w3.cell? ⟨w.heap.size,2,none⟩=some (.slice none 0 0):=by simpa using pR.cell 2
  have r3:w3.cell? ⟨w.heap.size,3,none⟩=some (.slice none 0 0):=by simpa using pR.cell 3
  have f0:=pR.frozen 0
  have f1:=pR.frozen 1
  have f2:=pR.frozen 2
  have f3:=pR.frozen 3
  have pR4:=(((pR.set 0 (.slice (some ⟨g0,0,none⟩) 3 c0)).set 1 (.slice (some ⟨g1,0,none⟩) 4 c1)).set 2 (.slice (some ⟨g2,0,none⟩) 2 c2)).set 3 (.slice (some ⟨g3,0,none⟩) 6 c3)
  simp only [List.set_cons_zero,List.set_cons_succ] at pR4
  have pS4:=(((pS.off ⟨w.heap.size,0,none⟩ (.slice (some ⟨g0,0,none⟩) 3 c0) nSR).off ⟨w.heap.size,1,none⟩ (.slice (some ⟨g1,0,none⟩) 4 c1) nSR).off ⟨w.heap.size,2,none⟩ (.slice (some ⟨g2,0,none⟩) 2 c2) nSR).off ⟨w.heap.size,3,none⟩ (.slice (some ⟨g3,0,none⟩) 6 c3) nSR
  have b4:=(((bw.setCell (p:=⟨w.heap.size,0,none⟩) (Nat.le_refl _) (.slice (some ⟨g0,0,none⟩) 3 c0)).setCell (p:=⟨w.heap.size,1,none⟩) (Nat.le_refl _) (.slice (some ⟨g1,0,none⟩) 4 c1)).setCell (p:=⟨w.heap.size,2,none⟩) (Nat.le_refl _) (.slice (some ⟨g2,0,none⟩) 2 c2)).setCell (p:=⟨w.heap.size,3,none⟩) (Nat.le_refl _) (.slice (some ⟨g3,0,none⟩) 6 c3)
  have hO4:=(((hO'.awayB9 pR (by decide) 0 (.slice (some ⟨g0,0,none⟩) 3 c0)).awayB9 (pR.set 0 (.slice (some ⟨g0,0,none⟩) 3 c0)) (by decide) 1 (.slice (some ⟨g1,0,none⟩) 4 c1)).awayB9 ((pR.set 0 (.slice (some ⟨g0,0,none⟩) 3 c0)).set 1 (.slice (some ⟨g1,0,none⟩) 4 c1)) (by decide) 2 (.slice (some ⟨g2,0,none⟩) 2 c2)).awayB9 (((pR.set 0 (.slice (some ⟨g0,0,none⟩) 3 c0)).set 1 (.slice (some ⟨g1,0,none⟩) 4 c1)).set 2 (.slice (some ⟨g2,0,none⟩) 2 c2)) (by decide) 3 (.slice (some ⟨g3,0,none⟩) 6 c3)
  refine tkz 3 (fun K hK=>?_)
  go_simp
  refine hK.out _ _ ?_ (fun hS2=>?_)
  ·exact ⟨by simpa using pS4.cell 0,by simpa using pS4.cell 1,by simpa using pS4.cell 2,by simpa using pS4.cell 3⟩
  clear hK
  try simp only [Act.put,tka,tkb,tkc]
  refine tkm 4 3 (.bool sb) ?_
  refine wpAnyH_done (by kernel_rfl) ?_ _
  clear hS1 hS2 r0 r1 r2 r3 f0 f1 f2 f3 pR pS bw hO' pS4
  generalize (((w3.setCell ⟨w.heap.size,0,none⟩ (.slice (some ⟨g0,0,none⟩) 3 c0)).setCell ⟨w.heap.size,1,none⟩ (.slice (some ⟨g1,0,none⟩) 4 c1)).setCell ⟨w.heap.size,2,none⟩ (.slice (some ⟨g2,0,none⟩) 2 c2)).setCell ⟨w.heap.size,3,none⟩ (.slice (some ⟨g3,0,none⟩) 6 c3)=w5 at *
  go_wp2_with fail
  refine bodyPost_ret (Zu Tryz.results76 _ _ _ _ _ _ rfl pR4 Tryz.underlying74 rfl (by kernel_rfl)) rfl ?_
  exact ⟨⟨_,_,VN.mk9 ((some ⟨g0,0,none⟩,3,c0),(some ⟨g1,0,none⟩,4,c1),(some ⟨g2,0,none⟩,2,c2),(some ⟨g3,0,none⟩,6,c3)) rfl hO4,HB⟩,b4⟩

def Fe (s:ByteArray):V4:=if s.size≠15 then ([],[],[],[]) else if Ze (Yh s) then Yh s else ([],[],[],[])
def Gj (s:ByteArray):Int:=if 65536<s.size then 2 else if s.size≠15 then 3 else if Ze (Yh s) then 0 else 3
theorem NB (s:ByteArray) (w:World) (hs:s.size≤1048576) (hV:ZQ w) :
  Calls Tryz.prog 156 #[.string s] w fun e w'=>Yk e w' w.heap.size (Fe s) (Gj s)∧Below w.heap.size w w':=by
 unfold Fe Gj
 by_cases hl:65536<s.size
 ·rw [if_pos (show s.size≠15 by omega),if_pos hl]
  refine (Qs s w hs hl).mono ?_
  rintro e w' ⟨rfl,hb⟩
  exact ⟨Yk.mk9 ((none,0,0),(none,0,0),(none,0,0),(none,0,0)) rfl (Vo _ _),hb⟩
 rw [if_neg hl]
 by_cases h15:s.size=15
 ·have hn:¬ (s.size≠15):=fun h=>h h15
  simp only [if_neg hn]
  exact NA s w h15 hV
 rw [if_pos h15,if_pos h15]
 refine (Qt s w (by omega) h15).mono ?_
 rintro e w' ⟨rfl,hb⟩
 exact ⟨Yk.mk9 ((none,0,0),(none,0,0),(none,0,0),(none,0,0)) rfl (Vo _ _),hb⟩
end Go.Proofs.YtmhlokahmblboaaGreatDoor
