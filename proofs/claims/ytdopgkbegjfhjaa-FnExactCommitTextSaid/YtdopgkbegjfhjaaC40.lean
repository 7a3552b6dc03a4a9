/-
  Joined: RecN.
-/
import Derived.Laws.StructEq
import Derived.Test.YtdopgkbegjfhjaaC09
import Derived.Test.YtdopgkbegjfhjaaC26
import Derived.Test.YtdopgkbegjfhjaaC29
import Derived.Test.YtdopgkbegjfhjaaC32
import Derived.Test.YtdopgkbegjfhjaaC37

namespace Go.Proofs.Ytdopgkbegjfhjaa
set_option maxRecDepth 100000
set_option maxHeartbeats 16000000
open Go.RowKit
set_option linter.unusedVariables false
set_option linter.unusedSimpArgs false

def comC (xs:List I3):ByteArray × Int:=if 4096<xs.length then (⟨#[]⟩,2) else if riseB xs=true∧xs.length≤30 then (strOfNums (packL (unT xs)),0) else (⟨#[]⟩,1)
def ResC (r:ByteArray × Int):Ending:=.returned (.tuple #[.string r.1,.int .i64 r.2])
theorem okB_num {x:I3} (h:okB x=true):(0≤x.1∧x.1≤999999999)∧(0≤x.2.1∧x.2.1≤999999999)∧(0≤x.2.2∧x.2.2≤999999999):=by
 obtain ⟨p,q,r⟩:=x
 unfold okB at h
 simp only at h ⊢
 split at h
 ·simp at h;omega
 ·split at h
  ·unfold inB at h;simp at h;omega
  ·cases h
theorem unT_rise {xs:List I3} (h:riseB xs=true):allOk (unT xs):=by
 have h9:∀ ys:List I3,(∀ x ∈ ys,okB x=true)→allOk (unT ys):=by
  intro ys
  induction ys with
  | nil=>intro _ z hz;cases hz
  | cons y ys ih =>
   intro hy z hz
   obtain ⟨h1,h2,h3⟩:=okB_num (hy y List.mem_cons_self)
   simp only [unT,List.mem_cons] at hz
   rcases hz with rfl | rfl | rfl | hz
   ·exact h1
   ·exact h2
   ·exact h3
   ·exact ih (fun x hx=>hy x (List.mem_cons_of_mem _ hx)) z hz
 refine h9 xs (fun x hx=>?_)
 unfold riseB at h
 rw [List.all_eq_true] at h
 obtain ⟨i,hi,rfl⟩:=List.getElem_of_mem hx
 have:=h i (List.mem_range.2 hi)
 simp only [bStep,Bool.and_eq_true] at this
 have h1:=this.1
 rwa [List.getD,List.getElem?_eq_getElem hi,Option.getD_some] at h1

theorem specCommitText_is (a:Option Addr) (n cap:Nat) (xs:List I3) (w:World) (h:Instrs w a n cap xs) :
  Calls Try.prog 5 #[.slice a n cap] w fun e w'=>e=ResC (comC xs)∧Below w.heap.size w w':=by
 have hl:=h.1
 have hcm:n≤9223372036854775807:=by have:=h.2.1;have:=h.2.2.1;unfold maxLen at this;omega
 have kR:=fun W hW=>l10Rising_is a n cap xs W hW
 by_cases hlong:4096<n
 ·have HA:Hid (comC xs=(⟨#[]⟩,2)):=by unfold comC;rw [Hid,if_pos (by omega)]
  have h2:(4096:Int)<(n:Int):=by omega
  clear h kR
  go_enter Try.func5,Try.ntmps5
  go_wp2
  go_ret2
  exact ⟨by rw [HA.out];rfl,Below.refl _ _⟩
 have h2:¬ (4096:Int)<(n:Int):=by omega
 go_enter Try.func5,Try.ntmps5
 go_wp2_with fail
 refine (kR _ h).mono ?_
 rintro e w1 ⟨rfl,b1⟩
 by_cases hr:riseB xs=true
 ·by_cases h30:n≤30
  ·have h3:¬ (30:Int)<(n:Int):=by omega
   have HA:Hid (comC xs=(strOfNums (packL (unT xs)),0)):=by unfold comC;rw [Hid,if_neg (by omega),if_pos ⟨hr,by omega⟩]
   have kC:=l13Commit_is a n cap xs w1 (h.below b1) (by omega) (unT_rise hr)
   simp only [hr]
   clear h kR
   go_wp2_with fail
   refine kC.mono ?_
   rintro e w2 ⟨rfl,b2⟩
   generalize strOfNums (packL (unT xs))=t at *
   go_wp2
   go_ret2
   exact ⟨by rw [HA.out];rfl,b1.trans (b2.mono b1.size)⟩
  ·have h3:(30:Int)<(n:Int):=by omega
   have HA:Hid (comC xs=(⟨#[]⟩,1)):=by unfold comC;rw [Hid,if_neg (by omega),if_neg (by omega)]
   simp only [hr]
   clear h kR
   go_wp2
   go_ret2
   exact ⟨by rw [HA.out];rfl,b1⟩
 ·have hrf:riseB xs=false:=by simpa using hr
  have HA:Hid (comC xs=(⟨#[]⟩,1)):=by unfold comC;rw [Hid,if_neg (by omega),if_neg (fun h9=>hr h9.1)]
  simp only [hrf]
  clear h kR
  go_wp2
  go_ret2
  exact ⟨by rw [HA.out];rfl,b1⟩

theorem fnExactCommitText_of (G:World→Prop) (hG:∀ a b:World,G a→Below a.heap.size a b→G b) (a0:Option Addr) (n0 c0:Nat) (z0:List I3) (w:World) (h0:Instrs w a0 n0 c0 z0) (g0:G w)
  (kI:∀ (a:Option Addr) (n c:Nat) (w:World),G w→Instrs w a n c z0→n≤1048576→Calls Try.prog 7 #[.slice a n c] w fun e w'=>e=ResC (comC z0)∧Below w.heap.size w w') :
  Calls Try.prog 3 #[.slice a0 n0 c0] w fun e w'=>e=.returned (.bool true)∧Below w.heap.size w w':=by
 have hl:=h0.1
 have hf:=h0.2.2.2.1
 have hm:n0≤maxLen:=Nat.le_trans h0.2.1 h0.2.2.1
 have kS:=fun a n c W h=>specCommitText_is a n c z0 W h
 generalize comC z0=R at kI kS
 obtain ⟨t,c⟩:=R
 unfold ResC at kI kS
 simp only at kI kS
 have hxx:(t.toList != t.toList)=false:=by simp
 have hcc:(c != c)=false:=by simp
 go_enter Try.func3,Try.ntmps3
 go_wp2_with fail
 refine (szBugS_less a0 n0 c0 1048576 _ hm (by omega) (by omega)).mono ?_
 rintro e w1 ⟨rfl,rfl⟩
 unfold less
 by_cases hs:1048576 - (n0:Int)<0
 ·rw [if_pos hs]
  go_wp2
  go_ret
  exact ⟨rfl,Below.refl _ _⟩
 rw [if_neg hs]
 have hn:n0≤1048576:=by omega
 have hs2:¬ 1048576 - (n0:Int)<0:=hs
 have kT:=fun W h=>toBugS_copy a0 n0 c0 z0 W h hn
 clear hs
 go_wp2_with fail
 refine (kT _ h0).mono ?_
 rintro e w2 ⟨rfl,⟨cs,rfl,o2⟩,b2⟩
 have i2:=Instrs.of_owns o2 hl hf rfl
 go_wp2_with fail
 refine (kS _ _ _ _ i2).mono ?_
 rintro e w3 ⟨rfl,b3⟩
 have bw:=b2.trans (b3.mono b2.size)
 clear o2 i2 b2 b3 kS
 go_wp2_with fail
 refine (kT _ (h0.below bw)).mono ?_
 rintro e w4 ⟨rfl,⟨cs,rfl,o4⟩,b4⟩
 have i4:=Instrs.of_owns o4 hl hf rfl
 replace bw:=bw.trans (b4.mono bw.size)
 generalize w3.heap.size=g4 at *
 clear o4 b4
 go_wp2_with fail
 refine (kI _ _ _ _ (hG _ _ g0 bw) i4 hn).mono ?_
 rintro e w5 ⟨rfl,b5⟩
 replace i4:=i4.below b5
 replace bw:=bw.trans (b5.mono bw.size)
 clear b5 kI
 go_wp2_with fail
 refine (kT _ (h0.below bw)).mono ?_
 rintro e w6 ⟨rfl,⟨cs,rfl,o6⟩,b6⟩
 have i6:=Instrs.of_owns o6 hl hf rfl
 replace i4:=i4.below b6
 replace bw:=bw.trans (b6.mono bw.size)
 clear o6 b6
 go_wp2_with fail
 refine (eqBugS_same _ _ _ _ _ z0 _ i4 i6).mono ?_
 rintro e w7 ⟨rfl,b7⟩
 replace bw:=bw.trans (b7.mono bw.size)
 go_wp2
 go_ret
 exact ⟨rfl,bw⟩
end Go.Proofs.Ytdopgkbegjfhjaa
