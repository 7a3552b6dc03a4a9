/-
  Joined: VmOfI.
-/
import Derived.Test.YtmhlokahmblboaaGreatDoorK17
import Derived.Test.YtmhlokahmblboaaGreatDoorK18

namespace Go.Proofs.YtmhlokahmblboaaGreatDoor
set_option maxRecDepth 100000
set_option maxHeartbeats 16000000
open Go.RowKit
set_option linter.unusedVariables false

def Xa (e:Ending) (w:World) (B:Nat) (z:V4) (c:Int):Prop:=∃ t:S4,e=.returned (.tuple #[t.val,.int .i64 c])∧ZP w B t z
theorem Xa.mk9 {e:Ending} {w:World} {B:Nat} {z:V4} {c:Int} (t:S4) (h:e=.returned (.tuple #[t.val,.int .i64 c])) (hO:ZP w B t z):Xa e w B z c:=⟨t,h,hO⟩

def btV (s:ByteArray) (i:Nat):Int:=((s.data.toList.getD i 0).toNat:Int)
theorem Rn (s:ByteArray) (i:Nat):0≤btV s i∧btV s i≤255:=by
 unfold btV
 have:=(s.data.toList.getD i 0).toNat_lt
 omega
theorem Lk (s:ByteArray) (i:Nat) (h:i<s.size) (W:World):(Instr.index 9 (.string s) (.int .i64 (i:Int))).run Tryz.prog W=.ok (.int .u8 (btV s i)) W:=by
 rw [run_index_string (P:=Tryz.prog) W 9 s .i64 (i:Int) Tryz.underlying9]
 have h2:(0:Int)≤(i:Int)∧(i:Int)<(s.size:Int):=by omega
 rw [dif_pos h2]
 unfold btV
 have h3:i<s.data.toList.length:=by rw [Array.length_toList];exact h
 have e:s[(i:Int).toNat]'(by omega)=s.data.toList.getD i 0:=by
  simp only [Int.toNat_natCast,List.getD,List.getElem?_eq_getElem h3,Option.getD_some]
  rfl
 rw [e]
theorem Tu (s:ByteArray) (i:Nat) (z:Int) (hz:z=(i:Int)) (h:i<s.size) (W:World):(Instr.index 9 (.string s) (.int .i64 z)).run Tryz.prog W=.ok (.int .u8 (btV s i)) W:=by
 subst hz
 exact Lk s i h W
theorem Yf {z:Int} (h:-1000≤z) (h':z≤1000):(Lit.int .i64 z).wf=true:=by
 simp only [Lit.wf,Bool.and_eq_true,decide_eq_true_eq]
 have h1:IntKind.i64.min=-9223372036854775808:=by decide
 have h2:IntKind.i64.max=9223372036854775807:=by decide
 omega
def We (s:ByteArray) (off n i:Nat):List Int:=(List.range n).map fun j=>if off+j<i then btV s (off+j) - 48 else 0
def YR (s:ByteArray) (i:Nat):V4:=(We s 0 3 i,We s 3 4 i,We s 7 2 i,We s 9 6 i)
def XR (s:ByteArray):V4:=YR s 15
theorem Tq (s:ByteArray) {off n i:Nat} (h:off≤i) (h':i<off+n):(We s off n i).set (i - off) (btV s i - 48)=We s off n (i+1):=by
 apply List.ext_getElem
 ·simp [We]
 intro j h1 h2
 simp only [We,List.getElem_set,List.getElem_map,List.getElem_range]
 by_cases e:i - off=j
 ·subst e
  rw [if_pos rfl,if_pos (by omega),show off+(i - off)=i by omega]
 rw [if_neg e]
 by_cases hlt:off+j<i
 ·rw [if_pos hlt,if_pos (by omega)]
 rw [if_neg hlt,if_neg (by omega)]
theorem YN (s:ByteArray) {off n i:Nat} (h:i<off∨off+n≤i):We s off n (i+1)=We s off n i:=by
 unfold We
 apply List.map_congr_left
 intro j hj
 have hj':j<n:=by simpa using hj
 by_cases hlt:off+j<i
 ·rw [if_pos hlt,if_pos (by omega)]
 rw [if_neg hlt,if_neg (by omega)]
theorem MV (s:ByteArray):YR s 0=Zl:=by simp [YR,We,Zl,List.range_succ]
theorem Fa (s:ByteArray) {i:Nat} (h:i<3):((YR s i).1.set i (btV s i - 48),(YR s i).2)=YR s (i+1):=by
 have e:=Tq s (off:=0) (n:=3) (i:=i) (by omega) (by omega)
 simp only [Nat.sub_zero] at e
 unfold YR
 simp only
 rw [e,YN s (off:=3) (by omega),YN s (off:=7) (by omega),YN s (off:=9) (by omega)]
theorem Fc (s:ByteArray) {j:Nat} (h:j<4):((YR s (3+j)).1,(YR s (3+j)).2.1.set j (btV s (3+j) - 48),(YR s (3+j)).2.2)=YR s (3+j+1):=by
 have e:=Tq s (off:=3) (n:=4) (i:=3+j) (by omega) (by omega)
 rw [show 3+j - 3=j by omega] at e
 unfold YR
 simp only
 rw [e,YN s (off:=0) (by omega),YN s (off:=7) (by omega),YN s (off:=9) (by omega)]
theorem Fd (s:ByteArray) {j:Nat} (h:j<2):((YR s (7+j)).1,(YR s (7+j)).2.1,(YR s (7+j)).2.2.1.set j (btV s (7+j) - 48),(YR s (7+j)).2.2.2)=YR s (7+j+1):=by
 have e:=Tq s (off:=7) (n:=2) (i:=7+j) (by omega) (by omega)
 rw [show 7+j - 7=j by omega] at e
 unfold YR
 simp only
 rw [e,YN s (off:=0) (by omega),YN s (off:=3) (by omega),YN s (off:=9) (by omega)]
theorem Fe (s:ByteArray) {j:Nat} (h:j<6):((YR s (9+j)).1,(YR s (9+j)).2.1,(YR s (9+j)).2.2.1,(YR s (9+j)).2.2.2.set j (btV s (9+j) - 48))=YR s (9+j+1):=by
 have e:=Tq s (off:=9) (n:=6) (i:=9+j) (by omega) (by omega)
 rw [show 9+j - 9=j by omega] at e
 unfold YR
 simp only
 rw [e,YN s (off:=0) (by omega),YN s (off:=3) (by omega),YN s (off:=7) (by omega)]
theorem MU (s:ByteArray) (i:Nat):V4.fits (YR s i):=by
 have hf:∀ off n,∀ z ∈ We s off n i,(Lit.int .i64 z).wf=true:=by
  intro off n z hz
  unfold We at hz
  obtain ⟨j,_,rfl⟩:=List.mem_map.1 hz
  have hb:=Rn s (off+j)
  split
  ·exact Yf (by omega) (by omega)
  decide
 exact ⟨hf _ _,hf _ _,hf _ _,hf _ _⟩
theorem RS {w:World} {B:Nat} {t:S4} (h:ZP w B t Zl):∃ g0 g1 g2 g3 c0 c1 c2 c3,t=((some ⟨g0,0,none⟩,3,c0),(some ⟨g1,0,none⟩,4,c1),(some ⟨g2,0,none⟩,2,c2),(some ⟨g3,0,none⟩,6,c3))∧(3≤c0∧4≤c1∧2≤c2∧6≤c3)∧c0≤maxLen∧c1≤maxLen∧c2≤maxLen∧c3≤maxLen:=by
 obtain ⟨s0,s1,s2,s3⟩:=t
 obtain ⟨⟨o0,o1,o2,o3⟩,_⟩:=h
 obtain ⟨g0,c0,e0,l0,m0⟩:=o0.some9 (k:=3) rfl (by decide)
 obtain ⟨g1,c1,e1,l1,m1⟩:=o1.some9 (k:=4) rfl (by decide)
 obtain ⟨g2,c2,e2,l2,m2⟩:=o2.some9 (k:=2) rfl (by decide)
 obtain ⟨g3,c3,e3,l3,m3⟩:=o3.some9 (k:=6) rfl (by decide)
 simp only at e0 e1 e2 e3
 exact ⟨g0,g1,g2,g3,c0,c1,c2,c3,by rw [e0,e1,e2,e3],⟨l0,l1,l2,l3⟩,m0,m1,m2,m3⟩

end Go.Proofs.YtmhlokahmblboaaGreatDoor
