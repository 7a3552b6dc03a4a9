/-
  Joined: VmOfI.
-/
import Derived.Test.YtgmhhegckcionaaGreatDoorF07
import Derived.Test.YtgmhhegckcionaaGreatDoorF08
import Derived.Test.YtgmhhegckcionaaGreatDoorF11

namespace Go.Proofs.YtgmhhegckcionaaGreatDoor
set_option maxRecDepth 100000
set_option maxHeartbeats 16000000
open Go.RowKit
set_option linter.unusedVariables false

def Xy (e:Ending) (w:World) (B:Nat) (z:V4) (c:Int):Prop:=∃ t:S4,e=.returned (.tuple #[t.val,.int .i64 c])∧Z3 w B t z
theorem Xy.mk9 {e:Ending} {w:World} {B:Nat} {z:V4} {c:Int} (t:S4) (h:e=.returned (.tuple #[t.val,.int .i64 c])) (hO:Z3 w B t z):Xy e w B z c:=⟨t,h,hO⟩

def btV (s:ByteArray) (i:Nat):Int:=((s.data.toList.getD i 0).toNat:Int)
theorem Vv (s:ByteArray) (i:Nat):0≤btV s i∧btV s i≤255:=by
 unfold btV
 have:=(s.data.toList.getD i 0).toNat_lt
 omega
theorem DP (s:ByteArray) (i:Nat) (h:i<s.size) (W:World):(Instr.index 9 (.string s) (.int .i64 (i:Int))).run Tryz.prog W=.ok (.int .u8 (btV s i)) W:=by
 rw [run_index_string (P:=Tryz.prog) W 9 s .i64 (i:Int) Tryz.underlying9]
 have h2:(0:Int)≤(i:Int)∧(i:Int)<(s.size:Int):=by omega
 rw [dif_pos h2]
 unfold btV
 have h3:i<s.data.toList.length:=by rw [Array.length_toList];exact h
 have e:s[(i:Int).toNat]'(by omega)=s.data.toList.getD i 0:=by
  simp only [Int.toNat_natCast,List.getD,List.getElem?_eq_getElem h3,Option.getD_some]
  rfl
 rw [e]
theorem Sx (s:ByteArray) (i:Nat) (z:Int) (hz:z=(i:Int)) (h:i<s.size) (W:World):(Instr.index 9 (.string s) (.int .i64 z)).run Tryz.prog W=.ok (.int .u8 (btV s i)) W:=by
 subst hz
 exact DP s i h W
theorem Yj {z:Int} (h:-1000≤z) (h':z≤1000):(Lit.int .i64 z).wf=true:=by
 simp only [Lit.wf,Bool.and_eq_true,decide_eq_true_eq]
 have h1:IntKind.i64.min=-9223372036854775808:=by decide
 have h2:IntKind.i64.max=9223372036854775807:=by decide
 omega
def Vy (s:ByteArray) (off n i:Nat):List Int:=(List.range n).map fun j=>if off+j<i then btV s (off+j) - 48 else 0
def YU (s:ByteArray) (i:Nat):V4:=(Vy s 0 3 i,Vy s 3 4 i,Vy s 7 2 i,Vy s 9 6 i)
def Yh (s:ByteArray):V4:=YU s 15
theorem Ss (s:ByteArray) {off n i:Nat} (h:off≤i) (h':i<off+n):(Vy s off n i).set (i - off) (btV s i - 48)=Vy s off n (i+1):=by
 apply List.ext_getElem
 ·simp [Vy]
 intro j h1 h2
 simp only [Vy,List.getElem_set,List.getElem_map,List.getElem_range]
 by_cases e:i - off=j
 ·subst e
  rw [if_pos rfl,if_pos (by omega),show off+(i - off)=i by omega]
 rw [if_neg e]
 by_cases hlt:off+j<i
 ·rw [if_pos hlt,if_pos (by omega)]
 rw [if_neg hlt,if_neg (by omega)]
theorem YW (s:ByteArray) {off n i:Nat} (h:i<off∨off+n≤i):Vy s off n (i+1)=Vy s off n i:=by
 unfold Vy
 apply List.map_congr_left
 intro j hj
 have hj':j<n:=by simpa using hj
 by_cases hlt:off+j<i
 ·rw [if_pos hlt,if_pos (by omega)]
 rw [if_neg hlt,if_neg (by omega)]
theorem KH (s:ByteArray):YU s 0=Zu:=by simp [YU,Vy,Zu,List.range_succ]
theorem D8 (s:ByteArray) {i:Nat} (h:i<3):((YU s i).1.set i (btV s i - 48),(YU s i).2)=YU s (i+1):=by
 have e:=Ss s (off:=0) (n:=3) (i:=i) (by omega) (by omega)
 simp only [Nat.sub_zero] at e
 unfold YU
 simp only
 rw [e,YW s (off:=3) (by omega),YW s (off:=7) (by omega),YW s (off:=9) (by omega)]
theorem Ca (s:ByteArray) {j:Nat} (h:j<4):((YU s (3+j)).1,(YU s (3+j)).2.1.set j (btV s (3+j) - 48),(YU s (3+j)).2.2)=YU s (3+j+1):=by
 have e:=Ss s (off:=3) (n:=4) (i:=3+j) (by omega) (by omega)
 rw [show 3+j - 3=j by omega] at e
 unfold YU
 simp only
 rw [e,YW s (off:=0) (by omega),YW s (off:=7) (by omega),YW s (off:=9) (by omega)]
theorem Cb (s:ByteArray) {j:Nat} (h:j<2):((YU s (7+j)).1,(YU s (7+j)).2.1,(YU s (7+j)).2.2.1.set j (btV s (7+j) - 48),(YU s (7+j)).2.2.2)=YU s (7+j+1):=by
 have e:=Ss s (off:=7) (n:=2) (i:=7+j) (by omega) (by omega)
 rw [show 7+j - 7=j by omega] at e
 unfold YU
 simp only
 rw [e,YW s (off:=0) (by omega),YW s (off:=3) (by omega),YW s (off:=9) (by omega)]
theorem Cc (s:ByteArray) {j:Nat} (h:j<6):((YU s (9+j)).1,(YU s (9+j)).2.1,(YU s (9+j)).2.2.1,(YU s (9+j)).2.2.2.set j (btV s (9+j) - 48))=YU s (9+j+1):=by
 have e:=Ss s (off:=9) (n:=6) (i:=9+j) (by omega) (by omega)
 rw [show 9+j - 9=j by omega] at e
 unfold YU
 simp only
 rw [e,YW s (off:=0) (by omega),YW s (off:=3) (by omega),YW s (off:=7) (by omega)]
theorem KG (s:ByteArray) (i:Nat):V4.fits (YU s i):=by
 have hf:∀ off n,∀ z ∈ Vy s off n i,(Lit.int .i64 z).wf=true:=by
  intro off n z hz
  unfold Vy at hz
  obtain ⟨j,_,rfl⟩:=List.mem_map.1 hz
  have hb:=Vv s (off+j)
  split
  ·exact Yj (by omega) (by omega)
  decide
 exact ⟨hf _ _,hf _ _,hf _ _,hf _ _⟩
theorem QM {w:World} {B:Nat} {t:S4} (h:Z3 w B t Zu):∃ g0 g1 g2 g3 c0 c1 c2 c3,t=((some ⟨g0,0,none⟩,3,c0),(some ⟨g1,0,none⟩,4,c1),(some ⟨g2,0,none⟩,2,c2),(some ⟨g3,0,none⟩,6,c3))∧(3≤c0∧4≤c1∧2≤c2∧6≤c3)∧c0≤maxLen∧c1≤maxLen∧c2≤maxLen∧c3≤maxLen:=by
 obtain ⟨s0,s1,s2,s3⟩:=t
 obtain ⟨⟨o0,o1,o2,o3⟩,_⟩:=h
 obtain ⟨g0,c0,e0,l0,m0⟩:=o0.some9 (k:=3) rfl (by decide)
 obtain ⟨g1,c1,e1,l1,m1⟩:=o1.some9 (k:=4) rfl (by decide)
 obtain ⟨g2,c2,e2,l2,m2⟩:=o2.some9 (k:=2) rfl (by decide)
 obtain ⟨g3,c3,e3,l3,m3⟩:=o3.some9 (k:=6) rfl (by decide)
 simp only at e0 e1 e2 e3
 exact ⟨g0,g1,g2,g3,c0,c1,c2,c3,by rw [e0,e1,e2,e3],⟨l0,l1,l2,l3⟩,m0,m1,m2,m3⟩

theorem Ps (s:ByteArray) (w:World) (hs:s.size≤1048576) (h:65536<s.size) :
  Calls Tryz.prog 72 #[.string s] w fun e w'=>e=.returned (.tuple #[.agg #[.slice none 0 0,.slice none 0 0,.slice none 0 0,.slice none 0 0],.int .i64 2])∧Below w.heap.size w w':=by
 go_enter Tryz.func72,Tryz.ntmps72
 go_wp2
 refine bodyPost_ret (ZF Tryz.results72 _ _ _ _ _ _ rfl (Blk.new w 88 [.slice none 0 0,.slice none 0 0,.slice none 0 0,.slice none 0 0]) Tryz.underlying88 rfl (by kernel_rfl)) rfl ?_
 exact ⟨rfl,by go_grown⟩
theorem Pt (s:ByteArray) (w:World) (h:s.size≤65536) (h15:s.size≠15) :
  Calls Tryz.prog 72 #[.string s] w fun e w'=>e=.returned (.tuple #[.agg #[.slice none 0 0,.slice none 0 0,.slice none 0 0,.slice none 0 0],.int .i64 3])∧Below w.heap.size w w':=by
 have hne:((s.size:Int) != 15)=true:=by simp;omega
 go_enter Tryz.func72,Tryz.ntmps72
 go_wp2
 refine bodyPost_ret (ZF Tryz.results72 _ _ _ _ _ _ rfl (Blk.new w 88 [.slice none 0 0,.slice none 0 0,.slice none 0 0,.slice none 0 0]) Tryz.underlying88 rfl (by kernel_rfl)) rfl ?_
 exact ⟨rfl,by go_grown⟩

theorem RH (s:ByteArray) (w:World) (h15:s.size=15) (hV:ZN w) :
  Calls Tryz.prog 72 #[.string s] w fun e w'=>Xy e w' w.heap.size (if Zc (Yh s) then Yh s else ([],[],[],[])) (if Zc (Yh s) then 0 else 3)∧Below w.heap.size w w':=by
 obtain ⟨bv,hbv⟩:∃ bv,bv=Yh s:=⟨_,rfl⟩
 rw [← hbv]
 have HBV:Hid (bv=Yh s):=hbv
 clear hbv
 obtain ⟨z,hz⟩:∃ z,z=(if Zc bv then bv else ([],[],[],[])):=⟨_,rfl⟩
 obtain ⟨c,hc⟩:∃ c:Int,c=(if Zc bv then 0 else 3):=⟨_,rfl⟩
 rw [← hz,← hc]
 have HZ:Hid (z=(if Zc bv then bv else ([],[],[],[]))):=hz
 have HC:Hid (c=(if Zc bv then 0 else 3)):=hc
 clear hz hc
 have kN:=YZ
 have kR:=fun t w h hV=>Q0 t bv w h hV
 have hfit:=KG s 15
 have bw:Below w.heap.size w (w.alloc (.cells #[.slice none 0 0,.slice none 0 0,.slice none 0 0,.slice none 0 0] 88)):=by go_grown
 have pR:=Blk.new w 88 [.slice none 0 0,.slice none 0 0,.slice none 0 0,.slice none 0 0]
 have hne:((s.size:Int) != 15)=false:=by simp [h15]
 have hsz:(s.size:Int)=15:=by omega
 go_enter Tryz.func72,Tryz.ntmps72
 go_wp2_with fail
 refine (kN _).mono ?_
 rintro e w1 ⟨⟨t,rfl,hO⟩,hb⟩
 obtain ⟨g0,g1,g2,g3,c0,c1,c2,c3,rfl,⟨l0,l1,l2,l3⟩,m0,m1,m2,m3⟩:=QM hO
 unfold maxLen at m0 m1 m2 m3
 have kL:=fun w=>QJ ((some ⟨g0,0,none⟩,3,c0),(some ⟨g1,0,none⟩,4,c1),(some ⟨g2,0,none⟩,2,c2),(some ⟨g3,0,none⟩,6,c3)) w
 replace kR:=kR ((some ⟨g0,0,none⟩,3,c0),(some ⟨g1,0,none⟩,4,c1),(some ⟨g2,0,none⟩,2,c2),(some ⟨g3,0,none⟩,6,c3))
 have uX:S4.val ((some ⟨g0,0,none⟩,3,c0),(some ⟨g1,0,none⟩,4,c1),(some ⟨g2,0,none⟩,2,c2),(some ⟨g3,0,none⟩,6,c3))=.agg #[.slice (some ⟨g0,0,none⟩) 3 c0,.slice (some ⟨g1,0,none⟩) 4 c1,.slice (some ⟨g2,0,none⟩) 2 c2,.slice (some ⟨g3,0,none⟩) 6 c3]:=rfl
 rw [uX] at kL kR ⊢
 clear uX
 replace hO:=hO.lower9 bw.size
 have bA:Below w1.heap.size w1 (w1.alloc (.cells #[.slice (some ⟨g0,0,none⟩) 3 c0,.slice (some ⟨g1,0,none⟩) 4 c1,.slice (some ⟨g2,0,none⟩) 2 c2,.slice (some ⟨g3,0,none⟩) 6 c3] 88)):=by go_grown
 have pS:=Blk.new w1 88 [.slice (some ⟨g0,0,none⟩) 3 c0,.slice (some ⟨g1,0,none⟩) 4 c1,.slice (some ⟨g2,0,none⟩) 2 c2,.slice (some ⟨g3,0,none⟩) 6 c3]
 have hgS:w.heap.size<w1.heap.size:=Nat.lt_of_lt_of_le (by simp) hb.size
 replace bw:=Zb bw (Zb hb bA)
 replace pR:=pR.below (Zb hb bA)
 replace hO:=hO.below bA
 clear hb bA kN
 go_wp2_with fail
 generalize (w1.alloc (.cells #[.slice (some ⟨g0,0,none⟩) 3 c0,.slice (some ⟨g1,0,none⟩) 4 c1,.slice (some ⟨g2,0,none⟩) 2 c2,.slice (some ⟨g3,0,none⟩) 6 c3] 88))=W1 at *
 generalize w1.heap.size=gS at *
 refine (kL _).mono ?_
 rintro e w2 ⟨rfl,hb⟩
 replace bw:=Zb bw hb
 replace pR:=pR.below hb
 replace pS:=pS.below hb
 replace hO:=hO.below hb
 rw [← KH s] at hO
 clear hb kL
 have y0:=Kl (.slice (some ⟨g0,0,none⟩) 3 c0) (.slice (some ⟨g1,0,none⟩) 4 c1) (.slice (some ⟨g2,0,none⟩) 2 c2) (.slice (some ⟨g3,0,none⟩) 6 c3)
 have y1:=Km (.slice (some ⟨g0,0,none⟩) 3 c0) (.slice (some ⟨g1,0,none⟩) 4 c1) (.slice (some ⟨g2,0,none⟩) 2 c2) (.slice (some ⟨g3,0,none⟩) 6 c3)
 have y2:=Kn (.slice (some ⟨g0,0,none⟩) 3 c0) (.slice (some ⟨g1,0,none⟩) 4 c1) (.slice (some ⟨g2,0,none⟩) 2 c2) (.slice (some ⟨g3,0,none⟩) 6 c3)
 have y3:=Ko (.slice (some ⟨g0,0,none⟩) 3 c0) (.slice (some ⟨g1,0,none⟩) 4 c1) (.slice (some ⟨g2,0,none⟩) 2 c2) (.slice (some ⟨g3,0,none⟩) 6 c3)
 go_wp2_with fail
 refine wp_loop_rounds 5 ?_
 rw [rounds_succ]
 go_wp2_with fail
 go_loopw [5,25] (fun sa si wr=>∃ j:Nat,j≤3∧si=.int .i64 j∧sa=.int .i64 ((j:Nat):Int)∧Z3 wr w.heap.size ((some ⟨g0,0,none⟩,3,c0),(some ⟨g1,0,none⟩,4,c1),(some ⟨g2,0,none⟩,2,c2),(some ⟨g3,0,none⟩,6,c3)) (YU s (j))∧Blk wr gS 88 [.slice (some ⟨g0,0,none⟩) 3 c0,.slice (some ⟨g1,0,none⟩) 4 c1,.slice (some ⟨g2,0,none⟩) 2 c2,.slice (some ⟨g3,0,none⟩) 6 c3]∧Blk wr w.heap.size 88 [.slice none 0 0,.slice none 0 0,.slice none 0 0,.slice none 0 0]∧Below w.heap.size w wr) (fun _ si _=>3 - (intOf si).toNat)
 case atStart=>exact ⟨0,by omega,rfl,rfl,hO,pS,pR,bw⟩
 case round =>
  clear hO pS pR bw
  obtain ⟨j,hj,rfl,rfl,hO,pS,pR,bw⟩:=hrel
  by_cases hlt:j<3
  ·have hix:=Sx s (j) ((j:Int)) (by omega) (by omega)
   have hbb:=Vv s (j)
   have hst:=hO.set0 j (btV s (j) - 48)
   rw [D8 s hlt] at hst
   have hold:=hO.1.1.at9 hlt
   have hfz:=hO.1.1.frz9 j
   have hlo:=hO.1.1.lo9
   have neS:=hO.1.1.ne9 pS (by decide)
   have neR:=hO.1.1.ne9 pR (by decide)
   generalize btV s (j)=bx at *
   have pS2:=pS.off ⟨g0,j,none⟩ (.int .i64 (bx - 48)) neS
   have pR2:=pR.off ⟨g0,j,none⟩ (.int .i64 (bx - 48)) neR
   have b2:=bw.setCell (p:=⟨g0,j,none⟩) hlo.1 (.int .i64 (bx - 48))
   have hjI:(j:Int)<3:=by omega
   obtain ⟨old,hold'⟩:∃ u,wr.cell? ⟨g0,j,none⟩=some u:=⟨_,hold⟩
   clear hold hO pS pR bw
   go_wp2
   go_roundw
   case rel=>exact ⟨j+1,by omega,by go_num,by go_num,hst,pS2,pR2,b2⟩
   case measure=>simp [intOf];omega
  obtain rfl:j=3:=by omega
  skip
  go_wp2_with fail
  rw [rounds_succ]
  go_wp2_with fail
  go_loopw [5,25] (fun sa si wr=>∃ j:Nat,j≤4∧si=.int .i64 j∧sa=.int .i64 ((3+j:Nat):Int)∧Z3 wr w.heap.size ((some ⟨g0,0,none⟩,3,c0),(some ⟨g1,0,none⟩,4,c1),(some ⟨g2,0,none⟩,2,c2),(some ⟨g3,0,none⟩,6,c3)) (YU s (3+j))∧Blk wr gS 88 [.slice (some ⟨g0,0,none⟩) 3 c0,.slice (some ⟨g1,0,none⟩) 4 c1,.slice (some ⟨g2,0,none⟩) 2 c2,.slice (some ⟨g3,0,none⟩) 6 c3]∧Blk wr w.heap.size 88 [.slice none 0 0,.slice none 0 0,.slice none 0 0,.slice none 0 0]∧Below w.heap.size w wr) (fun _ si _=>4 - (intOf si).toNat)
  case atStart=>exact ⟨0,by omega,rfl,rfl,hO,pS,pR,bw⟩
  case round =>
   clear hO pS pR bw
   obtain ⟨j,hj,rfl,rfl,hO,pS,pR,bw⟩:=hrel
   by_cases hlt:j<4
   ·have hix:=Sx s (3+j) (3+(j:Int)) (by omega) (by omega)
    have hbb:=Vv s (3+j)
    have hst:=hO.set1 j (btV s (3+j) - 48)
    rw [Ca s hlt] at hst
    have hold:=hO.1.2.1.at9 hlt
    have hfz:=hO.1.2.1.frz9 j
    have hlo:=hO.1.2.1.lo9
    have neS:=hO.1.2.1.ne9 pS (by decide)
    have neR:=hO.1.2.1.ne9 pR (by decide)
    generalize btV s (3+j)=bx at *
    have pS2:=pS.off ⟨g1,j,none⟩ (.int .i64 (bx - 48)) neS
    have pR2:=pR.off ⟨g1,j,none⟩ (.int .i64 (bx - 48)) neR
    have b2:=bw.setCell (p:=⟨g1,j,none⟩) hlo.1 (.int .i64 (bx - 48))
    have hjI:(j:Int)<4:=by omega
    obtain ⟨old,hold'⟩:∃ u,wr.cell? ⟨g1,j,none⟩=some u:=⟨_,hold⟩
    clear hold hO pS pR bw
    go_wp2
    go_roundw
    case rel=>exact ⟨j+1,by omega,by go_num,by go_num,hst,pS2,pR2,b2⟩
    case measure=>simp [intOf];omega
   obtain rfl:j=4:=by omega
   simp only [Nat.reduceAdd] at hO
   go_wp2_with fail
   rw [rounds_succ]
   go_wp2_with fail
   go_loopw [5,25] (fun sa si wr=>∃ j:Nat,j≤2∧si=.int .i64 j∧sa=.int .i64 ((7+j:Nat):Int)∧Z3 wr w.heap.size ((some ⟨g0,0,none⟩,3,c0),(some ⟨g1,0,none⟩,4,c1),(some ⟨g2,0,none⟩,2,c2),(some ⟨g3,0,none⟩,6,c3)) (YU s (7+j))∧Blk wr gS 88 [.slice (some ⟨g0,0,none⟩) 3 c0,.slice (some ⟨g1,0,none⟩) 4 c1,.slice (some ⟨g2,0,none⟩) 2 c2,.slice (some ⟨g3,0,none⟩) 6 c3]∧Blk wr w.heap.size 88 [.slice none 0 0,.slice none 0 0,.slice none 0 0,.slice none 0 0]∧Below w.heap.size w wr) (fun _ si _=>2 - (intOf si).toNat)
   case atStart=>exact ⟨0,by omega,rfl,rfl,hO,pS,pR,bw⟩
   case round =>
    clear hO pS pR bw
    obtain ⟨j,hj,rfl,rfl,hO,pS,pR,bw⟩:=hrel
    by_cases hlt:j<2
    ·have hix:=Sx s (7+j) (7+(j:Int)) (by omega) (by omega)
     have hbb:=Vv s (7+j)
     have hst:=hO.set2 j (btV s (7+j) - 48)
     rw [Cb s hlt] at hst
     have hold:=hO.1.2.2.1.at9 hlt
     have hfz:=hO.1.2.2.1.frz9 j
     have hlo:=hO.1.2.2.1.lo9
     have neS:=hO.1.2.2.1.ne9 pS (by decide)
     have neR:=hO.1.2.2.1.ne9 pR (by decide)
     generalize btV s (7+j)=bx at *
     have pS2:=pS.off ⟨g2,j,none⟩ (.int .i64 (bx - 48)) neS
     have pR2:=pR.off ⟨g2,j,none⟩ (.int .i64 (bx - 48)) neR
     have b2:=bw.setCell (p:=⟨g2,j,none⟩) hlo.1 (.int .i64 (bx - 48))
     have hjI:(j:Int)<2:=by omega
     obtain ⟨old,hold'⟩:∃ u,wr.cell? ⟨g2,j,none⟩=some u:=⟨_,hold⟩
     clear hold hO pS pR bw
     go_wp2
     go_roundw
     case rel=>exact ⟨j+1,by omega,by go_num,by go_num,hst,pS2,pR2,b2⟩
     case measure=>simp [intOf];omega
    obtain rfl:j=2:=by omega
    simp only [Nat.reduceAdd] at hO
    go_wp2_with fail
    rw [rounds_succ]
    go_wp2_with fail
    go_loopw [5,25] (fun sa si wr=>∃ j:Nat,j≤6∧si=.int .i64 j∧sa=.int .i64 ((9+j:Nat):Int)∧Z3 wr w.heap.size ((some ⟨g0,0,none⟩,3,c0),(some ⟨g1,0,none⟩,4,c1),(some ⟨g2,0,none⟩,2,c2),(some ⟨g3,0,none⟩,6,c3)) (YU s (9+j))∧Blk wr gS 88 [.slice (some ⟨g0,0,none⟩) 3 c0,.slice (some ⟨g1,0,none⟩) 4 c1,.slice (some ⟨g2,0,none⟩) 2 c2,.slice (some ⟨g3,0,none⟩) 6 c3]∧Blk wr w.heap.size 88 [.slice none 0 0,.slice none 0 0,.slice none 0 0,.slice none 0 0]∧Below w.heap.size w wr) (fun _ si _=>6 - (intOf si).toNat)
    case atStart=>exact ⟨0,by omega,rfl,rfl,hO,pS,pR,bw⟩
    case round =>
     clear hO pS pR bw
     obtain ⟨j,hj,rfl,rfl,hO,pS,pR,bw⟩:=hrel
     by_cases hlt:j<6
     ·have hix:=Sx s (9+j) (9+(j:Int)) (by omega) (by omega)
      have hbb:=Vv s (9+j)
      have hst:=hO.set3 j (btV s (9+j) - 48)
      rw [Cc s hlt] at hst
      have hold:=hO.1.2.2.2.at9 hlt
      have hfz:=hO.1.2.2.2.frz9 j
      have hlo:=hO.1.2.2.2.lo9
      have neS:=hO.1.2.2.2.ne9 pS (by decide)
      have neR:=hO.1.2.2.2.ne9 pR (by decide)
      generalize btV s (9+j)=bx at *
      have pS2:=pS.off ⟨g3,j,none⟩ (.int .i64 (bx - 48)) neS
      have pR2:=pR.off ⟨g3,j,none⟩ (.int .i64 (bx - 48)) neR
      have b2:=bw.setCell (p:=⟨g3,j,none⟩) hlo.1 (.int .i64 (bx - 48))
      have hjI:(j:Int)<6:=by omega
      obtain ⟨old,hold'⟩:∃ u,wr.cell? ⟨g3,j,none⟩=some u:=⟨_,hold⟩
      clear hold hO pS pR bw
      go_wp2
      go_roundw
      case rel=>exact ⟨j+1,by omega,by go_num,by go_num,hst,pS2,pR2,b2⟩
      case measure=>simp [intOf];omega
     obtain rfl:j=6:=by omega
     simp only [Nat.reduceAdd] at hO
     have hO':Z3 wr w.heap.size ((some ⟨g0,0,none⟩,3,c0),(some ⟨g1,0,none⟩,4,c1),(some ⟨g2,0,none⟩,2,c2),(some ⟨g3,0,none⟩,6,c3)) bv:=by rw [HBV.out];exact hO
     have kR1:=kR wr (hO'.mem (by rw [HBV.out];exact hfit)) (hV.below bw)
     have e0:=pS.cell 0
     have e1:=pS.cell 1
     have e2:=pS.cell 2
     have e3:=pS.cell 3
     simp only [List.getElem?_cons_zero,List.getElem?_cons_succ] at e0 e1 e2 e3
     clear hO kR y0 y1 y2 y3 hfit HBV
     go_wp2_with fail
     rw [rounds_succ]
     go_wp2_with fail
     refine kR1.mono ?_
     rintro e w3 ⟨rfl,hb⟩
     replace bw:=Zb bw hb
     replace pS:=pS.below hb
     replace pR:=pR.below hb
     replace hO':=hO'.below hb
     clear hb e0 e1 e2 e3 kR1
     cases hok:Zc bv
     ·obtain rfl:z=([],[],[],[]):=by rw [HZ.out,hok];rfl
      obtain rfl:c=3:=by rw [HC.out,hok];rfl
      clear HZ HC
      go_wp2_with (refine Ze rfl 88 _ _ rfl w.heap.size [.slice none 0 0,.slice none 0 0,.slice none 0 0,.slice none 0 0] rfl rfl pR (by kernel_rfl) rfl rfl ?_)
      intro w4 pR4 g4
      replace bw:=bw.grown g4 bw.size (fun x hx=>by cases hx;omega)
      clear g4
      go_wp2_with fail
      refine bodyPost_ret (ZF Tryz.results72 _ _ _ _ _ _ rfl pR4.out Tryz.underlying88 rfl (by kernel_rfl)) rfl ?_
      exact ⟨Xy.mk9 ((none,0,0),(none,0,0),(none,0,0),(none,0,0)) rfl (SO _ _),bw⟩
     obtain rfl:z=bv:=by rw [HZ.out,hok];rfl
     obtain rfl:c=0:=by rw [HC.out,hok];rfl
     clear HZ HC
     go_wp2_with (first | refine Zd rfl 88 _ rfl gS rfl pS _ Tryz.underlying88 rfl (by kernel_rfl) ?_ | refine Ze rfl 88 _ _ rfl w.heap.size [.slice (some ⟨g0,0,none⟩) 3 c0,.slice (some ⟨g1,0,none⟩) 4 c1,.slice (some ⟨g2,0,none⟩) 2 c2,.slice (some ⟨g3,0,none⟩) 6 c3] rfl rfl pR (by kernel_rfl) rfl rfl ?_)
     intro w4 pR4 g4
     replace bw:=bw.grown g4 bw.size (fun x hx=>by cases hx;omega)
     replace hO':=hO'.kept9 g4 pR (by decide)
     clear g4
     go_wp2_with fail
     refine bodyPost_ret (ZF Tryz.results72 _ _ _ _ _ _ rfl pR4.out Tryz.underlying88 rfl (by kernel_rfl)) rfl ?_
     exact ⟨Xy.mk9 ((some ⟨g0,0,none⟩,3,c0),(some ⟨g1,0,none⟩,4,c1),(some ⟨g2,0,none⟩,2,c2),(some ⟨g3,0,none⟩,6,c3)) rfl hO',bw⟩
end Go.Proofs.YtgmhhegckcionaaGreatDoor
