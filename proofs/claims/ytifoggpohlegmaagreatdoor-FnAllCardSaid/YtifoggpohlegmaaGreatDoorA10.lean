/-
  Joined: NewVmS, VmOfI, SpecP#1, SpecP#2.
-/
import Derived.Test.YtifoggpohlegmaaGreatDoorA09

namespace Go.Proofs.YtifoggpohlegmaaGreatDoor
set_option maxRecDepth 100000
set_option maxHeartbeats 16000000
open Go.RowKit

theorem specNewVm_is (w:World) :
  Calls Tryz.prog 106 #[] w fun e w'=>(∃ s:S4,e=.returned s.val∧OwnV w' w.heap.size s zeroV)∧Below w.heap.size w w':=by
 have r3:=make3
 have r4:=make4
 have r2:=make2
 have r6:=make6
 go_enter Tryz.func106,Tryz.ntmps106
 go_wp2
 go_region
 all_goals (clear r3 r4 r2 r6;go_wp2;go_returns;refine ⟨⟨_,rfl,newVm_own (B:=w.heap.size) ?_ ?_ ?_ ?_ ⟨⟨by omega,by omega⟩,by omega,by omega⟩ ⟨⟨by omega,by omega,by omega⟩,⟨by omega,by omega⟩,by omega⟩⟩,by go_grown⟩<;>(refine Blk.drew ?_;repeat (first | exact blk_at _ _ _ (by simp) | refine blk_old _ ?_)))

set_option linter.unusedVariables false

def VmGot (e:Ending) (w:World) (B:Nat) (z:V4) (c:Int):Prop:=∃ t:S4,e=.returned (.tuple #[t.val,.int .i64 c])∧OwnV w B t z
theorem VmGot.mk9 {e:Ending} {w:World} {B:Nat} {z:V4} {c:Int} (t:S4) (h:e=.returned (.tuple #[t.val,.int .i64 c])) (hO:OwnV w B t z):VmGot e w B z c:=⟨t,h,hO⟩

def btV (s:ByteArray) (i:Nat):Int:=((s.data.toList.getD i 0).toNat:Int)
theorem btV_bounds (s:ByteArray) (i:Nat):0≤btV s i∧btV s i≤255:=by
 unfold btV
 have:=(s.data.toList.getD i 0).toNat_lt
 omega
theorem idx_btV (s:ByteArray) (i:Nat) (h:i<s.size) (W:World):(Instr.index 9 (.string s) (.int .i64 (i:Int))).run Tryz.prog W=.ok (.int .u8 (btV s i)) W:=by
 rw [run_index_string (P:=Tryz.prog) W 9 s .i64 (i:Int) Tryz.underlying9]
 have h2:(0:Int)≤(i:Int)∧(i:Int)<(s.size:Int):=by omega
 rw [dif_pos h2]
 unfold btV
 have h3:i<s.data.toList.length:=by rw [Array.length_toList];exact h
 have e:s[(i:Int).toNat]'(by omega)=s.data.toList.getD i 0:=by
  simp only [Int.toNat_natCast,List.getD,List.getElem?_eq_getElem h3,Option.getD_some]
  rfl
 rw [e]
theorem idx_btVz (s:ByteArray) (i:Nat) (z:Int) (hz:z=(i:Int)) (h:i<s.size) (W:World):(Instr.index 9 (.string s) (.int .i64 z)).run Tryz.prog W=.ok (.int .u8 (btV s i)) W:=by
 subst hz
 exact idx_btV s i h W
theorem fits_small {z:Int} (h:-1000≤z) (h':z≤1000):(Lit.int .i64 z).wf=true:=by
 simp only [Lit.wf,Bool.and_eq_true,decide_eq_true_eq]
 have h1:IntKind.i64.min=-9223372036854775808:=by decide
 have h2:IntKind.i64.max=9223372036854775807:=by decide
 omega
def fillL (s:ByteArray) (off n i:Nat):List Int:=(List.range n).map fun j=>if off+j<i then btV s (off+j) - 48 else 0
def partV (s:ByteArray) (i:Nat):V4:=(fillL s 0 3 i,fillL s 3 4 i,fillL s 7 2 i,fillL s 9 6 i)
def bytesV (s:ByteArray):V4:=partV s 15
theorem fill_set (s:ByteArray) {off n i:Nat} (h:off≤i) (h':i<off+n):(fillL s off n i).set (i - off) (btV s i - 48)=fillL s off n (i+1):=by
 apply List.ext_getElem
 ·simp [fillL]
 ·intro j h1 h2
  simp only [fillL,List.getElem_set,List.getElem_map,List.getElem_range]
  by_cases e:i - off=j
  ·subst e
   rw [if_pos rfl,if_pos (by omega),show off+(i - off)=i by omega]
  ·rw [if_neg e]
   by_cases hlt:off+j<i
   ·rw [if_pos hlt,if_pos (by omega)]
   ·rw [if_neg hlt,if_neg (by omega)]
theorem fill_same (s:ByteArray) {off n i:Nat} (h:i<off∨off+n≤i):fillL s off n (i+1)=fillL s off n i:=by
 unfold fillL
 apply List.map_congr_left
 intro j hj
 have hj':j<n:=by simpa using hj
 by_cases hlt:off+j<i
 ·rw [if_pos hlt,if_pos (by omega)]
 ·rw [if_neg hlt,if_neg (by omega)]
theorem partV_zero (s:ByteArray):partV s 0=zeroV:=by simp [partV,fillL,zeroV,List.range_succ]
theorem partV_0 (s:ByteArray) {i:Nat} (h:i<3):((partV s i).1.set i (btV s i - 48),(partV s i).2)=partV s (i+1):=by
 have e:=fill_set s (off:=0) (n:=3) (i:=i) (by omega) (by omega)
 simp only [Nat.sub_zero] at e
 unfold partV
 simp only
 rw [e,fill_same s (off:=3) (by omega),fill_same s (off:=7) (by omega),fill_same s (off:=9) (by omega)]
theorem partV_1 (s:ByteArray) {j:Nat} (h:j<4):((partV s (3+j)).1,(partV s (3+j)).2.1.set j (btV s (3+j) - 48),(partV s (3+j)).2.2)=partV s (3+j+1):=by
 have e:=fill_set s (off:=3) (n:=4) (i:=3+j) (by omega) (by omega)
 rw [show 3+j - 3=j by omega] at e
 unfold partV
 simp only
 rw [e,fill_same s (off:=0) (by omega),fill_same s (off:=7) (by omega),fill_same s (off:=9) (by omega)]
theorem partV_2 (s:ByteArray) {j:Nat} (h:j<2):((partV s (7+j)).1,(partV s (7+j)).2.1,(partV s (7+j)).2.2.1.set j (btV s (7+j) - 48),(partV s (7+j)).2.2.2)=partV s (7+j+1):=by
 have e:=fill_set s (off:=7) (n:=2) (i:=7+j) (by omega) (by omega)
 rw [show 7+j - 7=j by omega] at e
 unfold partV
 simp only
 rw [e,fill_same s (off:=0) (by omega),fill_same s (off:=3) (by omega),fill_same s (off:=9) (by omega)]
theorem partV_3 (s:ByteArray) {j:Nat} (h:j<6):((partV s (9+j)).1,(partV s (9+j)).2.1,(partV s (9+j)).2.2.1,(partV s (9+j)).2.2.2.set j (btV s (9+j) - 48))=partV s (9+j+1):=by
 have e:=fill_set s (off:=9) (n:=6) (i:=9+j) (by omega) (by omega)
 rw [show 9+j - 9=j by omega] at e
 unfold partV
 simp only
 rw [e,fill_same s (off:=0) (by omega),fill_same s (off:=3) (by omega),fill_same s (off:=7) (by omega)]
theorem partV_fits (s:ByteArray) (i:Nat):V4.fits (partV s i):=by
 have hf:∀ off n,∀ z ∈ fillL s off n i,(Lit.int .i64 z).wf=true:=by
  intro off n z hz
  unfold fillL at hz
  obtain ⟨j,_,rfl⟩:=List.mem_map.1 hz
  have hb:=btV_bounds s (off+j)
  split
  ·exact fits_small (by omega) (by omega)
  ·decide
 exact ⟨hf _ _,hf _ _,hf _ _,hf _ _⟩
theorem newVm_open {w:World} {B:Nat} {t:S4} (h:OwnV w B t zeroV):∃ g0 g1 g2 g3 c0 c1 c2 c3,t=((some ⟨g0,0,none⟩,3,c0),(some ⟨g1,0,none⟩,4,c1),(some ⟨g2,0,none⟩,2,c2),(some ⟨g3,0,none⟩,6,c3))∧(3≤c0∧4≤c1∧2≤c2∧6≤c3)∧c0≤maxLen∧c1≤maxLen∧c2≤maxLen∧c3≤maxLen:=by
 obtain ⟨s0,s1,s2,s3⟩:=t
 obtain ⟨⟨o0,o1,o2,o3⟩,_⟩:=h
 obtain ⟨g0,c0,e0,l0,m0⟩:=o0.some9 (k:=3) rfl (by decide)
 obtain ⟨g1,c1,e1,l1,m1⟩:=o1.some9 (k:=4) rfl (by decide)
 obtain ⟨g2,c2,e2,l2,m2⟩:=o2.some9 (k:=2) rfl (by decide)
 obtain ⟨g3,c3,e3,l3,m3⟩:=o3.some9 (k:=6) rfl (by decide)
 simp only at e0 e1 e2 e3
 exact ⟨g0,g1,g2,g3,c0,c1,c2,c3,by rw [e0,e1,e2,e3],⟨l0,l1,l2,l3⟩,m0,m1,m2,m3⟩

theorem implVmOf_15 (s:ByteArray) (w:World) (h15:s.size=15) (hV:VmShape w) :
  Calls Tryz.prog 26 #[.string s] w fun e w'=>VmGot e w' w.heap.size (if shapeOk (bytesV s) then bytesV s else ([],[],[],[])) (if shapeOk (bytesV s) then 0 else 3)∧Below w.heap.size w w':=by
 obtain ⟨bv,hbv⟩:∃ bv,bv=bytesV s:=⟨_,rfl⟩
 rw [← hbv]
 have HBV:Hid (bv=bytesV s):=hbv
 clear hbv
 obtain ⟨z,hz⟩:∃ z,z=(if shapeOk bv then bv else ([],[],[],[])):=⟨_,rfl⟩
 obtain ⟨c,hc⟩:∃ c:Int,c=(if shapeOk bv then 0 else 3):=⟨_,rfl⟩
 rw [← hz,← hc]
 have HZ:Hid (z=(if shapeOk bv then bv else ([],[],[],[]))):=hz
 have HC:Hid (c=(if shapeOk bv then 0 else 3)):=hc
 clear hz hc
 have kN:=implNewVm_is
 have kR:=fun t w h hV=>right_is t bv w h hV
 have hfit:=partV_fits s 15
 have bw:Below w.heap.size w (w.alloc (.cells #[.slice none 0 0,.slice none 0 0,.slice none 0 0,.slice none 0 0] 33)):=by go_grown
 have pR:=Blk.new w 33 [.slice none 0 0,.slice none 0 0,.slice none 0 0,.slice none 0 0]
 have hne:((s.size:Int) != 15)=false:=by simp [h15]
 have hsz:(s.size:Int)=15:=by omega
 go_enter Tryz.func26,Tryz.ntmps26
 go_wp2_with fail
 refine (kN _).mono ?_
 rintro e w1 ⟨⟨t,rfl,hO⟩,hb⟩
 obtain ⟨g0,g1,g2,g3,c0,c1,c2,c3,rfl,⟨l0,l1,l2,l3⟩,m0,m1,m2,m3⟩:=newVm_open hO
 unfold maxLen at m0 m1 m2 m3
 have kL:=fun w=>lists_is ((some ⟨g0,0,none⟩,3,c0),(some ⟨g1,0,none⟩,4,c1),(some ⟨g2,0,none⟩,2,c2),(some ⟨g3,0,none⟩,6,c3)) w
 replace kR:=kR ((some ⟨g0,0,none⟩,3,c0),(some ⟨g1,0,none⟩,4,c1),(some ⟨g2,0,none⟩,2,c2),(some ⟨g3,0,none⟩,6,c3))
 have uX:S4.val ((some ⟨g0,0,none⟩,3,c0),(some ⟨g1,0,none⟩,4,c1),(some ⟨g2,0,none⟩,2,c2),(some ⟨g3,0,none⟩,6,c3))=.agg #[.slice (some ⟨g0,0,none⟩) 3 c0,.slice (some ⟨g1,0,none⟩) 4 c1,.slice (some ⟨g2,0,none⟩) 2 c2,.slice (some ⟨g3,0,none⟩) 6 c3]:=rfl
 rw [uX] at kL kR ⊢
 clear uX
 replace hO:=hO.lower9 bw.size
 have bA:Below w1.heap.size w1 (w1.alloc (.cells #[.slice (some ⟨g0,0,none⟩) 3 c0,.slice (some ⟨g1,0,none⟩) 4 c1,.slice (some ⟨g2,0,none⟩) 2 c2,.slice (some ⟨g3,0,none⟩) 6 c3] 33)):=by go_grown
 have pS:=Blk.new w1 33 [.slice (some ⟨g0,0,none⟩) 3 c0,.slice (some ⟨g1,0,none⟩) 4 c1,.slice (some ⟨g2,0,none⟩) 2 c2,.slice (some ⟨g3,0,none⟩) 6 c3]
 have hgS:w.heap.size<w1.heap.size:=Nat.lt_of_lt_of_le (by simp) hb.size
 replace bw:=bel_trans bw (bel_trans hb bA)
 replace pR:=pR.below (bel_trans hb bA)
 replace hO:=hO.below bA
 clear hb bA kN
 go_wp2_with fail
 generalize (w1.alloc (.cells #[.slice (some ⟨g0,0,none⟩) 3 c0,.slice (some ⟨g1,0,none⟩) 4 c1,.slice (some ⟨g2,0,none⟩) 2 c2,.slice (some ⟨g3,0,none⟩) 6 c3] 33))=W1 at *
 generalize w1.heap.size=gS at *
 refine (kL _).mono ?_
 rintro e w2 ⟨rfl,hb⟩
 replace bw:=bel_trans bw hb
 replace pR:=pR.below hb
 replace pS:=pS.below hb
 replace hO:=hO.below hb
 rw [← partV_zero s] at hO
 clear hb kL
 have y0:=idx4_0 (.slice (some ⟨g0,0,none⟩) 3 c0) (.slice (some ⟨g1,0,none⟩) 4 c1) (.slice (some ⟨g2,0,none⟩) 2 c2) (.slice (some ⟨g3,0,none⟩) 6 c3)
 have y1:=idx4_1 (.slice (some ⟨g0,0,none⟩) 3 c0) (.slice (some ⟨g1,0,none⟩) 4 c1) (.slice (some ⟨g2,0,none⟩) 2 c2) (.slice (some ⟨g3,0,none⟩) 6 c3)
 have y2:=idx4_2 (.slice (some ⟨g0,0,none⟩) 3 c0) (.slice (some ⟨g1,0,none⟩) 4 c1) (.slice (some ⟨g2,0,none⟩) 2 c2) (.slice (some ⟨g3,0,none⟩) 6 c3)
 have y3:=idx4_3 (.slice (some ⟨g0,0,none⟩) 3 c0) (.slice (some ⟨g1,0,none⟩) 4 c1) (.slice (some ⟨g2,0,none⟩) 2 c2) (.slice (some ⟨g3,0,none⟩) 6 c3)
 go_wp2_with fail
 refine wp_loop_rounds 5 ?_
 rw [rounds_succ]
 go_wp2_with fail
 go_loopw [5,25] (fun sa si wr=>∃ j:Nat,j≤3∧si=.int .i64 j∧sa=.int .i64 ((j:Nat):Int)∧OwnV wr w.heap.size ((some ⟨g0,0,none⟩,3,c0),(some ⟨g1,0,none⟩,4,c1),(some ⟨g2,0,none⟩,2,c2),(some ⟨g3,0,none⟩,6,c3)) (partV s (j))∧Blk wr gS 33 [.slice (some ⟨g0,0,none⟩) 3 c0,.slice (some ⟨g1,0,none⟩) 4 c1,.slice (some ⟨g2,0,none⟩) 2 c2,.slice (some ⟨g3,0,none⟩) 6 c3]∧Blk wr w.heap.size 33 [.slice none 0 0,.slice none 0 0,.slice none 0 0,.slice none 0 0]∧Below w.heap.size w wr) (fun _ si _=>3 - (intOf si).toNat)
 case atStart=>exact ⟨0,by omega,rfl,rfl,hO,pS,pR,bw⟩
 case round =>
  clear hO pS pR bw
  obtain ⟨j,hj,rfl,rfl,hO,pS,pR,bw⟩:=hrel
  by_cases hlt:j<3
  ·have hix:=idx_btVz s (j) ((j:Int)) (by omega) (by omega)
   have hbb:=btV_bounds s (j)
   have hst:=hO.set0 j (btV s (j) - 48)
   rw [partV_0 s hlt] at hst
   have hold:=hO.1.1.at9 hlt
   have hfz:=hO.1.1.frz9 j
   have hlo:=hO.1.1.lo9
   have neS:=hO.1.1.ne9 pS (by decide)
   have neR:=hO.1.1.ne9 pR (by decide)
   generalize btV s (j)=bx at *
   have pS2:=pS.off ⟨g0,j,none⟩ (.int .i64 (bx - 48)) neS
   have pR2:=pR.off ⟨g0,j,none⟩ (.int .i64 (bx - 48)) neR
   have b2:=bw.setCell (p:=⟨g0,j,none⟩) hlo.1 (.int .i64 (bx - 48))
   have hjI:(j:Int)<3:=by omega
   obtain ⟨old,hold'⟩:∃ u,wr.cell? ⟨g0,j,none⟩=some u:=⟨_,hold⟩
   clear hold hO pS pR bw
   go_wp2
   go_roundw
   case rel=>exact ⟨j+1,by omega,by go_num,by go_num,hst,pS2,pR2,b2⟩
   case measure=>simp [intOf];omega
  ·obtain rfl:j=3:=by omega
   skip
   go_wp2_with fail
   rw [rounds_succ]
   go_wp2_with fail
   go_loopw [5,25] (fun sa si wr=>∃ j:Nat,j≤4∧si=.int .i64 j∧sa=.int .i64 ((3+j:Nat):Int)∧OwnV wr w.heap.size ((some ⟨g0,0,none⟩,3,c0),(some ⟨g1,0,none⟩,4,c1),(some ⟨g2,0,none⟩,2,c2),(some ⟨g3,0,none⟩,6,c3)) (partV s (3+j))∧Blk wr gS 33 [.slice (some ⟨g0,0,none⟩) 3 c0,.slice (some ⟨g1,0,none⟩) 4 c1,.slice (some ⟨g2,0,none⟩) 2 c2,.slice (some ⟨g3,0,none⟩) 6 c3]∧Blk wr w.heap.size 33 [.slice none 0 0,.slice none 0 0,.slice none 0 0,.slice none 0 0]∧Below w.heap.size w wr) (fun _ si _=>4 - (intOf si).toNat)
   case atStart=>exact ⟨0,by omega,rfl,rfl,hO,pS,pR,bw⟩
   case round =>
    clear hO pS pR bw
    obtain ⟨j,hj,rfl,rfl,hO,pS,pR,bw⟩:=hrel
    by_cases hlt:j<4
    ·have hix:=idx_btVz s (3+j) (3+(j:Int)) (by omega) (by omega)
     have hbb:=btV_bounds s (3+j)
     have hst:=hO.set1 j (btV s (3+j) - 48)
     rw [partV_1 s hlt] at hst
     have hold:=hO.1.2.1.at9 hlt
     have hfz:=hO.1.2.1.frz9 j
     have hlo:=hO.1.2.1.lo9
     have neS:=hO.1.2.1.ne9 pS (by decide)
     have neR:=hO.1.2.1.ne9 pR (by decide)
     generalize btV s (3+j)=bx at *
     have pS2:=pS.off ⟨g1,j,none⟩ (.int .i64 (bx - 48)) neS
     have pR2:=pR.off ⟨g1,j,none⟩ (.int .i64 (bx - 48)) neR
     have b2:=bw.setCell (p:=⟨g1,j,none⟩) hlo.1 (.int .i64 (bx - 48))
     have hjI:(j:Int)<4:=by omega
     obtain ⟨old,hold'⟩:∃ u,wr.cell? ⟨g1,j,none⟩=some u:=⟨_,hold⟩
     clear hold hO pS pR bw
     go_wp2
     go_roundw
     case rel=>exact ⟨j+1,by omega,by go_num,by go_num,hst,pS2,pR2,b2⟩
     case measure=>simp [intOf];omega
    ·obtain rfl:j=4:=by omega
     simp only [Nat.reduceAdd] at hO
     go_wp2_with fail
     rw [rounds_succ]
     go_wp2_with fail
     go_loopw [5,25] (fun sa si wr=>∃ j:Nat,j≤2∧si=.int .i64 j∧sa=.int .i64 ((7+j:Nat):Int)∧OwnV wr w.heap.size ((some ⟨g0,0,none⟩,3,c0),(some ⟨g1,0,none⟩,4,c1),(some ⟨g2,0,none⟩,2,c2),(some ⟨g3,0,none⟩,6,c3)) (partV s (7+j))∧Blk wr gS 33 [.slice (some ⟨g0,0,none⟩) 3 c0,.slice (some ⟨g1,0,none⟩) 4 c1,.slice (some ⟨g2,0,none⟩) 2 c2,.slice (some ⟨g3,0,none⟩) 6 c3]∧Blk wr w.heap.size 33 [.slice none 0 0,.slice none 0 0,.slice none 0 0,.slice none 0 0]∧Below w.heap.size w wr) (fun _ si _=>2 - (intOf si).toNat)
     case atStart=>exact ⟨0,by omega,rfl,rfl,hO,pS,pR,bw⟩
     case round =>
      clear hO pS pR bw
      obtain ⟨j,hj,rfl,rfl,hO,pS,pR,bw⟩:=hrel
      by_cases hlt:j<2
      ·have hix:=idx_btVz s (7+j) (7+(j:Int)) (by omega) (by omega)
       have hbb:=btV_bounds s (7+j)
       have hst:=hO.set2 j (btV s (7+j) - 48)
       rw [partV_2 s hlt] at hst
       have hold:=hO.1.2.2.1.at9 hlt
       have hfz:=hO.1.2.2.1.frz9 j
       have hlo:=hO.1.2.2.1.lo9
       have neS:=hO.1.2.2.1.ne9 pS (by decide)
       have neR:=hO.1.2.2.1.ne9 pR (by decide)
       generalize btV s (7+j)=bx at *
       have pS2:=pS.off ⟨g2,j,none⟩ (.int .i64 (bx - 48)) neS
       have pR2:=pR.off ⟨g2,j,none⟩ (.int .i64 (bx - 48)) neR
       have b2:=bw.setCell (p:=⟨g2,j,none⟩) hlo.1 (.int .i64 (bx - 48))
       have hjI:(j:Int)<2:=by omega
       obtain ⟨old,hold'⟩:∃ u,wr.cell? ⟨g2,j,none⟩=some u:=⟨_,hold⟩
       clear hold hO pS pR bw
       go_wp2
       go_roundw
       case rel=>exact ⟨j+1,by omega,by go_num,by go_num,hst,pS2,pR2,b2⟩
       case measure=>simp [intOf];omega
      ·obtain rfl:j=2:=by omega
       simp only [Nat.reduceAdd] at hO
       go_wp2_with fail
       rw [rounds_succ]
       go_wp2_with fail
       go_loopw [5,25] (fun sa si wr=>∃ j:Nat,j≤6∧si=.int .i64 j∧sa=.int .i64 ((9+j:Nat):Int)∧OwnV wr w.heap.size ((some ⟨g0,0,none⟩,3,c0),(some ⟨g1,0,none⟩,4,c1),(some ⟨g2,0,none⟩,2,c2),(some ⟨g3,0,none⟩,6,c3)) (partV s (9+j))∧Blk wr gS 33 [.slice (some ⟨g0,0,none⟩) 3 c0,.slice (some ⟨g1,0,none⟩) 4 c1,.slice (some ⟨g2,0,none⟩) 2 c2,.slice (some ⟨g3,0,none⟩) 6 c3]∧Blk wr w.heap.size 33 [.slice none 0 0,.slice none 0 0,.slice none 0 0,.slice none 0 0]∧Below w.heap.size w wr) (fun _ si _=>6 - (intOf si).toNat)
       case atStart=>exact ⟨0,by omega,rfl,rfl,hO,pS,pR,bw⟩
       case round =>
        clear hO pS pR bw
        obtain ⟨j,hj,rfl,rfl,hO,pS,pR,bw⟩:=hrel
        by_cases hlt:j<6
        ·have hix:=idx_btVz s (9+j) (9+(j:Int)) (by omega) (by omega)
         have hbb:=btV_bounds s (9+j)
         have hst:=hO.set3 j (btV s (9+j) - 48)
         rw [partV_3 s hlt] at hst
         have hold:=hO.1.2.2.2.at9 hlt
         have hfz:=hO.1.2.2.2.frz9 j
         have hlo:=hO.1.2.2.2.lo9
         have neS:=hO.1.2.2.2.ne9 pS (by decide)
         have neR:=hO.1.2.2.2.ne9 pR (by decide)
         generalize btV s (9+j)=bx at *
         have pS2:=pS.off ⟨g3,j,none⟩ (.int .i64 (bx - 48)) neS
         have pR2:=pR.off ⟨g3,j,none⟩ (.int .i64 (bx - 48)) neR
         have b2:=bw.setCell (p:=⟨g3,j,none⟩) hlo.1 (.int .i64 (bx - 48))
         have hjI:(j:Int)<6:=by omega
         obtain ⟨old,hold'⟩:∃ u,wr.cell? ⟨g3,j,none⟩=some u:=⟨_,hold⟩
         clear hold hO pS pR bw
         go_wp2
         go_roundw
         case rel=>exact ⟨j+1,by omega,by go_num,by go_num,hst,pS2,pR2,b2⟩
         case measure=>simp [intOf];omega
        ·obtain rfl:j=6:=by omega
         simp only [Nat.reduceAdd] at hO
         have hO':OwnV wr w.heap.size ((some ⟨g0,0,none⟩,3,c0),(some ⟨g1,0,none⟩,4,c1),(some ⟨g2,0,none⟩,2,c2),(some ⟨g3,0,none⟩,6,c3)) bv:=by rw [HBV.out];exact hO
         have kR1:=kR wr (hO'.mem (by rw [HBV.out];exact hfit)) (hV.below bw)
         have e0:=pS.cell 0
         have e1:=pS.cell 1
         have e2:=pS.cell 2
         have e3:=pS.cell 3
         simp only [List.getElem?_cons_zero,List.getElem?_cons_succ] at e0 e1 e2 e3
         clear hO kR y0 y1 y2 y3 hfit HBV
         go_wp2_with fail
         rw [rounds_succ]
         go_wp2_with fail
         refine kR1.mono ?_
         rintro e w3 ⟨rfl,hb⟩
         replace bw:=bel_trans bw hb
         replace pS:=pS.below hb
         replace pR:=pR.below hb
         replace hO':=hO'.below hb
         clear hb e0 e1 e2 e3 kR1
         cases hok:shapeOk bv
         ·obtain rfl:z=([],[],[],[]):=by rw [HZ.out,hok];rfl
          obtain rfl:c=3:=by rw [HC.out,hok];rfl
          clear HZ HC
          go_wp2_with (refine wpList_store_blk rfl 33 _ _ rfl w.heap.size [.slice none 0 0,.slice none 0 0,.slice none 0 0,.slice none 0 0] rfl rfl pR (by kernel_rfl) rfl rfl ?_)
          intro w4 pR4 g4
          replace bw:=bw.grown g4 bw.size (fun x hx=>by cases hx;omega)
          clear g4
          go_wp2_with fail
          refine bodyPost_ret (results_blk2 Tryz.results26 _ _ _ _ _ _ rfl pR4.out Tryz.underlying33 rfl (by kernel_rfl)) rfl ?_
          exact ⟨VmGot.mk9 ((none,0,0),(none,0,0),(none,0,0),(none,0,0)) rfl (ownV_nil _ _),bw⟩
         ·obtain rfl:z=bv:=by rw [HZ.out,hok];rfl
          obtain rfl:c=0:=by rw [HC.out,hok];rfl
          clear HZ HC
          go_wp2_with (first | refine wpList_load_blk rfl 33 _ rfl gS rfl pS _ Tryz.underlying33 rfl (by kernel_rfl) ?_ | refine wpList_store_blk rfl 33 _ _ rfl w.heap.size [.slice (some ⟨g0,0,none⟩) 3 c0,.slice (some ⟨g1,0,none⟩) 4 c1,.slice (some ⟨g2,0,none⟩) 2 c2,.slice (some ⟨g3,0,none⟩) 6 c3] rfl rfl pR (by kernel_rfl) rfl rfl ?_)
          intro w4 pR4 g4
          replace bw:=bw.grown g4 bw.size (fun x hx=>by cases hx;omega)
          replace hO':=hO'.kept9 g4 pR (by decide)
          clear g4
          go_wp2_with fail
          refine bodyPost_ret (results_blk2 Tryz.results26 _ _ _ _ _ _ rfl pR4.out Tryz.underlying33 rfl (by kernel_rfl)) rfl ?_
          exact ⟨VmGot.mk9 ((some ⟨g0,0,none⟩,3,c0),(some ⟨g1,0,none⟩,4,c1),(some ⟨g2,0,none⟩,2,c2),(some ⟨g3,0,none⟩,6,c3)) rfl hO',bw⟩

set_option linter.unusedSimpArgs false

theorem ownV_open {w:World} {B:Nat} {t:S4} {m:V4} (h:OwnV w B t m) (hL:LenOk m):∃ g0 g1 g2 g3 k0 k1 k2 k3,t=((some ⟨g0,0,none⟩,3,k0),(some ⟨g1,0,none⟩,4,k1),(some ⟨g2,0,none⟩,2,k2),(some ⟨g3,0,none⟩,6,k3)):=by
 obtain ⟨s0,s1,s2,s3⟩:=t
 obtain ⟨⟨o0,o1,o2,o3⟩,_⟩:=h
 obtain ⟨g0,c0,e0,_⟩:=o0.some9 (k:=3) hL.1 (by decide)
 obtain ⟨g1,c1,e1,_⟩:=o1.some9 (k:=4) hL.2.1 (by decide)
 obtain ⟨g2,c2,e2,_⟩:=o2.some9 (k:=2) hL.2.2.1 (by decide)
 obtain ⟨g3,c3,e3,_⟩:=o3.some9 (k:=6) hL.2.2.2 (by decide)
 simp only at e0 e1 e2 e3
 exact ⟨g0,g1,g2,g3,c0,c1,c2,c3,by rw [e0,e1,e2,e3]⟩
theorem Blk.away9 {w:World} {g t X j:Nat} {cs:List Value} (h:Blk w g t cs) (v:Value) (hp:g≠X):Blk (w.setCell ⟨X,j,none⟩ v) g t cs:=h.off ⟨X,j,none⟩ v hp

theorem lstep_load (b off len cap b0 o0 c0 b1 o1 c1 b2 o2 c2 b3 o3 c3 k cb co cn cc p:Nat) (a q r:Nat) (vv:Int) (m:V4) (w:World) (hk:k<3) (hlen:len=3) (hp:p<cn) (hp6:p≤6) (hs:shapeOk m=true) (hMm:Vmem w ((some ⟨b0,o0,none⟩,3,c0),(some ⟨b1,o1,none⟩,4,c1),(some ⟨b2,o2,none⟩,2,c2),(some ⟨b3,o3,none⟩,6,c3)) m) (hpc:m.1.getD k 0=p)
  (e0:w.cell? ⟨b,off+k,none⟩=some (.slice (some ⟨cb,co,none⟩) cn cc)) (e1:w.cell? ⟨b0,o0+k,none⟩=some (.int .i64 p)) (q0:w.cell? ⟨cb,co+p*3,none⟩=some (.int .i64 1)) (q1:w.cell? ⟨cb,co+p*3+1,none⟩=some (.int .i64 a)) (q2:w.cell? ⟨cb,co+p*3+2,none⟩=some (.int .i64 q)) (hr6:r<6) (hri:(k:Int)*2+(a:Int)=(r:Int)) (hq:q<4) (hvv:m.2.1.getD q 0=vv) :
  Calls Tryz.prog 99 #[.agg #[.slice (some ⟨b,off,none⟩) len cap],.agg #[.slice (some ⟨b0,o0,none⟩) 3 c0,.slice (some ⟨b1,o1,none⟩) 4 c1,.slice (some ⟨b2,o2,none⟩) 2 c2,.slice (some ⟨b3,o3,none⟩) 6 c3],.int .i64 k] w fun e w'=>VmGot e w' w.heap.size (m.1.set k ((p:Int)+1),m.2.1,m.2.2.1,m.2.2.2.set r vv) 0∧Below w.heap.size w w':=by
 have hL:=LenOk.of hs
 have kO:=fun (W:World) (hb:Below w.heap.size w W)=>l03Own_is ((some ⟨b0,o0,none⟩,3,c0),(some ⟨b1,o1,none⟩,4,c1),(some ⟨b2,o2,none⟩,2,c2),(some ⟨b3,o3,none⟩,6,c3)) m W (hMm.below hb) hs
 have uA:S4.val ((some ⟨b0,o0,none⟩,3,c0),(some ⟨b1,o1,none⟩,4,c1),(some ⟨b2,o2,none⟩,2,c2),(some ⟨b3,o3,none⟩,6,c3))=.agg #[.slice (some ⟨b0,o0,none⟩) 3 c0,.slice (some ⟨b1,o1,none⟩) 4 c1,.slice (some ⟨b2,o2,none⟩) 2 c2,.slice (some ⟨b3,o3,none⟩) 6 c3]:=rfl
 rw [uA] at kO
 clear uA
 have hk3:(k:Int)<3:=by omega
 have hkl:(k:Int)<(len:Int):=by omega
 have hpn:(p:Int)<(cn:Int):=by omega
 clear hlen
 have bw:Below w.heap.size w (((w.alloc (.cells #[.slice (some ⟨b,off,none⟩) len cap] 25)).alloc (.cells #[.slice (some ⟨b0,o0,none⟩) 3 c0,.slice (some ⟨b1,o1,none⟩) 4 c1,.slice (some ⟨b2,o2,none⟩) 2 c2,.slice (some ⟨b3,o3,none⟩) 6 c3] 33)).alloc (.cells #[.slice none 0 0,.slice none 0 0,.slice none 0 0,.slice none 0 0] 33)):=by go_grown
 have pP:Blk (((w.alloc (.cells #[.slice (some ⟨b,off,none⟩) len cap] 25)).alloc (.cells #[.slice (some ⟨b0,o0,none⟩) 3 c0,.slice (some ⟨b1,o1,none⟩) 4 c1,.slice (some ⟨b2,o2,none⟩) 2 c2,.slice (some ⟨b3,o3,none⟩) 6 c3] 33)).alloc (.cells #[.slice none 0 0,.slice none 0 0,.slice none 0 0,.slice none 0 0] 33)) w.heap.size 25 [.slice (some ⟨b,off,none⟩) len cap]:=blkOld _ (blkOld _ (blkAt _ _ _ rfl))
 have pS:Blk (((w.alloc (.cells #[.slice (some ⟨b,off,none⟩) len cap] 25)).alloc (.cells #[.slice (some ⟨b0,o0,none⟩) 3 c0,.slice (some ⟨b1,o1,none⟩) 4 c1,.slice (some ⟨b2,o2,none⟩) 2 c2,.slice (some ⟨b3,o3,none⟩) 6 c3] 33)).alloc (.cells #[.slice none 0 0,.slice none 0 0,.slice none 0 0,.slice none 0 0] 33)) (w.heap.size+1) 33 [.slice (some ⟨b0,o0,none⟩) 3 c0,.slice (some ⟨b1,o1,none⟩) 4 c1,.slice (some ⟨b2,o2,none⟩) 2 c2,.slice (some ⟨b3,o3,none⟩) 6 c3]:=blkOld _ (blkAt _ _ _ (by simp))
 have pR:Blk (((w.alloc (.cells #[.slice (some ⟨b,off,none⟩) len cap] 25)).alloc (.cells #[.slice (some ⟨b0,o0,none⟩) 3 c0,.slice (some ⟨b1,o1,none⟩) 4 c1,.slice (some ⟨b2,o2,none⟩) 2 c2,.slice (some ⟨b3,o3,none⟩) 6 c3] 33)).alloc (.cells #[.slice none 0 0,.slice none 0 0,.slice none 0 0,.slice none 0 0] 33)) (w.heap.size+1+1) 33 [.slice none 0 0,.slice none 0 0,.slice none 0 0,.slice none 0 0]:=blkAt _ _ _ (by simp)
 replace e0:=cells_kept bw _ _ e0
 replace e1:=cells_kept bw _ _ e1
 replace q0:=cells_kept bw _ _ q0
 replace q1:=cells_kept bw _ _ q1
 replace q2:=cells_kept bw _ _ q2
 go_enter Tryz.func99,Tryz.ntmps99
 go_wp2_with fail
 generalize (((w.alloc (.cells #[.slice (some ⟨b,off,none⟩) len cap] 25)).alloc (.cells #[.slice (some ⟨b0,o0,none⟩) 3 c0,.slice (some ⟨b1,o1,none⟩) 4 c1,.slice (some ⟨b2,o2,none⟩) 2 c2,.slice (some ⟨b3,o3,none⟩) 6 c3] 33)).alloc (.cells #[.slice none 0 0,.slice none 0 0,.slice none 0 0,.slice none 0 0] 33))=W0 at *
 have d0:=pP.cell 0
 have d1:=pS.cell 0
 simp only [List.getElem?_cons_zero] at d0 d1
 refine wp_region_held_drew (S:=(fun w'=>w'.cell? ⟨w.heap.size,0,none⟩=some (.slice (some ⟨b,off,none⟩) len cap)∧w'.cell? ⟨w.heap.size+1,0,none⟩=some (.slice (some ⟨b0,o0,none⟩) 3 c0)∧w'.cell? ⟨b,off+k,none⟩=some (.slice (some ⟨cb,co,none⟩) cn cc)∧w'.cell? ⟨b0,o0+k,none⟩=some (.int .i64 p)∧w'.cell? ⟨cb,co+p*3,none⟩=some (.int .i64 1)∧w'.cell? ⟨cb,co+p*3+1,none⟩=some (.int .i64 a)∧w'.cell? ⟨cb,co+p*3+2,none⟩=some (.int .i64 q))) (by kernel_rfl) ⟨d0,d1,e0,e1,q0,q1,q2⟩ (fun hS0=>?_)
 refine tkm 0 10 (.pointer (some ⟨w.heap.size,0,none⟩)) ?_
 refine tkm 1 11 (.slice (some ⟨b,off,none⟩) len cap) ?_
 refine tkm 2 12 (.int .i64 k) ?_
 refine tkm 3 13 (.pointer (some ⟨b,off+k,none⟩)) ?_
 refine tkm 4 14 (.slice (some ⟨cb,co,none⟩) cn cc) ?_
 refine tkm 5 15 (.pointer (some ⟨w.heap.size+1,0,none⟩)) ?_
 refine tkm 6 16 (.slice (some ⟨b0,o0,none⟩) 3 c0) ?_
 refine tkm 7 17 (.int .i64 k) ?_
 refine tkm 8 18 (.pointer (some ⟨b0,o0+k,none⟩)) ?_
 refine tkm 9 19 (.int .i64 p) ?_
 refine tkm 10 20 (.pointer (some ⟨cb,co+p*3,none⟩)) ?_
 refine tkm 11 21 (.agg #[.int .i64 1,.int .i64 a,.int .i64 q]) ?_
 refine tkr 12 8 (fun K hK=>?_)
 have hal:Below W0.drew.heap.size W0.drew (W0.drew.alloc (.cells #[.int .i64 0,.int .i64 0,.int .i64 0] 159)):=by go_grown
 go_simp
 refine hK.out _ _ ?_ (fun hS1=>?_)
 ·exact ⟨cells_kept hal _ _ hS0.1,cells_kept hal _ _ hS0.2.1,cells_kept hal _ _ hS0.2.2.1,cells_kept hal _ _ hS0.2.2.2.1,cells_kept hal _ _ hS0.2.2.2.2.1,cells_kept hal _ _ hS0.2.2.2.2.2.1,cells_kept hal _ _ hS0.2.2.2.2.2.2⟩
 clear hK
 try simp only [Act.put,tka,tkb,tkc]
 refine tkz 13 (fun K hK=>?_)
 have hal2:Below W0.drew.heap.size W0.drew (W0.drew.alloc (.cells #[.int .i64 1,.int .i64 a,.int .i64 q] 159)):=by go_grown
 go_simp
 refine hK.out _ _ ?_ (fun hS2=>?_)
 ·exact ⟨cells_kept hal2 _ _ hS0.1,cells_kept hal2 _ _ hS0.2.1,cells_kept hal2 _ _ hS0.2.2.1,cells_kept hal2 _ _ hS0.2.2.2.1,cells_kept hal2 _ _ hS0.2.2.2.2.1,cells_kept hal2 _ _ hS0.2.2.2.2.2.1,cells_kept hal2 _ _ hS0.2.2.2.2.2.2⟩
 clear hK
 try simp only [Act.put,tka,tkb,tkc]
 refine wpAnyH_done (by kernel_rfl) ?_ _
 clear hal hal2 hS0 hS1 hS2 e0 e1 q0 q1 q2 d0 d1
 have bx:Below W0.heap.size W0 (W0.alloc (.cells #[.int .i64 1,.int .i64 a,.int .i64 q] 159)).drew:=by go_grown
 have pX:Blk (W0.alloc (.cells #[.int .i64 1,.int .i64 a,.int .i64 q] 159)).drew W0.heap.size 159 [.int .i64 1,.int .i64 a,.int .i64 q]:=Blk.new W0 159 [.int .i64 1,.int .i64 a,.int .i64 q]
 have hgX:=pR.lt
 replace bw:=bel_trans bw bx
 replace pS:=pS.below bx
 replace pR:=pR.below bx
 clear bx pP
 generalize (W0.alloc (.cells #[.int .i64 1,.int .i64 a,.int .i64 q] 159)).drew=W1 at *
 generalize W0.heap.size=gX at *
 have kO1:=kO W1 bw
 clear kO
 go_wp2_with (refine wpList_load_blk rfl 33 _ rfl (w.heap.size+1) rfl pS _ Tryz.underlying33 rfl (by kernel_rfl) ?_)
 refine kO1.mono ?_
 rintro e w2 ⟨⟨t,rfl,hO⟩,hb⟩
 clear kO1
 obtain ⟨g0,g1,g2,g3,k0,k1,k2,k3,rfl⟩:=ownV_open hO hL
 have uX:S4.val ((some ⟨g0,0,none⟩,3,k0),(some ⟨g1,0,none⟩,4,k1),(some ⟨g2,0,none⟩,2,k2),(some ⟨g3,0,none⟩,6,k3))=.agg #[.slice (some ⟨g0,0,none⟩) 3 k0,.slice (some ⟨g1,0,none⟩) 4 k1,.slice (some ⟨g2,0,none⟩) 2 k2,.slice (some ⟨g3,0,none⟩) 6 k3]:=rfl
 rw [uX]
 clear uX
 replace hO:=hO.lower9 bw.size
 replace bw:=bel_trans bw hb
 replace pS:=pS.below hb
 replace pR:=pR.below hb
 replace pX:=pX.below hb
 clear hb
 go_wp2_with (refine wpList_store_blk rfl 33 _ _ rfl (w.heap.size+1) [.slice (some ⟨g0,0,none⟩) 3 k0,.slice (some ⟨g1,0,none⟩) 4 k1,.slice (some ⟨g2,0,none⟩) 2 k2,.slice (some ⟨g3,0,none⟩) 6 k3] rfl rfl pS (by kernel_rfl) rfl rfl ?_)
 intro w3 pS3 gr
 replace bw:=bw.grown gr bw.size (fun x hx=>by cases hx;omega)
 replace hO:=hO.kept9 gr pS (by decide)
 replace pR:=pR.kept gr (by simp)
 replace pX:=pX.kept gr (by simp;omega)
 clear gr pS
 have pS:=pS3.out
 clear pS3
 have neS0:=hO.1.1.ne9 pS (by decide)
 have neR0:=hO.1.1.ne9 pR (by decide)
 have neX0:=hO.1.1.ne9 pX (by decide)
 have neS1:=hO.1.2.1.ne9 pS (by decide)
 have neR1:=hO.1.2.1.ne9 pR (by decide)
 have neS2:=hO.1.2.2.1.ne9 pS (by decide)
 have neR2:=hO.1.2.2.1.ne9 pR (by decide)
 have neS3:=hO.1.2.2.2.ne9 pS (by decide)
 have neR3:=hO.1.2.2.2.ne9 pR (by decide)
 have lo0:=hO.1.1.lo9.1
 have s0:w3.cell? ⟨w.heap.size+1,0,none⟩=some (.slice (some ⟨g0,0,none⟩) 3 k0):=by simpa using pS.cell 0
 have y0:w3.cell? ⟨g0,k,none⟩=some (.int .i64 (p:Int)):=(hO.1.1.at9 hk).trans (congrArg (fun z=>some (Value.int .i64 z)) hpc)
 have fz0:=hO.1.1.frz9 k
 have hO3:=hO.set0 k ((p:Int)+1)
 have pS3:=pS.away9 (j:=k) (.int .i64 ((p:Int)+1)) neS0
 have pR3:=pR.away9 (j:=k) (.int .i64 ((p:Int)+1)) neR0
 have pX3:=pX.away9 (j:=k) (.int .i64 ((p:Int)+1)) neX0
 have b3:=bw.setCell (p:=⟨g0,k,none⟩) lo0 (.int .i64 ((p:Int)+1))
 have hpw:IntKind.i64.wrap ((p:Int)+1)=(p:Int)+1:=IntWalk.i64_in _ (by omega)
 have hkw:IntKind.i64.wrap ((k:Int)*2)=(k:Int)*2:=IntWalk.i64_in _ (by omega)
 clear hO pS pR pX bw neS0 neR0 neX0
 have v0:=pS3.cell 0
 have v1:=pS3.cell 1
 have v2:=pS3.cell 2
 have v3:=pS3.cell 3
 have u0:=pX3.cell 0
 have u1:=pX3.cell 1
 have u2:=pX3.cell 2
 simp only [List.getElem?_cons_zero,List.getElem?_cons_succ] at v0 v1 v2 v3 u0 u1 u2
 have hr6':(r:Int)<6:=by omega
 have hrw:IntKind.i64.wrap ((r:Int))=(r:Int):=IntWalk.i64_in _ (by omega)
 have hq4:(q:Int)<4:=by omega
 have r1:(w3.setCell ⟨g0,k,none⟩ (.int .i64 ((p:Int)+1))).cell? ⟨g1,q,none⟩=some (.int .i64 vv):=(hO3.1.2.1.at9 hq).trans (congrArg (fun z=>some (Value.int .i64 z)) hvv)
 obtain ⟨old,w0⟩:∃ u,(w3.setCell ⟨g0,k,none⟩ (.int .i64 ((p:Int)+1))).cell? ⟨g3,r,none⟩=some u:=⟨_,hO3.1.2.2.2.at9 hr6⟩
 have wf:=hO3.1.2.2.2.frz9 r
 have lo4:=hO3.1.2.2.2.lo9.1
 have hO4:=hO3.set3 r vv
 have pS4:=pS3.away9 (X:=g3) (j:=r) (.int .i64 vv) neS3
 have pR4:=pR3.away9 (X:=g3) (j:=r) (.int .i64 vv) neR3
 have b4:=b3.setCell (p:=⟨g3,r,none⟩) lo4 (.int .i64 vv)
 simp only at hO4
 clear hvv hO3 pS3 pR3 b3 pX3
 go_wp2_with fail
 generalize (w3.setCell ⟨g0,k,none⟩ (.int .i64 ((p:Int)+1)))=W3 at *
 go_region
 have hO5:OwnV (W3.setCell ⟨g3,r,none⟩ (.int .i64 vv)).drew w.heap.size ((some ⟨g0,0,none⟩,3,k0),(some ⟨g1,0,none⟩,4,k1),(some ⟨g2,0,none⟩,2,k2),(some ⟨g3,0,none⟩,6,k3)) _:=hO4
 have pS5:Blk (W3.setCell ⟨g3,r,none⟩ (.int .i64 vv)).drew (w.heap.size+1) 33 [.slice (some ⟨g0,0,none⟩) 3 k0,.slice (some ⟨g1,0,none⟩) 4 k1,.slice (some ⟨g2,0,none⟩) 2 k2,.slice (some ⟨g3,0,none⟩) 6 k3]:=pS4
 have pR5:Blk (W3.setCell ⟨g3,r,none⟩ (.int .i64 vv)).drew (w.heap.size+1+1) 33 [.slice none 0 0,.slice none 0 0,.slice none 0 0,.slice none 0 0]:=pR4
 have b5:Below w.heap.size w (W3.setCell ⟨g3,r,none⟩ (.int .i64 vv)).drew:=b4.drew
 clear hO4 pS4 pR4 b4 v0 v1 v2 v3 u0 u1 u2 s0 y0 fz0
 have hO4:=hO5
 have pS4:=pS5
 have pR4:=pR5
 have b4:=b5
 clear hO5 pS5 pR5 b5
 generalize (W3.setCell ⟨g3,r,none⟩ (.int .i64 vv)).drew=W4 at *
 go_wp2_with (first | refine wpList_load_blk rfl 33 _ rfl (w.heap.size+1) rfl pS4 _ Tryz.underlying33 rfl (by kernel_rfl) ?_ | refine wpList_store_blk rfl 33 _ _ rfl (w.heap.size+1+1) [.slice (some ⟨g0,0,none⟩) 3 k0,.slice (some ⟨g1,0,none⟩) 4 k1,.slice (some ⟨g2,0,none⟩) 2 k2,.slice (some ⟨g3,0,none⟩) 6 k3] rfl rfl pR4 (by kernel_rfl) rfl rfl ?_)
 intro w9 pR9 gr9
 replace b4:=b4.grown gr9 b4.size (fun x hx=>by cases hx;omega)
 replace hO4:=hO4.kept9 gr9 pR4 (by decide)
 clear gr9 pR4 pS4
 go_wp2_with fail
 refine bodyPost_ret (results_blk2 Tryz.results99 _ _ _ _ _ _ rfl pR9.out Tryz.underlying33 rfl (by kernel_rfl)) rfl ?_
 exact ⟨VmGot.mk9 ((some ⟨g0,0,none⟩,3,k0),(some ⟨g1,0,none⟩,4,k1),(some ⟨g2,0,none⟩,2,k2),(some ⟨g3,0,none⟩,6,k3)) rfl hO4,b4⟩

theorem lstep_store (b off len cap b0 o0 c0 b1 o1 c1 b2 o2 c2 b3 o3 c3 k cb co cn cc p:Nat) (a q r:Nat) (vv:Int) (m:V4) (w:World) (hk:k<3) (hlen:len=3) (hp:p<cn) (hp6:p≤6) (hs:shapeOk m=true) (hMm:Vmem w ((some ⟨b0,o0,none⟩,3,c0),(some ⟨b1,o1,none⟩,4,c1),(some ⟨b2,o2,none⟩,2,c2),(some ⟨b3,o3,none⟩,6,c3)) m) (hpc:m.1.getD k 0=p)
  (e0:w.cell? ⟨b,off+k,none⟩=some (.slice (some ⟨cb,co,none⟩) cn cc)) (e1:w.cell? ⟨b0,o0+k,none⟩=some (.int .i64 p)) (q0:w.cell? ⟨cb,co+p*3,none⟩=some (.int .i64 2)) (q1:w.cell? ⟨cb,co+p*3+1,none⟩=some (.int .i64 q)) (q2:w.cell? ⟨cb,co+p*3+2,none⟩=some (.int .i64 a)) (hr6:r<6) (hri:(k:Int)*2+(a:Int)=(r:Int)) (hq:q<4) (hvv:m.2.2.2.getD r 0=vv) :
  Calls Tryz.prog 99 #[.agg #[.slice (some ⟨b,off,none⟩) len cap],.agg #[.slice (some ⟨b0,o0,none⟩) 3 c0,.slice (some ⟨b1,o1,none⟩) 4 c1,.slice (some ⟨b2,o2,none⟩) 2 c2,.slice (some ⟨b3,o3,none⟩) 6 c3],.int .i64 k] w fun e w'=>VmGot e w' w.heap.size (m.1.set k ((p:Int)+1),m.2.1.set q vv,m.2.2.1,m.2.2.2) 0∧Below w.heap.size w w':=by
 have hL:=LenOk.of hs
 have kO:=fun (W:World) (hb:Below w.heap.size w W)=>l03Own_is ((some ⟨b0,o0,none⟩,3,c0),(some ⟨b1,o1,none⟩,4,c1),(some ⟨b2,o2,none⟩,2,c2),(some ⟨b3,o3,none⟩,6,c3)) m W (hMm.below hb) hs
 have uA:S4.val ((some ⟨b0,o0,none⟩,3,c0),(some ⟨b1,o1,none⟩,4,c1),(some ⟨b2,o2,none⟩,2,c2),(some ⟨b3,o3,none⟩,6,c3))=.agg #[.slice (some ⟨b0,o0,none⟩) 3 c0,.slice (some ⟨b1,o1,none⟩) 4 c1,.slice (some ⟨b2,o2,none⟩) 2 c2,.slice (some ⟨b3,o3,none⟩) 6 c3]:=rfl
 rw [uA] at kO
 clear uA
 have hk3:(k:Int)<3:=by omega
 have hkl:(k:Int)<(len:Int):=by omega
 have hpn:(p:Int)<(cn:Int):=by omega
 clear hlen
 have bw:Below w.heap.size w (((w.alloc (.cells #[.slice (some ⟨b,off,none⟩) len cap] 25)).alloc (.cells #[.slice (some ⟨b0,o0,none⟩) 3 c0,.slice (some ⟨b1,o1,none⟩) 4 c1,.slice (some ⟨b2,o2,none⟩) 2 c2,.slice (some ⟨b3,o3,none⟩) 6 c3] 33)).alloc (.cells #[.slice none 0 0,.slice none 0 0,.slice none 0 0,.slice none 0 0] 33)):=by go_grown
 have pP:Blk (((w.alloc (.cells #[.slice (some ⟨b,off,none⟩) len cap] 25)).alloc (.cells #[.slice (some ⟨b0,o0,none⟩) 3 c0,.slice (some ⟨b1,o1,none⟩) 4 c1,.slice (some ⟨b2,o2,none⟩) 2 c2,.slice (some ⟨b3,o3,none⟩) 6 c3] 33)).alloc (.cells #[.slice none 0 0,.slice none 0 0,.slice none 0 0,.slice none 0 0] 33)) w.heap.size 25 [.slice (some ⟨b,off,none⟩) len cap]:=blkOld _ (blkOld _ (blkAt _ _ _ rfl))
 have pS:Blk (((w.alloc (.cells #[.slice (some ⟨b,off,none⟩) len cap] 25)).alloc (.cells #[.slice (some ⟨b0,o0,none⟩) 3 c0,.slice (some ⟨b1,o1,none⟩) 4 c1,.slice (some ⟨b2,o2,none⟩) 2 c2,.slice (some ⟨b3,o3,none⟩) 6 c3] 33)).alloc (.cells #[.slice none 0 0,.slice none 0 0,.slice none 0 0,.slice none 0 0] 33)) (w.heap.size+1) 33 [.slice (some ⟨b0,o0,none⟩) 3 c0,.slice (some ⟨b1,o1,none⟩) 4 c1,.slice (some ⟨b2,o2,none⟩) 2 c2,.slice (some ⟨b3,o3,none⟩) 6 c3]:=blkOld _ (blkAt _ _ _ (by simp))
 have pR:Blk (((w.alloc (.cells #[.slice (some ⟨b,off,none⟩) len cap] 25)).alloc (.cells #[.slice (some ⟨b0,o0,none⟩) 3 c0,.slice (some ⟨b1,o1,none⟩) 4 c1,.slice (some ⟨b2,o2,none⟩) 2 c2,.slice (some ⟨b3,o3,none⟩) 6 c3] 33)).alloc (.cells #[.slice none 0 0,.slice none 0 0,.slice none 0 0,.slice none 0 0] 33)) (w.heap.size+1+1) 33 [.slice none 0 0,.slice none 0 0,.slice none 0 0,.slice none 0 0]:=blkAt _ _ _ (by simp)
 replace e0:=cells_kept bw _ _ e0
 replace e1:=cells_kept bw _ _ e1
 replace q0:=cells_kept bw _ _ q0
 replace q1:=cells_kept bw _ _ q1
 replace q2:=cells_kept bw _ _ q2
 go_enter Tryz.func99,Tryz.ntmps99
 go_wp2_with fail
 generalize (((w.alloc (.cells #[.slice (some ⟨b,off,none⟩) len cap] 25)).alloc (.cells #[.slice (some ⟨b0,o0,none⟩) 3 c0,.slice (some ⟨b1,o1,none⟩) 4 c1,.slice (some ⟨b2,o2,none⟩) 2 c2,.slice (some ⟨b3,o3,none⟩) 6 c3] 33)).alloc (.cells #[.slice none 0 0,.slice none 0 0,.slice none 0 0,.slice none 0 0] 33))=W0 at *
 have d0:=pP.cell 0
 have d1:=pS.cell 0
 simp only [List.getElem?_cons_zero] at d0 d1
 refine wp_region_held_drew (S:=(fun w'=>w'.cell? ⟨w.heap.size,0,none⟩=some (.slice (some ⟨b,off,none⟩) len cap)∧w'.cell? ⟨w.heap.size+1,0,none⟩=some (.slice (some ⟨b0,o0,none⟩) 3 c0)∧w'.cell? ⟨b,off+k,none⟩=some (.slice (some ⟨cb,co,none⟩) cn cc)∧w'.cell? ⟨b0,o0+k,none⟩=some (.int .i64 p)∧w'.cell? ⟨cb,co+p*3,none⟩=some (.int .i64 2)∧w'.cell? ⟨cb,co+p*3+1,none⟩=some (.int .i64 q)∧w'.cell? ⟨cb,co+p*3+2,none⟩=some (.int .i64 a))) (by kernel_rfl) ⟨d0,d1,e0,e1,q0,q1,q2⟩ (fun hS0=>?_)
 refine tkm 0 10 (.pointer (some ⟨w.heap.size,0,none⟩)) ?_
 refine tkm 1 11 (.slice (some ⟨b,off,none⟩) len cap) ?_
 refine tkm 2 12 (.int .i64 k) ?_
 refine tkm 3 13 (.pointer (some ⟨b,off+k,none⟩)) ?_
 refine tkm 4 14 (.slice (some ⟨cb,co,none⟩) cn cc) ?_
 refine tkm 5 15 (.pointer (some ⟨w.heap.size+1,0,none⟩)) ?_
 refine tkm 6 16 (.slice (some ⟨b0,o0,none⟩) 3 c0) ?_
 refine tkm 7 17 (.int .i64 k) ?_
 refine tkm 8 18 (.pointer (some ⟨b0,o0+k,none⟩)) ?_
 refine tkm 9 19 (.int .i64 p) ?_
 refine tkm 10 20 (.pointer (some ⟨cb,co+p*3,none⟩)) ?_
 refine tkm 11 21 (.agg #[.int .i64 2,.int .i64 q,.int .i64 a]) ?_
 refine tkr 12 8 (fun K hK=>?_)
 have hal:Below W0.drew.heap.size W0.drew (W0.drew.alloc (.cells #[.int .i64 0,.int .i64 0,.int .i64 0] 159)):=by go_grown
 go_simp
 refine hK.out _ _ ?_ (fun hS1=>?_)
 ·exact ⟨cells_kept hal _ _ hS0.1,cells_kept hal _ _ hS0.2.1,cells_kept hal _ _ hS0.2.2.1,cells_kept hal _ _ hS0.2.2.2.1,cells_kept hal _ _ hS0.2.2.2.2.1,cells_kept hal _ _ hS0.2.2.2.2.2.1,cells_kept hal _ _ hS0.2.2.2.2.2.2⟩
 clear hK
 try simp only [Act.put,tka,tkb,tkc]
 refine tkz 13 (fun K hK=>?_)
 have hal2:Below W0.drew.heap.size W0.drew (W0.drew.alloc (.cells #[.int .i64 2,.int .i64 q,.int .i64 a] 159)):=by go_grown
 go_simp
 refine hK.out _ _ ?_ (fun hS2=>?_)
 ·exact ⟨cells_kept hal2 _ _ hS0.1,cells_kept hal2 _ _ hS0.2.1,cells_kept hal2 _ _ hS0.2.2.1,cells_kept hal2 _ _ hS0.2.2.2.1,cells_kept hal2 _ _ hS0.2.2.2.2.1,cells_kept hal2 _ _ hS0.2.2.2.2.2.1,cells_kept hal2 _ _ hS0.2.2.2.2.2.2⟩
 clear hK
 try simp only [Act.put,tka,tkb,tkc]
 refine wpAnyH_done (by kernel_rfl) ?_ _
 clear hal hal2 hS0 hS1 hS2 e0 e1 q0 q1 q2 d0 d1
 have bx:Below W0.heap.size W0 (W0.alloc (.cells #[.int .i64 2,.int .i64 q,.int .i64 a] 159)).drew:=by go_grown
 have pX:Blk (W0.alloc (.cells #[.int .i64 2,.int .i64 q,.int .i64 a] 159)).drew W0.heap.size 159 [.int .i64 2,.int .i64 q,.int .i64 a]:=Blk.new W0 159 [.int .i64 2,.int .i64 q,.int .i64 a]
 have hgX:=pR.lt
 replace bw:=bel_trans bw bx
 replace pS:=pS.below bx
 replace pR:=pR.below bx
 clear bx pP
 generalize (W0.alloc (.cells #[.int .i64 2,.int .i64 q,.int .i64 a] 159)).drew=W1 at *
 generalize W0.heap.size=gX at *
 have kO1:=kO W1 bw
 clear kO
 go_wp2_with (refine wpList_load_blk rfl 33 _ rfl (w.heap.size+1) rfl pS _ Tryz.underlying33 rfl (by kernel_rfl) ?_)
 refine kO1.mono ?_
 rintro e w2 ⟨⟨t,rfl,hO⟩,hb⟩
 clear kO1
 obtain ⟨g0,g1,g2,g3,k0,k1,k2,k3,rfl⟩:=ownV_open hO hL
 have uX:S4.val ((some ⟨g0,0,none⟩,3,k0),(some ⟨g1,0,none⟩,4,k1),(some ⟨g2,0,none⟩,2,k2),(some ⟨g3,0,none⟩,6,k3))=.agg #[.slice (some ⟨g0,0,none⟩) 3 k0,.slice (some ⟨g1,0,none⟩) 4 k1,.slice (some ⟨g2,0,none⟩) 2 k2,.slice (some ⟨g3,0,none⟩) 6 k3]:=rfl
 rw [uX]
 clear uX
 replace hO:=hO.lower9 bw.size
 replace bw:=bel_trans bw hb
 replace pS:=pS.below hb
 replace pR:=pR.below hb
 replace pX:=pX.below hb
 clear hb
 go_wp2_with (refine wpList_store_blk rfl 33 _ _ rfl (w.heap.size+1) [.slice (some ⟨g0,0,none⟩) 3 k0,.slice (some ⟨g1,0,none⟩) 4 k1,.slice (some ⟨g2,0,none⟩) 2 k2,.slice (some ⟨g3,0,none⟩) 6 k3] rfl rfl pS (by kernel_rfl) rfl rfl ?_)
 intro w3 pS3 gr
 replace bw:=bw.grown gr bw.size (fun x hx=>by cases hx;omega)
 replace hO:=hO.kept9 gr pS (by decide)
 replace pR:=pR.kept gr (by simp)
 replace pX:=pX.kept gr (by simp;omega)
 clear gr pS
 have pS:=pS3.out
 clear pS3
 have neS0:=hO.1.1.ne9 pS (by decide)
 have neR0:=hO.1.1.ne9 pR (by decide)
 have neX0:=hO.1.1.ne9 pX (by decide)
 have neS1:=hO.1.2.1.ne9 pS (by decide)
 have neR1:=hO.1.2.1.ne9 pR (by decide)
 have neS2:=hO.1.2.2.1.ne9 pS (by decide)
 have neR2:=hO.1.2.2.1.ne9 pR (by decide)
 have neS3:=hO.1.2.2.2.ne9 pS (by decide)
 have neR3:=hO.1.2.2.2.ne9 pR (by decide)
 have lo0:=hO.1.1.lo9.1
 have s0:w3.cell? ⟨w.heap.size+1,0,none⟩=some (.slice (some ⟨g0,0,none⟩) 3 k0):=by simpa using pS.cell 0
 have y0:w3.cell? ⟨g0,k,none⟩=some (.int .i64 (p:Int)):=(hO.1.1.at9 hk).trans (congrArg (fun z=>some (Value.int .i64 z)) hpc)
 have fz0:=hO.1.1.frz9 k
 have hO3:=hO.set0 k ((p:Int)+1)
 have pS3:=pS.away9 (j:=k) (.int .i64 ((p:Int)+1)) neS0
 have pR3:=pR.away9 (j:=k) (.int .i64 ((p:Int)+1)) neR0
 have pX3:=pX.away9 (j:=k) (.int .i64 ((p:Int)+1)) neX0
 have b3:=bw.setCell (p:=⟨g0,k,none⟩) lo0 (.int .i64 ((p:Int)+1))
 have hpw:IntKind.i64.wrap ((p:Int)+1)=(p:Int)+1:=IntWalk.i64_in _ (by omega)
 have hkw:IntKind.i64.wrap ((k:Int)*2)=(k:Int)*2:=IntWalk.i64_in _ (by omega)
 clear hO pS pR pX bw neS0 neR0 neX0
 have v0:=pS3.cell 0
 have v1:=pS3.cell 1
 have v2:=pS3.cell 2
 have v3:=pS3.cell 3
 have u0:=pX3.cell 0
 have u1:=pX3.cell 1
 have u2:=pX3.cell 2
 simp only [List.getElem?_cons_zero,List.getElem?_cons_succ] at v0 v1 v2 v3 u0 u1 u2
 have hr6':(r:Int)<6:=by omega
 have hrw:IntKind.i64.wrap ((r:Int))=(r:Int):=IntWalk.i64_in _ (by omega)
 have hq4:(q:Int)<4:=by omega
 have r1:(w3.setCell ⟨g0,k,none⟩ (.int .i64 ((p:Int)+1))).cell? ⟨g3,r,none⟩=some (.int .i64 vv):=(hO3.1.2.2.2.at9 hr6).trans (congrArg (fun z=>some (Value.int .i64 z)) hvv)
 obtain ⟨old,w0⟩:∃ u,(w3.setCell ⟨g0,k,none⟩ (.int .i64 ((p:Int)+1))).cell? ⟨g1,q,none⟩=some u:=⟨_,hO3.1.2.1.at9 hq⟩
 have wf:=hO3.1.2.1.frz9 q
 have lo4:=hO3.1.2.1.lo9.1
 have hO4:=hO3.set1 q vv
 have pS4:=pS3.away9 (X:=g1) (j:=q) (.int .i64 vv) neS1
 have pR4:=pR3.away9 (X:=g1) (j:=q) (.int .i64 vv) neR1
 have b4:=b3.setCell (p:=⟨g1,q,none⟩) lo4 (.int .i64 vv)
 simp only at hO4
 clear hvv hO3 pS3 pR3 b3 pX3
 go_wp2_with fail
 generalize (w3.setCell ⟨g0,k,none⟩ (.int .i64 ((p:Int)+1)))=W3 at *
 go_region
 have hO5:OwnV (W3.setCell ⟨g1,q,none⟩ (.int .i64 vv)).drew w.heap.size ((some ⟨g0,0,none⟩,3,k0),(some ⟨g1,0,none⟩,4,k1),(some ⟨g2,0,none⟩,2,k2),(some ⟨g3,0,none⟩,6,k3)) _:=hO4
 have pS5:Blk (W3.setCell ⟨g1,q,none⟩ (.int .i64 vv)).drew (w.heap.size+1) 33 [.slice (some ⟨g0,0,none⟩) 3 k0,.slice (some ⟨g1,0,none⟩) 4 k1,.slice (some ⟨g2,0,none⟩) 2 k2,.slice (some ⟨g3,0,none⟩) 6 k3]:=pS4
 have pR5:Blk (W3.setCell ⟨g1,q,none⟩ (.int .i64 vv)).drew (w.heap.size+1+1) 33 [.slice none 0 0,.slice none 0 0,.slice none 0 0,.slice none 0 0]:=pR4
 have b5:Below w.heap.size w (W3.setCell ⟨g1,q,none⟩ (.int .i64 vv)).drew:=b4.drew
 clear hO4 pS4 pR4 b4 v0 v1 v2 v3 u0 u1 u2 s0 y0 fz0
 have hO4:=hO5
 have pS4:=pS5
 have pR4:=pR5
 have b4:=b5
 clear hO5 pS5 pR5 b5
 generalize (W3.setCell ⟨g1,q,none⟩ (.int .i64 vv)).drew=W4 at *
 go_wp2_with (first | refine wpList_load_blk rfl 33 _ rfl (w.heap.size+1) rfl pS4 _ Tryz.underlying33 rfl (by kernel_rfl) ?_ | refine wpList_store_blk rfl 33 _ _ rfl (w.heap.size+1+1) [.slice (some ⟨g0,0,none⟩) 3 k0,.slice (some ⟨g1,0,none⟩) 4 k1,.slice (some ⟨g2,0,none⟩) 2 k2,.slice (some ⟨g3,0,none⟩) 6 k3] rfl rfl pR4 (by kernel_rfl) rfl rfl ?_)
 intro w9 pR9 gr9
 replace b4:=b4.grown gr9 b4.size (fun x hx=>by cases hx;omega)
 replace hO4:=hO4.kept9 gr9 pR4 (by decide)
 clear gr9 pR4 pS4
 go_wp2_with fail
 refine bodyPost_ret (results_blk2 Tryz.results99 _ _ _ _ _ _ rfl pR9.out Tryz.underlying33 rfl (by kernel_rfl)) rfl ?_
 exact ⟨VmGot.mk9 ((some ⟨g0,0,none⟩,3,k0),(some ⟨g1,0,none⟩,4,k1),(some ⟨g2,0,none⟩,2,k2),(some ⟨g3,0,none⟩,6,k3)) rfl hO4,b4⟩

theorem lstep_set (b off len cap b0 o0 c0 b1 o1 c1 b2 o2 c2 b3 o3 c3 k cb co cn cc p:Nat) (a r:Nat) (z:Int) (m:V4) (w:World) (hk:k<3) (hlen:len=3) (hp:p<cn) (hp6:p≤6) (hs:shapeOk m=true) (hMm:Vmem w ((some ⟨b0,o0,none⟩,3,c0),(some ⟨b1,o1,none⟩,4,c1),(some ⟨b2,o2,none⟩,2,c2),(some ⟨b3,o3,none⟩,6,c3)) m) (hpc:m.1.getD k 0=p)
  (e0:w.cell? ⟨b,off+k,none⟩=some (.slice (some ⟨cb,co,none⟩) cn cc)) (e1:w.cell? ⟨b0,o0+k,none⟩=some (.int .i64 p)) (q0:w.cell? ⟨cb,co+p*3,none⟩=some (.int .i64 3)) (q1:w.cell? ⟨cb,co+p*3+1,none⟩=some (.int .i64 a)) (q2:w.cell? ⟨cb,co+p*3+2,none⟩=some (.int .i64 z)) (hr6:r<6) (hri:(k:Int)*2+(a:Int)=(r:Int)) :
  Calls Tryz.prog 99 #[.agg #[.slice (some ⟨b,off,none⟩) len cap],.agg #[.slice (some ⟨b0,o0,none⟩) 3 c0,.slice (some ⟨b1,o1,none⟩) 4 c1,.slice (some ⟨b2,o2,none⟩) 2 c2,.slice (some ⟨b3,o3,none⟩) 6 c3],.int .i64 k] w fun e w'=>VmGot e w' w.heap.size (m.1.set k ((p:Int)+1),m.2.1,m.2.2.1,m.2.2.2.set r z) 0∧Below w.heap.size w w':=by
 have hL:=LenOk.of hs
 have kO:=fun (W:World) (hb:Below w.heap.size w W)=>l03Own_is ((some ⟨b0,o0,none⟩,3,c0),(some ⟨b1,o1,none⟩,4,c1),(some ⟨b2,o2,none⟩,2,c2),(some ⟨b3,o3,none⟩,6,c3)) m W (hMm.below hb) hs
 have uA:S4.val ((some ⟨b0,o0,none⟩,3,c0),(some ⟨b1,o1,none⟩,4,c1),(some ⟨b2,o2,none⟩,2,c2),(some ⟨b3,o3,none⟩,6,c3))=.agg #[.slice (some ⟨b0,o0,none⟩) 3 c0,.slice (some ⟨b1,o1,none⟩) 4 c1,.slice (some ⟨b2,o2,none⟩) 2 c2,.slice (some ⟨b3,o3,none⟩) 6 c3]:=rfl
 rw [uA] at kO
 clear uA
 have hk3:(k:Int)<3:=by omega
 have hkl:(k:Int)<(len:Int):=by omega
 have hpn:(p:Int)<(cn:Int):=by omega
 clear hlen
 have bw:Below w.heap.size w (((w.alloc (.cells #[.slice (some ⟨b,off,none⟩) len cap] 25)).alloc (.cells #[.slice (some ⟨b0,o0,none⟩) 3 c0,.slice (some ⟨b1,o1,none⟩) 4 c1,.slice (some ⟨b2,o2,none⟩) 2 c2,.slice (some ⟨b3,o3,none⟩) 6 c3] 33)).alloc (.cells #[.slice none 0 0,.slice none 0 0,.slice none 0 0,.slice none 0 0] 33)):=by go_grown
 have pP:Blk (((w.alloc (.cells #[.slice (some ⟨b,off,none⟩) len cap] 25)).alloc (.cells #[.slice (some ⟨b0,o0,none⟩) 3 c0,.slice (some ⟨b1,o1,none⟩) 4 c1,.slice (some ⟨b2,o2,none⟩) 2 c2,.slice (some ⟨b3,o3,none⟩) 6 c3] 33)).alloc (.cells #[.slice none 0 0,.slice none 0 0,.slice none 0 0,.slice none 0 0] 33)) w.heap.size 25 [.slice (some ⟨b,off,none⟩) len cap]:=blkOld _ (blkOld _ (blkAt _ _ _ rfl))
 have pS:Blk (((w.alloc (.cells #[.slice (some ⟨b,off,none⟩) len cap] 25)).alloc (.cells #[.slice (some ⟨b0,o0,none⟩) 3 c0,.slice (some ⟨b1,o1,none⟩) 4 c1,.slice (some ⟨b2,o2,none⟩) 2 c2,.slice (some ⟨b3,o3,none⟩) 6 c3] 33)).alloc (.cells #[.slice none 0 0,.slice none 0 0,.slice none 0 0,.slice none 0 0] 33)) (w.heap.size+1) 33 [.slice (some ⟨b0,o0,none⟩) 3 c0,.slice (some ⟨b1,o1,none⟩) 4 c1,.slice (some ⟨b2,o2,none⟩) 2 c2,.slice (some ⟨b3,o3,none⟩) 6 c3]:=blkOld _ (blkAt _ _ _ (by simp))
 have pR:Blk (((w.alloc (.cells #[.slice (some ⟨b,off,none⟩) len cap] 25)).alloc (.cells #[.slice (some ⟨b0,o0,none⟩) 3 c0,.slice (some ⟨b1,o1,none⟩) 4 c1,.slice (some ⟨b2,o2,none⟩) 2 c2,.slice (some ⟨b3,o3,none⟩) 6 c3] 33)).alloc (.cells #[.slice none 0 0,.slice none 0 0,.slice none 0 0,.slice none 0 0] 33)) (w.heap.size+1+1) 33 [.slice none 0 0,.slice none 0 0,.slice none 0 0,.slice none 0 0]:=blkAt _ _ _ (by simp)
 replace e0:=cells_kept bw _ _ e0
 replace e1:=cells_kept bw _ _ e1
 replace q0:=cells_kept bw _ _ q0
 replace q1:=cells_kept bw _ _ q1
 replace q2:=cells_kept bw _ _ q2
 go_enter Tryz.func99,Tryz.ntmps99
 go_wp2_with fail
 generalize (((w.alloc (.cells #[.slice (some ⟨b,off,none⟩) len cap] 25)).alloc (.cells #[.slice (some ⟨b0,o0,none⟩) 3 c0,.slice (some ⟨b1,o1,none⟩) 4 c1,.slice (some ⟨b2,o2,none⟩) 2 c2,.slice (some ⟨b3,o3,none⟩) 6 c3] 33)).alloc (.cells #[.slice none 0 0,.slice none 0 0,.slice none 0 0,.slice none 0 0] 33))=W0 at *
 have d0:=pP.cell 0
 have d1:=pS.cell 0
 simp only [List.getElem?_cons_zero] at d0 d1
 refine wp_region_held_drew (S:=(fun w'=>w'.cell? ⟨w.heap.size,0,none⟩=some (.slice (some ⟨b,off,none⟩) len cap)∧w'.cell? ⟨w.heap.size+1,0,none⟩=some (.slice (some ⟨b0,o0,none⟩) 3 c0)∧w'.cell? ⟨b,off+k,none⟩=some (.slice (some ⟨cb,co,none⟩) cn cc)∧w'.cell? ⟨b0,o0+k,none⟩=some (.int .i64 p)∧w'.cell? ⟨cb,co+p*3,none⟩=some (.int .i64 3)∧w'.cell? ⟨cb,co+p*3+1,none⟩=some (.int .i64 a)∧w'.cell? ⟨cb,co+p*3+2,none⟩=some (.int .i64 z))) (by kernel_rfl) ⟨d0,d1,e0,e1,q0,q1,q2⟩ (fun hS0=>?_)
 refine tkm 0 10 (.pointer (some ⟨w.heap.size,0,none⟩)) ?_
 refine tkm 1 11 (.slice (some ⟨b,off,none⟩) len cap) ?_
 refine tkm 2 12 (.int .i64 k) ?_
 refine tkm 3 13 (.pointer (some ⟨b,off+k,none⟩)) ?_
 refine tkm 4 14 (.slice (some ⟨cb,co,none⟩) cn cc) ?_
 refine tkm 5 15 (.pointer (some ⟨w.heap.size+1,0,none⟩)) ?_
 refine tkm 6 16 (.slice (some ⟨b0,o0,none⟩) 3 c0) ?_
 refine tkm 7 17 (.int .i64 k) ?_
 refine tkm 8 18 (.pointer (some ⟨b0,o0+k,none⟩)) ?_
 refine tkm 9 19 (.int .i64 p) ?_
 refine tkm 10 20 (.pointer (some ⟨cb,co+p*3,none⟩)) ?_
 refine tkm 11 21 (.agg #[.int .i64 3,.int .i64 a,.int .i64 z]) ?_
 refine tkr 12 8 (fun K hK=>?_)
 have hal:Below W0.drew.heap.size W0.drew (W0.drew.alloc (.cells #[.int .i64 0,.int .i64 0,.int .i64 0] 159)):=by go_grown
 go_simp
 refine hK.out _ _ ?_ (fun hS1=>?_)
 ·exact ⟨cells_kept hal _ _ hS0.1,cells_kept hal _ _ hS0.2.1,cells_kept hal _ _ hS0.2.2.1,cells_kept hal _ _ hS0.2.2.2.1,cells_kept hal _ _ hS0.2.2.2.2.1,cells_kept hal _ _ hS0.2.2.2.2.2.1,cells_kept hal _ _ hS0.2.2.2.2.2.2⟩
 clear hK
 try simp only [Act.put,tka,tkb,tkc]
 refine tkz 13 (fun K hK=>?_)
 have hal2:Below W0.drew.heap.size W0.drew (W0.drew.alloc (.cells #[.int .i64 3,.int .i64 a,.int .i64 z] 159)):=by go_grown
 go_simp
 refine hK.out _ _ ?_ (fun hS2=>?_)
 ·exact ⟨cells_kept hal2 _ _ hS0.1,cells_kept hal2 _ _ hS0.2.1,cells_kept hal2 _ _ hS0.2.2.1,cells_kept hal2 _ _ hS0.2.2.2.1,cells_kept hal2 _ _ hS0.2.2.2.2.1,cells_kept hal2 _ _ hS0.2.2.2.2.2.1,cells_kept hal2 _ _ hS0.2.2.2.2.2.2⟩
 clear hK
 try simp only [Act.put,tka,tkb,tkc]
 refine wpAnyH_done (by kernel_rfl) ?_ _
 clear hal hal2 hS0 hS1 hS2 e0 e1 q0 q1 q2 d0 d1
 have bx:Below W0.heap.size W0 (W0.alloc (.cells #[.int .i64 3,.int .i64 a,.int .i64 z] 159)).drew:=by go_grown
 have pX:Blk (W0.alloc (.cells #[.int .i64 3,.int .i64 a,.int .i64 z] 159)).drew W0.heap.size 159 [.int .i64 3,.int .i64 a,.int .i64 z]:=Blk.new W0 159 [.int .i64 3,.int .i64 a,.int .i64 z]
 have hgX:=pR.lt
 replace bw:=bel_trans bw bx
 replace pS:=pS.below bx
 replace pR:=pR.below bx
 clear bx pP
 generalize (W0.alloc (.cells #[.int .i64 3,.int .i64 a,.int .i64 z] 159)).drew=W1 at *
 generalize W0.heap.size=gX at *
 have kO1:=kO W1 bw
 clear kO
 go_wp2_with (refine wpList_load_blk rfl 33 _ rfl (w.heap.size+1) rfl pS _ Tryz.underlying33 rfl (by kernel_rfl) ?_)
 refine kO1.mono ?_
 rintro e w2 ⟨⟨t,rfl,hO⟩,hb⟩
 clear kO1
 obtain ⟨g0,g1,g2,g3,k0,k1,k2,k3,rfl⟩:=ownV_open hO hL
 have uX:S4.val ((some ⟨g0,0,none⟩,3,k0),(some ⟨g1,0,none⟩,4,k1),(some ⟨g2,0,none⟩,2,k2),(some ⟨g3,0,none⟩,6,k3))=.agg #[.slice (some ⟨g0,0,none⟩) 3 k0,.slice (some ⟨g1,0,none⟩) 4 k1,.slice (some ⟨g2,0,none⟩) 2 k2,.slice (some ⟨g3,0,none⟩) 6 k3]:=rfl
 rw [uX]
 clear uX
 replace hO:=hO.lower9 bw.size
 replace bw:=bel_trans bw hb
 replace pS:=pS.below hb
 replace pR:=pR.below hb
 replace pX:=pX.below hb
 clear hb
 go_wp2_with (refine wpList_store_blk rfl 33 _ _ rfl (w.heap.size+1) [.slice (some ⟨g0,0,none⟩) 3 k0,.slice (some ⟨g1,0,none⟩) 4 k1,.slice (some ⟨g2,0,none⟩) 2 k2,.slice (some ⟨g3,0,none⟩) 6 k3] rfl rfl pS (by kernel_rfl) rfl rfl ?_)
 intro w3 pS3 gr
 replace bw:=bw.grown gr bw.size (fun x hx=>by cases hx;omega)
 replace hO:=hO.kept9 gr pS (by decide)
 replace pR:=pR.kept gr (by simp)
 replace pX:=pX.kept gr (by simp;omega)
 clear gr pS
 have pS:=pS3.out
 clear pS3
 have neS0:=hO.1.1.ne9 pS (by decide)
 have neR0:=hO.1.1.ne9 pR (by decide)
 have neX0:=hO.1.1.ne9 pX (by decide)
 have neS1:=hO.1.2.1.ne9 pS (by decide)
 have neR1:=hO.1.2.1.ne9 pR (by decide)
 have neS2:=hO.1.2.2.1.ne9 pS (by decide)
 have neR2:=hO.1.2.2.1.ne9 pR (by decide)
 have neS3:=hO.1.2.2.2.ne9 pS (by decide)
 have neR3:=hO.1.2.2.2.ne9 pR (by decide)
 have lo0:=hO.1.1.lo9.1
 have s0:w3.cell? ⟨w.heap.size+1,0,none⟩=some (.slice (some ⟨g0,0,none⟩) 3 k0):=by simpa using pS.cell 0
 have y0:w3.cell? ⟨g0,k,none⟩=some (.int .i64 (p:Int)):=(hO.1.1.at9 hk).trans (congrArg (fun z=>some (Value.int .i64 z)) hpc)
 have fz0:=hO.1.1.frz9 k
 have hO3:=hO.set0 k ((p:Int)+1)
 have pS3:=pS.away9 (j:=k) (.int .i64 ((p:Int)+1)) neS0
 have pR3:=pR.away9 (j:=k) (.int .i64 ((p:Int)+1)) neR0
 have pX3:=pX.away9 (j:=k) (.int .i64 ((p:Int)+1)) neX0
 have b3:=bw.setCell (p:=⟨g0,k,none⟩) lo0 (.int .i64 ((p:Int)+1))
 have hpw:IntKind.i64.wrap ((p:Int)+1)=(p:Int)+1:=IntWalk.i64_in _ (by omega)
 have hkw:IntKind.i64.wrap ((k:Int)*2)=(k:Int)*2:=IntWalk.i64_in _ (by omega)
 clear hO pS pR pX bw neS0 neR0 neX0
 have v0:=pS3.cell 0
 have v1:=pS3.cell 1
 have v2:=pS3.cell 2
 have v3:=pS3.cell 3
 have u0:=pX3.cell 0
 have u1:=pX3.cell 1
 have u2:=pX3.cell 2
 simp only [List.getElem?_cons_zero,List.getElem?_cons_succ] at v0 v1 v2 v3 u0 u1 u2
 have hr6':(r:Int)<6:=by omega
 have hrw:IntKind.i64.wrap ((r:Int))=(r:Int):=IntWalk.i64_in _ (by omega)
 obtain ⟨old,w0⟩:∃ u,(w3.setCell ⟨g0,k,none⟩ (.int .i64 ((p:Int)+1))).cell? ⟨g3,r,none⟩=some u:=⟨_,hO3.1.2.2.2.at9 hr6⟩
 have wf:=hO3.1.2.2.2.frz9 r
 have lo4:=hO3.1.2.2.2.lo9.1
 have hO4:=hO3.set3 r z
 have pS4:=pS3.away9 (X:=g3) (j:=r) (.int .i64 z) neS3
 have pR4:=pR3.away9 (X:=g3) (j:=r) (.int .i64 z) neR3
 have b4:=b3.setCell (p:=⟨g3,r,none⟩) lo4 (.int .i64 z)
 simp only at hO4
 clear  hO3 pS3 pR3 b3 pX3
 go_wp2_with (first | refine wpList_load_blk rfl 33 _ rfl (w.heap.size+1) rfl pS4 _ Tryz.underlying33 rfl (by kernel_rfl) ?_ | refine wpList_store_blk rfl 33 _ _ rfl (w.heap.size+1+1) [.slice (some ⟨g0,0,none⟩) 3 k0,.slice (some ⟨g1,0,none⟩) 4 k1,.slice (some ⟨g2,0,none⟩) 2 k2,.slice (some ⟨g3,0,none⟩) 6 k3] rfl rfl pR4 (by kernel_rfl) rfl rfl ?_)
 intro w9 pR9 gr9
 replace b4:=b4.grown gr9 b4.size (fun x hx=>by cases hx;omega)
 replace hO4:=hO4.kept9 gr9 pR4 (by decide)
 clear gr9 pR4 pS4
 go_wp2_with fail
 refine bodyPost_ret (results_blk2 Tryz.results99 _ _ _ _ _ _ rfl pR9.out Tryz.underlying33 rfl (by kernel_rfl)) rfl ?_
 exact ⟨VmGot.mk9 ((some ⟨g0,0,none⟩,3,k0),(some ⟨g1,0,none⟩,4,k1),(some ⟨g2,0,none⟩,2,k2),(some ⟨g3,0,none⟩,6,k3)) rfl hO4,b4⟩


theorem lstep_add (b off len cap b0 o0 c0 b1 o1 c1 b2 o2 c2 b3 o3 c3 k cb co cn cc p:Nat) (a r:Nat) (z vv t:Int) (m:V4) (w:World) (hk:k<3) (hlen:len=3) (hp:p<cn) (hp6:p≤6) (hs:shapeOk m=true) (hMm:Vmem w ((some ⟨b0,o0,none⟩,3,c0),(some ⟨b1,o1,none⟩,4,c1),(some ⟨b2,o2,none⟩,2,c2),(some ⟨b3,o3,none⟩,6,c3)) m) (hpc:m.1.getD k 0=p)
  (e0:w.cell? ⟨b,off+k,none⟩=some (.slice (some ⟨cb,co,none⟩) cn cc)) (e1:w.cell? ⟨b0,o0+k,none⟩=some (.int .i64 p)) (q0:w.cell? ⟨cb,co+p*3,none⟩=some (.int .i64 4)) (q1:w.cell? ⟨cb,co+p*3+1,none⟩=some (.int .i64 a)) (q2:w.cell? ⟨cb,co+p*3+2,none⟩=some (.int .i64 z)) (hr6:r<6) (hri:(k:Int)*2+(a:Int)=(r:Int)) (hvv:m.2.2.2.getD r 0=vv) (hz:0≤z∧z≤9) (hv9:0≤vv∧vv≤9) (ht:(vv+z) % 10=t) :
  Calls Tryz.prog 99 #[.agg #[.slice (some ⟨b,off,none⟩) len cap],.agg #[.slice (some ⟨b0,o0,none⟩) 3 c0,.slice (some ⟨b1,o1,none⟩) 4 c1,.slice (some ⟨b2,o2,none⟩) 2 c2,.slice (some ⟨b3,o3,none⟩) 6 c3],.int .i64 k] w fun e w'=>VmGot e w' w.heap.size (m.1.set k ((p:Int)+1),m.2.1,m.2.2.1,m.2.2.2.set r t) 0∧Below w.heap.size w w':=by
 have hL:=LenOk.of hs
 have kO:=fun (W:World) (hb:Below w.heap.size w W)=>l03Own_is ((some ⟨b0,o0,none⟩,3,c0),(some ⟨b1,o1,none⟩,4,c1),(some ⟨b2,o2,none⟩,2,c2),(some ⟨b3,o3,none⟩,6,c3)) m W (hMm.below hb) hs
 have uA:S4.val ((some ⟨b0,o0,none⟩,3,c0),(some ⟨b1,o1,none⟩,4,c1),(some ⟨b2,o2,none⟩,2,c2),(some ⟨b3,o3,none⟩,6,c3))=.agg #[.slice (some ⟨b0,o0,none⟩) 3 c0,.slice (some ⟨b1,o1,none⟩) 4 c1,.slice (some ⟨b2,o2,none⟩) 2 c2,.slice (some ⟨b3,o3,none⟩) 6 c3]:=rfl
 rw [uA] at kO
 clear uA
 have hk3:(k:Int)<3:=by omega
 have hkl:(k:Int)<(len:Int):=by omega
 have hpn:(p:Int)<(cn:Int):=by omega
 clear hlen
 have bw:Below w.heap.size w (((w.alloc (.cells #[.slice (some ⟨b,off,none⟩) len cap] 25)).alloc (.cells #[.slice (some ⟨b0,o0,none⟩) 3 c0,.slice (some ⟨b1,o1,none⟩) 4 c1,.slice (some ⟨b2,o2,none⟩) 2 c2,.slice (some ⟨b3,o3,none⟩) 6 c3] 33)).alloc (.cells #[.slice none 0 0,.slice none 0 0,.slice none 0 0,.slice none 0 0] 33)):=by go_grown
 have pP:Blk (((w.alloc (.cells #[.slice (some ⟨b,off,none⟩) len cap] 25)).alloc (.cells #[.slice (some ⟨b0,o0,none⟩) 3 c0,.slice (some ⟨b1,o1,none⟩) 4 c1,.slice (some ⟨b2,o2,none⟩) 2 c2,.slice (some ⟨b3,o3,none⟩) 6 c3] 33)).alloc (.cells #[.slice none 0 0,.slice none 0 0,.slice none 0 0,.slice none 0 0] 33)) w.heap.size 25 [.slice (some ⟨b,off,none⟩) len cap]:=blkOld _ (blkOld _ (blkAt _ _ _ rfl))
 have pS:Blk (((w.alloc (.cells #[.slice (some ⟨b,off,none⟩) len cap] 25)).alloc (.cells #[.slice (some ⟨b0,o0,none⟩) 3 c0,.slice (some ⟨b1,o1,none⟩) 4 c1,.slice (some ⟨b2,o2,none⟩) 2 c2,.slice (some ⟨b3,o3,none⟩) 6 c3] 33)).alloc (.cells #[.slice none 0 0,.slice none 0 0,.slice none 0 0,.slice none 0 0] 33)) (w.heap.size+1) 33 [.slice (some ⟨b0,o0,none⟩) 3 c0,.slice (some ⟨b1,o1,none⟩) 4 c1,.slice (some ⟨b2,o2,none⟩) 2 c2,.slice (some ⟨b3,o3,none⟩) 6 c3]:=blkOld _ (blkAt _ _ _ (by simp))
 have pR:Blk (((w.alloc (.cells #[.slice (some ⟨b,off,none⟩) len cap] 25)).alloc (.cells #[.slice (some ⟨b0,o0,none⟩) 3 c0,.slice (some ⟨b1,o1,none⟩) 4 c1,.slice (some ⟨b2,o2,none⟩) 2 c2,.slice (some ⟨b3,o3,none⟩) 6 c3] 33)).alloc (.cells #[.slice none 0 0,.slice none 0 0,.slice none 0 0,.slice none 0 0] 33)) (w.heap.size+1+1) 33 [.slice none 0 0,.slice none 0 0,.slice none 0 0,.slice none 0 0]:=blkAt _ _ _ (by simp)
 replace e0:=cells_kept bw _ _ e0
 replace e1:=cells_kept bw _ _ e1
 replace q0:=cells_kept bw _ _ q0
 replace q1:=cells_kept bw _ _ q1
 replace q2:=cells_kept bw _ _ q2
 go_enter Tryz.func99,Tryz.ntmps99
 go_wp2_with fail
 generalize (((w.alloc (.cells #[.slice (some ⟨b,off,none⟩) len cap] 25)).alloc (.cells #[.slice (some ⟨b0,o0,none⟩) 3 c0,.slice (some ⟨b1,o1,none⟩) 4 c1,.slice (some ⟨b2,o2,none⟩) 2 c2,.slice (some ⟨b3,o3,none⟩) 6 c3] 33)).alloc (.cells #[.slice none 0 0,.slice none 0 0,.slice none 0 0,.slice none 0 0] 33))=W0 at *
 have d0:=pP.cell 0
 have d1:=pS.cell 0
 simp only [List.getElem?_cons_zero] at d0 d1
 refine wp_region_held_drew (S:=(fun w'=>w'.cell? ⟨w.heap.size,0,none⟩=some (.slice (some ⟨b,off,none⟩) len cap)∧w'.cell? ⟨w.heap.size+1,0,none⟩=some (.slice (some ⟨b0,o0,none⟩) 3 c0)∧w'.cell? ⟨b,off+k,none⟩=some (.slice (some ⟨cb,co,none⟩) cn cc)∧w'.cell? ⟨b0,o0+k,none⟩=some (.int .i64 p)∧w'.cell? ⟨cb,co+p*3,none⟩=some (.int .i64 4)∧w'.cell? ⟨cb,co+p*3+1,none⟩=some (.int .i64 a)∧w'.cell? ⟨cb,co+p*3+2,none⟩=some (.int .i64 z))) (by kernel_rfl) ⟨d0,d1,e0,e1,q0,q1,q2⟩ (fun hS0=>?_)
 refine tkm 0 10 (.pointer (some ⟨w.heap.size,0,none⟩)) ?_
 refine tkm 1 11 (.slice (some ⟨b,off,none⟩) len cap) ?_
 refine tkm 2 12 (.int .i64 k) ?_
 refine tkm 3 13 (.pointer (some ⟨b,off+k,none⟩)) ?_
 refine tkm 4 14 (.slice (some ⟨cb,co,none⟩) cn cc) ?_
 refine tkm 5 15 (.pointer (some ⟨w.heap.size+1,0,none⟩)) ?_
 refine tkm 6 16 (.slice (some ⟨b0,o0,none⟩) 3 c0) ?_
 refine tkm 7 17 (.int .i64 k) ?_
 refine tkm 8 18 (.pointer (some ⟨b0,o0+k,none⟩)) ?_
 refine tkm 9 19 (.int .i64 p) ?_
 refine tkm 10 20 (.pointer (some ⟨cb,co+p*3,none⟩)) ?_
 refine tkm 11 21 (.agg #[.int .i64 4,.int .i64 a,.int .i64 z]) ?_
 refine tkr 12 8 (fun K hK=>?_)
 have hal:Below W0.drew.heap.size W0.drew (W0.drew.alloc (.cells #[.int .i64 0,.int .i64 0,.int .i64 0] 159)):=by go_grown
 go_simp
 refine hK.out _ _ ?_ (fun hS1=>?_)
 ·exact ⟨cells_kept hal _ _ hS0.1,cells_kept hal _ _ hS0.2.1,cells_kept hal _ _ hS0.2.2.1,cells_kept hal _ _ hS0.2.2.2.1,cells_kept hal _ _ hS0.2.2.2.2.1,cells_kept hal _ _ hS0.2.2.2.2.2.1,cells_kept hal _ _ hS0.2.2.2.2.2.2⟩
 clear hK
 try simp only [Act.put,tka,tkb,tkc]
 refine tkz 13 (fun K hK=>?_)
 have hal2:Below W0.drew.heap.size W0.drew (W0.drew.alloc (.cells #[.int .i64 4,.int .i64 a,.int .i64 z] 159)):=by go_grown
 go_simp
 refine hK.out _ _ ?_ (fun hS2=>?_)
 ·exact ⟨cells_kept hal2 _ _ hS0.1,cells_kept hal2 _ _ hS0.2.1,cells_kept hal2 _ _ hS0.2.2.1,cells_kept hal2 _ _ hS0.2.2.2.1,cells_kept hal2 _ _ hS0.2.2.2.2.1,cells_kept hal2 _ _ hS0.2.2.2.2.2.1,cells_kept hal2 _ _ hS0.2.2.2.2.2.2⟩
 clear hK
 try simp only [Act.put,tka,tkb,tkc]
 refine wpAnyH_done (by kernel_rfl) ?_ _
 clear hal hal2 hS0 hS1 hS2 e0 e1 q0 q1 q2 d0 d1
 have bx:Below W0.heap.size W0 (W0.alloc (.cells #[.int .i64 4,.int .i64 a,.int .i64 z] 159)).drew:=by go_grown
 have pX:Blk (W0.alloc (.cells #[.int .i64 4,.int .i64 a,.int .i64 z] 159)).drew W0.heap.size 159 [.int .i64 4,.int .i64 a,.int .i64 z]:=Blk.new W0 159 [.int .i64 4,.int .i64 a,.int .i64 z]
 have hgX:=pR.lt
 replace bw:=bel_trans bw bx
 replace pS:=pS.below bx
 replace pR:=pR.below bx
 clear bx pP
 generalize (W0.alloc (.cells #[.int .i64 4,.int .i64 a,.int .i64 z] 159)).drew=W1 at *
 generalize W0.heap.size=gX at *
 have kO1:=kO W1 bw
 clear kO
 go_wp2_with (refine wpList_load_blk rfl 33 _ rfl (w.heap.size+1) rfl pS _ Tryz.underlying33 rfl (by kernel_rfl) ?_)
 refine kO1.mono ?_
 rintro e w2 ⟨⟨t,rfl,hO⟩,hb⟩
 clear kO1
 obtain ⟨g0,g1,g2,g3,k0,k1,k2,k3,rfl⟩:=ownV_open hO hL
 have uX:S4.val ((some ⟨g0,0,none⟩,3,k0),(some ⟨g1,0,none⟩,4,k1),(some ⟨g2,0,none⟩,2,k2),(some ⟨g3,0,none⟩,6,k3))=.agg #[.slice (some ⟨g0,0,none⟩) 3 k0,.slice (some ⟨g1,0,none⟩) 4 k1,.slice (some ⟨g2,0,none⟩) 2 k2,.slice (some ⟨g3,0,none⟩) 6 k3]:=rfl
 rw [uX]
 clear uX
 replace hO:=hO.lower9 bw.size
 replace bw:=bel_trans bw hb
 replace pS:=pS.below hb
 replace pR:=pR.below hb
 replace pX:=pX.below hb
 clear hb
 go_wp2_with (refine wpList_store_blk rfl 33 _ _ rfl (w.heap.size+1) [.slice (some ⟨g0,0,none⟩) 3 k0,.slice (some ⟨g1,0,none⟩) 4 k1,.slice (some ⟨g2,0,none⟩) 2 k2,.slice (some ⟨g3,0,none⟩) 6 k3] rfl rfl pS (by kernel_rfl) rfl rfl ?_)
 intro w3 pS3 gr
 replace bw:=bw.grown gr bw.size (fun x hx=>by cases hx;omega)
 replace hO:=hO.kept9 gr pS (by decide)
 replace pR:=pR.kept gr (by simp)
 replace pX:=pX.kept gr (by simp;omega)
 clear gr pS
 have pS:=pS3.out
 clear pS3
 have neS0:=hO.1.1.ne9 pS (by decide)
 have neR0:=hO.1.1.ne9 pR (by decide)
 have neX0:=hO.1.1.ne9 pX (by decide)
 have neS1:=hO.1.2.1.ne9 pS (by decide)
 have neR1:=hO.1.2.1.ne9 pR (by decide)
 have neS2:=hO.1.2.2.1.ne9 pS (by decide)
 have neR2:=hO.1.2.2.1.ne9 pR (by decide)
 have neS3:=hO.1.2.2.2.ne9 pS (by decide)
 have neR3:=hO.1.2.2.2.ne9 pR (by decide)
 have lo0:=hO.1.1.lo9.1
 have s0:w3.cell? ⟨w.heap.size+1,0,none⟩=some (.slice (some ⟨g0,0,none⟩) 3 k0):=by simpa using pS.cell 0
 have y0:w3.cell? ⟨g0,k,none⟩=some (.int .i64 (p:Int)):=(hO.1.1.at9 hk).trans (congrArg (fun z=>some (Value.int .i64 z)) hpc)
 have fz0:=hO.1.1.frz9 k
 have hO3:=hO.set0 k ((p:Int)+1)
 have pS3:=pS.away9 (j:=k) (.int .i64 ((p:Int)+1)) neS0
 have pR3:=pR.away9 (j:=k) (.int .i64 ((p:Int)+1)) neR0
 have pX3:=pX.away9 (j:=k) (.int .i64 ((p:Int)+1)) neX0
 have b3:=bw.setCell (p:=⟨g0,k,none⟩) lo0 (.int .i64 ((p:Int)+1))
 have hpw:IntKind.i64.wrap ((p:Int)+1)=(p:Int)+1:=IntWalk.i64_in _ (by omega)
 have hkw:IntKind.i64.wrap ((k:Int)*2)=(k:Int)*2:=IntWalk.i64_in _ (by omega)
 clear hO pS pR pX bw neS0 neR0 neX0
 have v0:=pS3.cell 0
 have v1:=pS3.cell 1
 have v2:=pS3.cell 2
 have v3:=pS3.cell 3
 have u0:=pX3.cell 0
 have u1:=pX3.cell 1
 have u2:=pX3.cell 2
 simp only [List.getElem?_cons_zero,List.getElem?_cons_succ] at v0 v1 v2 v3 u0 u1 u2
 have hr6':(r:Int)<6:=by omega
 have hrw:IntKind.i64.wrap ((r:Int))=(r:Int):=IntWalk.i64_in _ (by omega)
 have r1:(w3.setCell ⟨g0,k,none⟩ (.int .i64 ((p:Int)+1))).cell? ⟨g3,r,none⟩=some (.int .i64 vv):=(hO3.1.2.2.2.at9 hr6).trans (congrArg (fun z=>some (Value.int .i64 z)) hvv)
 obtain ⟨old,w0⟩:∃ u,(w3.setCell ⟨g0,k,none⟩ (.int .i64 ((p:Int)+1))).cell? ⟨g3,r,none⟩=some u:=⟨_,hO3.1.2.2.2.at9 hr6⟩
 have wf:=hO3.1.2.2.2.frz9 r
 have lo4:=hO3.1.2.2.2.lo9.1
 have hO4:=hO3.set3 r t
 have pS4:=pS3.away9 (X:=g3) (j:=r) (.int .i64 t) neS3
 have pR4:=pR3.away9 (X:=g3) (j:=r) (.int .i64 t) neR3
 have b4:=b3.setCell (p:=⟨g3,r,none⟩) lo4 (.int .i64 t)
 simp only at hO4
 have hw1:IntKind.i64.wrap (vv+z)=vv+z:=IntWalk.i64_in _ (by omega)
 have hw2:(vv+z).tmod 10=t:=by rw [← ht,Int.tmod_eq_emod_of_nonneg (by omega)]
 have hw3:IntKind.i64.wrap t=t:=IntWalk.i64_in _ (by omega)
 clear hvv hO3 pS3 pR3 b3 pX3
 go_wp2_with fail
 generalize (w3.setCell ⟨g0,k,none⟩ (.int .i64 ((p:Int)+1)))=W3 at *
 go_region
 have hO5:OwnV (W3.setCell ⟨g3,r,none⟩ (.int .i64 t)).drew w.heap.size ((some ⟨g0,0,none⟩,3,k0),(some ⟨g1,0,none⟩,4,k1),(some ⟨g2,0,none⟩,2,k2),(some ⟨g3,0,none⟩,6,k3)) _:=hO4
 have pS5:Blk (W3.setCell ⟨g3,r,none⟩ (.int .i64 t)).drew (w.heap.size+1) 33 [.slice (some ⟨g0,0,none⟩) 3 k0,.slice (some ⟨g1,0,none⟩) 4 k1,.slice (some ⟨g2,0,none⟩) 2 k2,.slice (some ⟨g3,0,none⟩) 6 k3]:=pS4
 have pR5:Blk (W3.setCell ⟨g3,r,none⟩ (.int .i64 t)).drew (w.heap.size+1+1) 33 [.slice none 0 0,.slice none 0 0,.slice none 0 0,.slice none 0 0]:=pR4
 have b5:Below w.heap.size w (W3.setCell ⟨g3,r,none⟩ (.int .i64 t)).drew:=b4.drew
 clear hO4 pS4 pR4 b4 v0 v1 v2 v3 u0 u1 u2 s0 y0 fz0
 have hO4:=hO5
 have pS4:=pS5
 have pR4:=pR5
 have b4:=b5
 clear hO5 pS5 pR5 b5
 generalize (W3.setCell ⟨g3,r,none⟩ (.int .i64 t)).drew=W4 at *
 go_wp2_with (first | refine wpList_load_blk rfl 33 _ rfl (w.heap.size+1) rfl pS4 _ Tryz.underlying33 rfl (by kernel_rfl) ?_ | refine wpList_store_blk rfl 33 _ _ rfl (w.heap.size+1+1) [.slice (some ⟨g0,0,none⟩) 3 k0,.slice (some ⟨g1,0,none⟩) 4 k1,.slice (some ⟨g2,0,none⟩) 2 k2,.slice (some ⟨g3,0,none⟩) 6 k3] rfl rfl pR4 (by kernel_rfl) rfl rfl ?_)
 intro w9 pR9 gr9
 replace b4:=b4.grown gr9 b4.size (fun x hx=>by cases hx;omega)
 replace hO4:=hO4.kept9 gr9 pR4 (by decide)
 clear gr9 pR4 pS4
 go_wp2_with fail
 refine bodyPost_ret (results_blk2 Tryz.results99 _ _ _ _ _ _ rfl pR9.out Tryz.underlying33 rfl (by kernel_rfl)) rfl ?_
 exact ⟨VmGot.mk9 ((some ⟨g0,0,none⟩,3,k0),(some ⟨g1,0,none⟩,4,k1),(some ⟨g2,0,none⟩,2,k2),(some ⟨g3,0,none⟩,6,k3)) rfl hO4,b4⟩

theorem lstep_lock (b off len cap b0 o0 c0 b1 o1 c1 b2 o2 c2 b3 o3 c3 k cb co cn cc p:Nat) (a:Nat) (z:Int) (m:V4) (w:World) (hk:k<3) (hlen:len=3) (hp:p<cn) (hp6:p≤6) (hs:shapeOk m=true) (hMm:Vmem w ((some ⟨b0,o0,none⟩,3,c0),(some ⟨b1,o1,none⟩,4,c1),(some ⟨b2,o2,none⟩,2,c2),(some ⟨b3,o3,none⟩,6,c3)) m) (hpc:m.1.getD k 0=p)
  (e0:w.cell? ⟨b,off+k,none⟩=some (.slice (some ⟨cb,co,none⟩) cn cc)) (e1:w.cell? ⟨b0,o0+k,none⟩=some (.int .i64 p)) (q0:w.cell? ⟨cb,co+p*3,none⟩=some (.int .i64 5)) (q1:w.cell? ⟨cb,co+p*3+1,none⟩=some (.int .i64 a)) (q2:w.cell? ⟨cb,co+p*3+2,none⟩=some (.int .i64 z)) (ha:a<2) :
  Calls Tryz.prog 99 #[.agg #[.slice (some ⟨b,off,none⟩) len cap],.agg #[.slice (some ⟨b0,o0,none⟩) 3 c0,.slice (some ⟨b1,o1,none⟩) 4 c1,.slice (some ⟨b2,o2,none⟩) 2 c2,.slice (some ⟨b3,o3,none⟩) 6 c3],.int .i64 k] w fun e w'=>VmGot e w' w.heap.size (m.1.set k ((p:Int)+1),m.2.1,m.2.2.1.set a ((k:Int)+1),m.2.2.2) 0∧Below w.heap.size w w':=by
 have hL:=LenOk.of hs
 have kO:=fun (W:World) (hb:Below w.heap.size w W)=>l03Own_is ((some ⟨b0,o0,none⟩,3,c0),(some ⟨b1,o1,none⟩,4,c1),(some ⟨b2,o2,none⟩,2,c2),(some ⟨b3,o3,none⟩,6,c3)) m W (hMm.below hb) hs
 have uA:S4.val ((some ⟨b0,o0,none⟩,3,c0),(some ⟨b1,o1,none⟩,4,c1),(some ⟨b2,o2,none⟩,2,c2),(some ⟨b3,o3,none⟩,6,c3))=.agg #[.slice (some ⟨b0,o0,none⟩) 3 c0,.slice (some ⟨b1,o1,none⟩) 4 c1,.slice (some ⟨b2,o2,none⟩) 2 c2,.slice (some ⟨b3,o3,none⟩) 6 c3]:=rfl
 rw [uA] at kO
 clear uA
 have hk3:(k:Int)<3:=by omega
 have hkl:(k:Int)<(len:Int):=by omega
 have hpn:(p:Int)<(cn:Int):=by omega
 clear hlen
 have bw:Below w.heap.size w (((w.alloc (.cells #[.slice (some ⟨b,off,none⟩) len cap] 25)).alloc (.cells #[.slice (some ⟨b0,o0,none⟩) 3 c0,.slice (some ⟨b1,o1,none⟩) 4 c1,.slice (some ⟨b2,o2,none⟩) 2 c2,.slice (some ⟨b3,o3,none⟩) 6 c3] 33)).alloc (.cells #[.slice none 0 0,.slice none 0 0,.slice none 0 0,.slice none 0 0] 33)):=by go_grown
 have pP:Blk (((w.alloc (.cells #[.slice (some ⟨b,off,none⟩) len cap] 25)).alloc (.cells #[.slice (some ⟨b0,o0,none⟩) 3 c0,.slice (some ⟨b1,o1,none⟩) 4 c1,.slice (some ⟨b2,o2,none⟩) 2 c2,.slice (some ⟨b3,o3,none⟩) 6 c3] 33)).alloc (.cells #[.slice none 0 0,.slice none 0 0,.slice none 0 0,.slice none 0 0] 33)) w.heap.size 25 [.slice (some ⟨b,off,none⟩) len cap]:=blkOld _ (blkOld _ (blkAt _ _ _ rfl))
 have pS:Blk (((w.alloc (.cells #[.slice (some ⟨b,off,none⟩) len cap] 25)).alloc (.cells #[.slice (some ⟨b0,o0,none⟩) 3 c0,.slice (some ⟨b1,o1,none⟩) 4 c1,.slice (some ⟨b2,o2,none⟩) 2 c2,.slice (some ⟨b3,o3,none⟩) 6 c3] 33)).alloc (.cells #[.slice none 0 0,.slice none 0 0,.slice none 0 0,.slice none 0 0] 33)) (w.heap.size+1) 33 [.slice (some ⟨b0,o0,none⟩) 3 c0,.slice (some ⟨b1,o1,none⟩) 4 c1,.slice (some ⟨b2,o2,none⟩) 2 c2,.slice (some ⟨b3,o3,none⟩) 6 c3]:=blkOld _ (blkAt _ _ _ (by simp))
 have pR:Blk (((w.alloc (.cells #[.slice (some ⟨b,off,none⟩) len cap] 25)).alloc (.cells #[.slice (some ⟨b0,o0,none⟩) 3 c0,.slice (some ⟨b1,o1,none⟩) 4 c1,.slice (some ⟨b2,o2,none⟩) 2 c2,.slice (some ⟨b3,o3,none⟩) 6 c3] 33)).alloc (.cells #[.slice none 0 0,.slice none 0 0,.slice none 0 0,.slice none 0 0] 33)) (w.heap.size+1+1) 33 [.slice none 0 0,.slice none 0 0,.slice none 0 0,.slice none 0 0]:=blkAt _ _ _ (by simp)
 replace e0:=cells_kept bw _ _ e0
 replace e1:=cells_kept bw _ _ e1
 replace q0:=cells_kept bw _ _ q0
 replace q1:=cells_kept bw _ _ q1
 replace q2:=cells_kept bw _ _ q2
 go_enter Tryz.func99,Tryz.ntmps99
 go_wp2_with fail
 generalize (((w.alloc (.cells #[.slice (some ⟨b,off,none⟩) len cap] 25)).alloc (.cells #[.slice (some ⟨b0,o0,none⟩) 3 c0,.slice (some ⟨b1,o1,none⟩) 4 c1,.slice (some ⟨b2,o2,none⟩) 2 c2,.slice (some ⟨b3,o3,none⟩) 6 c3] 33)).alloc (.cells #[.slice none 0 0,.slice none 0 0,.slice none 0 0,.slice none 0 0] 33))=W0 at *
 have d0:=pP.cell 0
 have d1:=pS.cell 0
 simp only [List.getElem?_cons_zero] at d0 d1
 refine wp_region_held_drew (S:=(fun w'=>w'.cell? ⟨w.heap.size,0,none⟩=some (.slice (some ⟨b,off,none⟩) len cap)∧w'.cell? ⟨w.heap.size+1,0,none⟩=some (.slice (some ⟨b0,o0,none⟩) 3 c0)∧w'.cell? ⟨b,off+k,none⟩=some (.slice (some ⟨cb,co,none⟩) cn cc)∧w'.cell? ⟨b0,o0+k,none⟩=some (.int .i64 p)∧w'.cell? ⟨cb,co+p*3,none⟩=some (.int .i64 5)∧w'.cell? ⟨cb,co+p*3+1,none⟩=some (.int .i64 a)∧w'.cell? ⟨cb,co+p*3+2,none⟩=some (.int .i64 z))) (by kernel_rfl) ⟨d0,d1,e0,e1,q0,q1,q2⟩ (fun hS0=>?_)
 refine tkm 0 10 (.pointer (some ⟨w.heap.size,0,none⟩)) ?_
 refine tkm 1 11 (.slice (some ⟨b,off,none⟩) len cap) ?_
 refine tkm 2 12 (.int .i64 k) ?_
 refine tkm 3 13 (.pointer (some ⟨b,off+k,none⟩)) ?_
 refine tkm 4 14 (.slice (some ⟨cb,co,none⟩) cn cc) ?_
 refine tkm 5 15 (.pointer (some ⟨w.heap.size+1,0,none⟩)) ?_
 refine tkm 6 16 (.slice (some ⟨b0,o0,none⟩) 3 c0) ?_
 refine tkm 7 17 (.int .i64 k) ?_
 refine tkm 8 18 (.pointer (some ⟨b0,o0+k,none⟩)) ?_
 refine tkm 9 19 (.int .i64 p) ?_
 refine tkm 10 20 (.pointer (some ⟨cb,co+p*3,none⟩)) ?_
 refine tkm 11 21 (.agg #[.int .i64 5,.int .i64 a,.int .i64 z]) ?_
 refine tkr 12 8 (fun K hK=>?_)
 have hal:Below W0.drew.heap.size W0.drew (W0.drew.alloc (.cells #[.int .i64 0,.int .i64 0,.int .i64 0] 159)):=by go_grown
 go_simp
 refine hK.out _ _ ?_ (fun hS1=>?_)
 ·exact ⟨cells_kept hal _ _ hS0.1,cells_kept hal _ _ hS0.2.1,cells_kept hal _ _ hS0.2.2.1,cells_kept hal _ _ hS0.2.2.2.1,cells_kept hal _ _ hS0.2.2.2.2.1,cells_kept hal _ _ hS0.2.2.2.2.2.1,cells_kept hal _ _ hS0.2.2.2.2.2.2⟩
 clear hK
 try simp only [Act.put,tka,tkb,tkc]
 refine tkz 13 (fun K hK=>?_)
 have hal2:Below W0.drew.heap.size W0.drew (W0.drew.alloc (.cells #[.int .i64 5,.int .i64 a,.int .i64 z] 159)):=by go_grown
 go_simp
 refine hK.out _ _ ?_ (fun hS2=>?_)
 ·exact ⟨cells_kept hal2 _ _ hS0.1,cells_kept hal2 _ _ hS0.2.1,cells_kept hal2 _ _ hS0.2.2.1,cells_kept hal2 _ _ hS0.2.2.2.1,cells_kept hal2 _ _ hS0.2.2.2.2.1,cells_kept hal2 _ _ hS0.2.2.2.2.2.1,cells_kept hal2 _ _ hS0.2.2.2.2.2.2⟩
 clear hK
 try simp only [Act.put,tka,tkb,tkc]
 refine wpAnyH_done (by kernel_rfl) ?_ _
 clear hal hal2 hS0 hS1 hS2 e0 e1 q0 q1 q2 d0 d1
 have bx:Below W0.heap.size W0 (W0.alloc (.cells #[.int .i64 5,.int .i64 a,.int .i64 z] 159)).drew:=by go_grown
 have pX:Blk (W0.alloc (.cells #[.int .i64 5,.int .i64 a,.int .i64 z] 159)).drew W0.heap.size 159 [.int .i64 5,.int .i64 a,.int .i64 z]:=Blk.new W0 159 [.int .i64 5,.int .i64 a,.int .i64 z]
 have hgX:=pR.lt
 replace bw:=bel_trans bw bx
 replace pS:=pS.below bx
 replace pR:=pR.below bx
 clear bx pP
 generalize (W0.alloc (.cells #[.int .i64 5,.int .i64 a,.int .i64 z] 159)).drew=W1 at *
 generalize W0.heap.size=gX at *
 have kO1:=kO W1 bw
 clear kO
 go_wp2_with (refine wpList_load_blk rfl 33 _ rfl (w.heap.size+1) rfl pS _ Tryz.underlying33 rfl (by kernel_rfl) ?_)
 refine kO1.mono ?_
 rintro e w2 ⟨⟨t,rfl,hO⟩,hb⟩
 clear kO1
 obtain ⟨g0,g1,g2,g3,k0,k1,k2,k3,rfl⟩:=ownV_open hO hL
 have uX:S4.val ((some ⟨g0,0,none⟩,3,k0),(some ⟨g1,0,none⟩,4,k1),(some ⟨g2,0,none⟩,2,k2),(some ⟨g3,0,none⟩,6,k3))=.agg #[.slice (some ⟨g0,0,none⟩) 3 k0,.slice (some ⟨g1,0,none⟩) 4 k1,.slice (some ⟨g2,0,none⟩) 2 k2,.slice (some ⟨g3,0,none⟩) 6 k3]:=rfl
 rw [uX]
 clear uX
 replace hO:=hO.lower9 bw.size
 replace bw:=bel_trans bw hb
 replace pS:=pS.below hb
 replace pR:=pR.below hb
 replace pX:=pX.below hb
 clear hb
 go_wp2_with (refine wpList_store_blk rfl 33 _ _ rfl (w.heap.size+1) [.slice (some ⟨g0,0,none⟩) 3 k0,.slice (some ⟨g1,0,none⟩) 4 k1,.slice (some ⟨g2,0,none⟩) 2 k2,.slice (some ⟨g3,0,none⟩) 6 k3] rfl rfl pS (by kernel_rfl) rfl rfl ?_)
 intro w3 pS3 gr
 replace bw:=bw.grown gr bw.size (fun x hx=>by cases hx;omega)
 replace hO:=hO.kept9 gr pS (by decide)
 replace pR:=pR.kept gr (by simp)
 replace pX:=pX.kept gr (by simp;omega)
 clear gr pS
 have pS:=pS3.out
 clear pS3
 have neS0:=hO.1.1.ne9 pS (by decide)
 have neR0:=hO.1.1.ne9 pR (by decide)
 have neX0:=hO.1.1.ne9 pX (by decide)
 have neS1:=hO.1.2.1.ne9 pS (by decide)
 have neR1:=hO.1.2.1.ne9 pR (by decide)
 have neS2:=hO.1.2.2.1.ne9 pS (by decide)
 have neR2:=hO.1.2.2.1.ne9 pR (by decide)
 have neS3:=hO.1.2.2.2.ne9 pS (by decide)
 have neR3:=hO.1.2.2.2.ne9 pR (by decide)
 have lo0:=hO.1.1.lo9.1
 have s0:w3.cell? ⟨w.heap.size+1,0,none⟩=some (.slice (some ⟨g0,0,none⟩) 3 k0):=by simpa using pS.cell 0
 have y0:w3.cell? ⟨g0,k,none⟩=some (.int .i64 (p:Int)):=(hO.1.1.at9 hk).trans (congrArg (fun z=>some (Value.int .i64 z)) hpc)
 have fz0:=hO.1.1.frz9 k
 have hO3:=hO.set0 k ((p:Int)+1)
 have pS3:=pS.away9 (j:=k) (.int .i64 ((p:Int)+1)) neS0
 have pR3:=pR.away9 (j:=k) (.int .i64 ((p:Int)+1)) neR0
 have pX3:=pX.away9 (j:=k) (.int .i64 ((p:Int)+1)) neX0
 have b3:=bw.setCell (p:=⟨g0,k,none⟩) lo0 (.int .i64 ((p:Int)+1))
 have hpw:IntKind.i64.wrap ((p:Int)+1)=(p:Int)+1:=IntWalk.i64_in _ (by omega)
 have hkw:IntKind.i64.wrap ((k:Int)*2)=(k:Int)*2:=IntWalk.i64_in _ (by omega)
 clear hO pS pR pX bw neS0 neR0 neX0
 have v0:=pS3.cell 0
 have v1:=pS3.cell 1
 have v2:=pS3.cell 2
 have v3:=pS3.cell 3
 have u0:=pX3.cell 0
 have u1:=pX3.cell 1
 have u2:=pX3.cell 2
 simp only [List.getElem?_cons_zero,List.getElem?_cons_succ] at v0 v1 v2 v3 u0 u1 u2
 have ha2:(a:Int)<2:=by omega
 have hk1:IntKind.i64.wrap ((k:Int)+1)=(k:Int)+1:=IntWalk.i64_in _ (by omega)
 obtain ⟨old,w0⟩:∃ u,(w3.setCell ⟨g0,k,none⟩ (.int .i64 ((p:Int)+1))).cell? ⟨g2,a,none⟩=some u:=⟨_,hO3.1.2.2.1.at9 ha⟩
 have wf:=hO3.1.2.2.1.frz9 a
 have lo4:=hO3.1.2.2.1.lo9.1
 have hO4:=hO3.set2 a ((k:Int)+1)
 have pS4:=pS3.away9 (X:=g2) (j:=a) (.int .i64 ((k:Int)+1)) neS2
 have pR4:=pR3.away9 (X:=g2) (j:=a) (.int .i64 ((k:Int)+1)) neR2
 have b4:=b3.setCell (p:=⟨g2,a,none⟩) lo4 (.int .i64 ((k:Int)+1))
 simp only at hO4
 clear  hO3 pS3 pR3 b3 pX3
 go_wp2_with (first | refine wpList_load_blk rfl 33 _ rfl (w.heap.size+1) rfl pS4 _ Tryz.underlying33 rfl (by kernel_rfl) ?_ | refine wpList_store_blk rfl 33 _ _ rfl (w.heap.size+1+1) [.slice (some ⟨g0,0,none⟩) 3 k0,.slice (some ⟨g1,0,none⟩) 4 k1,.slice (some ⟨g2,0,none⟩) 2 k2,.slice (some ⟨g3,0,none⟩) 6 k3] rfl rfl pR4 (by kernel_rfl) rfl rfl ?_)
 intro w9 pR9 gr9
 replace b4:=b4.grown gr9 b4.size (fun x hx=>by cases hx;omega)
 replace hO4:=hO4.kept9 gr9 pR4 (by decide)
 clear gr9 pR4 pS4
 go_wp2_with fail
 refine bodyPost_ret (results_blk2 Tryz.results99 _ _ _ _ _ _ rfl pR9.out Tryz.underlying33 rfl (by kernel_rfl)) rfl ?_
 exact ⟨VmGot.mk9 ((some ⟨g0,0,none⟩,3,k0),(some ⟨g1,0,none⟩,4,k1),(some ⟨g2,0,none⟩,2,k2),(some ⟨g3,0,none⟩,6,k3)) rfl hO4,b4⟩

theorem lstep_unlock_yes (b off len cap b0 o0 c0 b1 o1 c1 b2 o2 c2 b3 o3 c3 k cb co cn cc p:Nat) (a:Nat) (z:Int) (m:V4) (w:World) (hk:k<3) (hlen:len=3) (hp:p<cn) (hp6:p≤6) (hs:shapeOk m=true) (hMm:Vmem w ((some ⟨b0,o0,none⟩,3,c0),(some ⟨b1,o1,none⟩,4,c1),(some ⟨b2,o2,none⟩,2,c2),(some ⟨b3,o3,none⟩,6,c3)) m) (hpc:m.1.getD k 0=p)
  (e0:w.cell? ⟨b,off+k,none⟩=some (.slice (some ⟨cb,co,none⟩) cn cc)) (e1:w.cell? ⟨b0,o0+k,none⟩=some (.int .i64 p)) (q0:w.cell? ⟨cb,co+p*3,none⟩=some (.int .i64 6)) (q1:w.cell? ⟨cb,co+p*3+1,none⟩=some (.int .i64 a)) (q2:w.cell? ⟨cb,co+p*3+2,none⟩=some (.int .i64 z)) (ha:a<2) (hv:m.2.2.1.getD a 0=(k:Int)+1) :
  Calls Tryz.prog 99 #[.agg #[.slice (some ⟨b,off,none⟩) len cap],.agg #[.slice (some ⟨b0,o0,none⟩) 3 c0,.slice (some ⟨b1,o1,none⟩) 4 c1,.slice (some ⟨b2,o2,none⟩) 2 c2,.slice (some ⟨b3,o3,none⟩) 6 c3],.int .i64 k] w fun e w'=>VmGot e w' w.heap.size (m.1.set k ((p:Int)+1),m.2.1,m.2.2.1.set a 0,m.2.2.2) 0∧Below w.heap.size w w':=by
 have hL:=LenOk.of hs
 have kO:=fun (W:World) (hb:Below w.heap.size w W)=>l03Own_is ((some ⟨b0,o0,none⟩,3,c0),(some ⟨b1,o1,none⟩,4,c1),(some ⟨b2,o2,none⟩,2,c2),(some ⟨b3,o3,none⟩,6,c3)) m W (hMm.below hb) hs
 have uA:S4.val ((some ⟨b0,o0,none⟩,3,c0),(some ⟨b1,o1,none⟩,4,c1),(some ⟨b2,o2,none⟩,2,c2),(some ⟨b3,o3,none⟩,6,c3))=.agg #[.slice (some ⟨b0,o0,none⟩) 3 c0,.slice (some ⟨b1,o1,none⟩) 4 c1,.slice (some ⟨b2,o2,none⟩) 2 c2,.slice (some ⟨b3,o3,none⟩) 6 c3]:=rfl
 rw [uA] at kO
 clear uA
 have hk3:(k:Int)<3:=by omega
 have hkl:(k:Int)<(len:Int):=by omega
 have hpn:(p:Int)<(cn:Int):=by omega
 clear hlen
 have bw:Below w.heap.size w (((w.alloc (.cells #[.slice (some ⟨b,off,none⟩) len cap] 25)).alloc (.cells #[.slice (some ⟨b0,o0,none⟩) 3 c0,.slice (some ⟨b1,o1,none⟩) 4 c1,.slice (some ⟨b2,o2,none⟩) 2 c2,.slice (some ⟨b3,o3,none⟩) 6 c3] 33)).alloc (.cells #[.slice none 0 0,.slice none 0 0,.slice none 0 0,.slice none 0 0] 33)):=by go_grown
 have pP:Blk (((w.alloc (.cells #[.slice (some ⟨b,off,none⟩) len cap] 25)).alloc (.cells #[.slice (some ⟨b0,o0,none⟩) 3 c0,.slice (some ⟨b1,o1,none⟩) 4 c1,.slice (some ⟨b2,o2,none⟩) 2 c2,.slice (some ⟨b3,o3,none⟩) 6 c3] 33)).alloc (.cells #[.slice none 0 0,.slice none 0 0,.slice none 0 0,.slice none 0 0] 33)) w.heap.size 25 [.slice (some ⟨b,off,none⟩) len cap]:=blkOld _ (blkOld _ (blkAt _ _ _ rfl))
 have pS:Blk (((w.alloc (.cells #[.slice (some ⟨b,off,none⟩) len cap] 25)).alloc (.cells #[.slice (some ⟨b0,o0,none⟩) 3 c0,.slice (some ⟨b1,o1,none⟩) 4 c1,.slice (some ⟨b2,o2,none⟩) 2 c2,.slice (some ⟨b3,o3,none⟩) 6 c3] 33)).alloc (.cells #[.slice none 0 0,.slice none 0 0,.slice none 0 0,.slice none 0 0] 33)) (w.heap.size+1) 33 [.slice (some ⟨b0,o0,none⟩) 3 c0,.slice (some ⟨b1,o1,none⟩) 4 c1,.slice (some ⟨b2,o2,none⟩) 2 c2,.slice (some ⟨b3,o3,none⟩) 6 c3]:=blkOld _ (blkAt _ _ _ (by simp))
 have pR:Blk (((w.alloc (.cells #[.slice (some ⟨b,off,none⟩) len cap] 25)).alloc (.cells #[.slice (some ⟨b0,o0,none⟩) 3 c0,.slice (some ⟨b1,o1,none⟩) 4 c1,.slice (some ⟨b2,o2,none⟩) 2 c2,.slice (some ⟨b3,o3,none⟩) 6 c3] 33)).alloc (.cells #[.slice none 0 0,.slice none 0 0,.slice none 0 0,.slice none 0 0] 33)) (w.heap.size+1+1) 33 [.slice none 0 0,.slice none 0 0,.slice none 0 0,.slice none 0 0]:=blkAt _ _ _ (by simp)
 replace e0:=cells_kept bw _ _ e0
 replace e1:=cells_kept bw _ _ e1
 replace q0:=cells_kept bw _ _ q0
 replace q1:=cells_kept bw _ _ q1
 replace q2:=cells_kept bw _ _ q2
 go_enter Tryz.func99,Tryz.ntmps99
 go_wp2_with fail
 generalize (((w.alloc (.cells #[.slice (some ⟨b,off,none⟩) len cap] 25)).alloc (.cells #[.slice (some ⟨b0,o0,none⟩) 3 c0,.slice (some ⟨b1,o1,none⟩) 4 c1,.slice (some ⟨b2,o2,none⟩) 2 c2,.slice (some ⟨b3,o3,none⟩) 6 c3] 33)).alloc (.cells #[.slice none 0 0,.slice none 0 0,.slice none 0 0,.slice none 0 0] 33))=W0 at *
 have d0:=pP.cell 0
 have d1:=pS.cell 0
 simp only [List.getElem?_cons_zero] at d0 d1
 refine wp_region_held_drew (S:=(fun w'=>w'.cell? ⟨w.heap.size,0,none⟩=some (.slice (some ⟨b,off,none⟩) len cap)∧w'.cell? ⟨w.heap.size+1,0,none⟩=some (.slice (some ⟨b0,o0,none⟩) 3 c0)∧w'.cell? ⟨b,off+k,none⟩=some (.slice (some ⟨cb,co,none⟩) cn cc)∧w'.cell? ⟨b0,o0+k,none⟩=some (.int .i64 p)∧w'.cell? ⟨cb,co+p*3,none⟩=some (.int .i64 6)∧w'.cell? ⟨cb,co+p*3+1,none⟩=some (.int .i64 a)∧w'.cell? ⟨cb,co+p*3+2,none⟩=some (.int .i64 z))) (by kernel_rfl) ⟨d0,d1,e0,e1,q0,q1,q2⟩ (fun hS0=>?_)
 refine tkm 0 10 (.pointer (some ⟨w.heap.size,0,none⟩)) ?_
 refine tkm 1 11 (.slice (some ⟨b,off,none⟩) len cap) ?_
 refine tkm 2 12 (.int .i64 k) ?_
 refine tkm 3 13 (.pointer (some ⟨b,off+k,none⟩)) ?_
 refine tkm 4 14 (.slice (some ⟨cb,co,none⟩) cn cc) ?_
 refine tkm 5 15 (.pointer (some ⟨w.heap.size+1,0,none⟩)) ?_
 refine tkm 6 16 (.slice (some ⟨b0,o0,none⟩) 3 c0) ?_
 refine tkm 7 17 (.int .i64 k) ?_
 refine tkm 8 18 (.pointer (some ⟨b0,o0+k,none⟩)) ?_
 refine tkm 9 19 (.int .i64 p) ?_
 refine tkm 10 20 (.pointer (some ⟨cb,co+p*3,none⟩)) ?_
 refine tkm 11 21 (.agg #[.int .i64 6,.int .i64 a,.int .i64 z]) ?_
 refine tkr 12 8 (fun K hK=>?_)
 have hal:Below W0.drew.heap.size W0.drew (W0.drew.alloc (.cells #[.int .i64 0,.int .i64 0,.int .i64 0] 159)):=by go_grown
 go_simp
 refine hK.out _ _ ?_ (fun hS1=>?_)
 ·exact ⟨cells_kept hal _ _ hS0.1,cells_kept hal _ _ hS0.2.1,cells_kept hal _ _ hS0.2.2.1,cells_kept hal _ _ hS0.2.2.2.1,cells_kept hal _ _ hS0.2.2.2.2.1,cells_kept hal _ _ hS0.2.2.2.2.2.1,cells_kept hal _ _ hS0.2.2.2.2.2.2⟩
 clear hK
 try simp only [Act.put,tka,tkb,tkc]
 refine tkz 13 (fun K hK=>?_)
 have hal2:Below W0.drew.heap.size W0.drew (W0.drew.alloc (.cells #[.int .i64 6,.int .i64 a,.int .i64 z] 159)):=by go_grown
 go_simp
 refine hK.out _ _ ?_ (fun hS2=>?_)
 ·exact ⟨cells_kept hal2 _ _ hS0.1,cells_kept hal2 _ _ hS0.2.1,cells_kept hal2 _ _ hS0.2.2.1,cells_kept hal2 _ _ hS0.2.2.2.1,cells_kept hal2 _ _ hS0.2.2.2.2.1,cells_kept hal2 _ _ hS0.2.2.2.2.2.1,cells_kept hal2 _ _ hS0.2.2.2.2.2.2⟩
 clear hK
 try simp only [Act.put,tka,tkb,tkc]
 refine wpAnyH_done (by kernel_rfl) ?_ _
 clear hal hal2 hS0 hS1 hS2 e0 e1 q0 q1 q2 d0 d1
 have bx:Below W0.heap.size W0 (W0.alloc (.cells #[.int .i64 6,.int .i64 a,.int .i64 z] 159)).drew:=by go_grown
 have pX:Blk (W0.alloc (.cells #[.int .i64 6,.int .i64 a,.int .i64 z] 159)).drew W0.heap.size 159 [.int .i64 6,.int .i64 a,.int .i64 z]:=Blk.new W0 159 [.int .i64 6,.int .i64 a,.int .i64 z]
 have hgX:=pR.lt
 replace bw:=bel_trans bw bx
 replace pS:=pS.below bx
 replace pR:=pR.below bx
 clear bx pP
 generalize (W0.alloc (.cells #[.int .i64 6,.int .i64 a,.int .i64 z] 159)).drew=W1 at *
 generalize W0.heap.size=gX at *
 have kO1:=kO W1 bw
 clear kO
 go_wp2_with (refine wpList_load_blk rfl 33 _ rfl (w.heap.size+1) rfl pS _ Tryz.underlying33 rfl (by kernel_rfl) ?_)
 refine kO1.mono ?_
 rintro e w2 ⟨⟨t,rfl,hO⟩,hb⟩
 clear kO1
 obtain ⟨g0,g1,g2,g3,k0,k1,k2,k3,rfl⟩:=ownV_open hO hL
 have uX:S4.val ((some ⟨g0,0,none⟩,3,k0),(some ⟨g1,0,none⟩,4,k1),(some ⟨g2,0,none⟩,2,k2),(some ⟨g3,0,none⟩,6,k3))=.agg #[.slice (some ⟨g0,0,none⟩) 3 k0,.slice (some ⟨g1,0,none⟩) 4 k1,.slice (some ⟨g2,0,none⟩) 2 k2,.slice (some ⟨g3,0,none⟩) 6 k3]:=rfl
 rw [uX]
 clear uX
 replace hO:=hO.lower9 bw.size
 replace bw:=bel_trans bw hb
 replace pS:=pS.below hb
 replace pR:=pR.below hb
 replace pX:=pX.below hb
 clear hb
 go_wp2_with (refine wpList_store_blk rfl 33 _ _ rfl (w.heap.size+1) [.slice (some ⟨g0,0,none⟩) 3 k0,.slice (some ⟨g1,0,none⟩) 4 k1,.slice (some ⟨g2,0,none⟩) 2 k2,.slice (some ⟨g3,0,none⟩) 6 k3] rfl rfl pS (by kernel_rfl) rfl rfl ?_)
 intro w3 pS3 gr
 replace bw:=bw.grown gr bw.size (fun x hx=>by cases hx;omega)
 replace hO:=hO.kept9 gr pS (by decide)
 replace pR:=pR.kept gr (by simp)
 replace pX:=pX.kept gr (by simp;omega)
 clear gr pS
 have pS:=pS3.out
 clear pS3
 have neS0:=hO.1.1.ne9 pS (by decide)
 have neR0:=hO.1.1.ne9 pR (by decide)
 have neX0:=hO.1.1.ne9 pX (by decide)
 have neS1:=hO.1.2.1.ne9 pS (by decide)
 have neR1:=hO.1.2.1.ne9 pR (by decide)
 have neS2:=hO.1.2.2.1.ne9 pS (by decide)
 have neR2:=hO.1.2.2.1.ne9 pR (by decide)
 have neS3:=hO.1.2.2.2.ne9 pS (by decide)
 have neR3:=hO.1.2.2.2.ne9 pR (by decide)
 have lo0:=hO.1.1.lo9.1
 have s0:w3.cell? ⟨w.heap.size+1,0,none⟩=some (.slice (some ⟨g0,0,none⟩) 3 k0):=by simpa using pS.cell 0
 have y0:w3.cell? ⟨g0,k,none⟩=some (.int .i64 (p:Int)):=(hO.1.1.at9 hk).trans (congrArg (fun z=>some (Value.int .i64 z)) hpc)
 have fz0:=hO.1.1.frz9 k
 have hO3:=hO.set0 k ((p:Int)+1)
 have pS3:=pS.away9 (j:=k) (.int .i64 ((p:Int)+1)) neS0
 have pR3:=pR.away9 (j:=k) (.int .i64 ((p:Int)+1)) neR0
 have pX3:=pX.away9 (j:=k) (.int .i64 ((p:Int)+1)) neX0
 have b3:=bw.setCell (p:=⟨g0,k,none⟩) lo0 (.int .i64 ((p:Int)+1))
 have hpw:IntKind.i64.wrap ((p:Int)+1)=(p:Int)+1:=IntWalk.i64_in _ (by omega)
 have hkw:IntKind.i64.wrap ((k:Int)*2)=(k:Int)*2:=IntWalk.i64_in _ (by omega)
 clear hO pS pR pX bw neS0 neR0 neX0
 have v0:=pS3.cell 0
 have v1:=pS3.cell 1
 have v2:=pS3.cell 2
 have v3:=pS3.cell 3
 have u0:=pX3.cell 0
 have u1:=pX3.cell 1
 have u2:=pX3.cell 2
 simp only [List.getElem?_cons_zero,List.getElem?_cons_succ] at v0 v1 v2 v3 u0 u1 u2
 have ha2:(a:Int)<2:=by omega
 have hk1:IntKind.i64.wrap ((k:Int)+1)=(k:Int)+1:=IntWalk.i64_in _ (by omega)
 have r1:(w3.setCell ⟨g0,k,none⟩ (.int .i64 ((p:Int)+1))).cell? ⟨g2,a,none⟩=some (.int .i64 ((k:Int)+1)):=(hO3.1.2.2.1.at9 ha).trans (congrArg (fun z=>some (Value.int .i64 z)) hv)
 obtain ⟨old,w0_⟩:∃ u,(w3.setCell ⟨g0,k,none⟩ (.int .i64 ((p:Int)+1))).cell? ⟨g2,a,none⟩=some u:=⟨_,hO3.1.2.2.1.at9 ha⟩
 have wf:=hO3.1.2.2.1.frz9 a
 have lo4:=hO3.1.2.2.1.lo9.1
 have hO4:=hO3.set2 a 0
 have pS4:=pS3.away9 (X:=g2) (j:=a) (.int .i64 0) neS2
 have pR4:=pR3.away9 (X:=g2) (j:=a) (.int .i64 0) neR2
 have b4:=b3.setCell (p:=⟨g2,a,none⟩) lo4 (.int .i64 0)
 simp only at hO4
 have hn0:(((k:Int)+1) != ((k:Int)+1))=false:=by simp
 clear w0_
 clear hv hO3 pS3 pR3 b3 pX3
 go_wp2_with (first | refine wpList_load_blk rfl 33 _ rfl (w.heap.size+1) rfl pS4 _ Tryz.underlying33 rfl (by kernel_rfl) ?_ | refine wpList_store_blk rfl 33 _ _ rfl (w.heap.size+1+1) [.slice (some ⟨g0,0,none⟩) 3 k0,.slice (some ⟨g1,0,none⟩) 4 k1,.slice (some ⟨g2,0,none⟩) 2 k2,.slice (some ⟨g3,0,none⟩) 6 k3] rfl rfl pR4 (by kernel_rfl) rfl rfl ?_)
 intro w9 pR9 gr9
 replace b4:=b4.grown gr9 b4.size (fun x hx=>by cases hx;omega)
 replace hO4:=hO4.kept9 gr9 pR4 (by decide)
 clear gr9 pR4 pS4
 go_wp2_with fail
 refine bodyPost_ret (results_blk2 Tryz.results99 _ _ _ _ _ _ rfl pR9.out Tryz.underlying33 rfl (by kernel_rfl)) rfl ?_
 exact ⟨VmGot.mk9 ((some ⟨g0,0,none⟩,3,k0),(some ⟨g1,0,none⟩,4,k1),(some ⟨g2,0,none⟩,2,k2),(some ⟨g3,0,none⟩,6,k3)) rfl hO4,b4⟩

theorem lstep_unlock_no (b off len cap b0 o0 c0 b1 o1 c1 b2 o2 c2 b3 o3 c3 k cb co cn cc p:Nat) (a:Nat) (z hh:Int) (m:V4) (w:World) (hk:k<3) (hlen:len=3) (hp:p<cn) (hp6:p≤6) (hs:shapeOk m=true) (hMm:Vmem w ((some ⟨b0,o0,none⟩,3,c0),(some ⟨b1,o1,none⟩,4,c1),(some ⟨b2,o2,none⟩,2,c2),(some ⟨b3,o3,none⟩,6,c3)) m) (hpc:m.1.getD k 0=p)
  (e0:w.cell? ⟨b,off+k,none⟩=some (.slice (some ⟨cb,co,none⟩) cn cc)) (e1:w.cell? ⟨b0,o0+k,none⟩=some (.int .i64 p)) (q0:w.cell? ⟨cb,co+p*3,none⟩=some (.int .i64 6)) (q1:w.cell? ⟨cb,co+p*3+1,none⟩=some (.int .i64 a)) (q2:w.cell? ⟨cb,co+p*3+2,none⟩=some (.int .i64 z)) (ha:a<2) (hvv:m.2.2.1.getD a 0=hh) (hv:hh≠(k:Int)+1) :
  Calls Tryz.prog 99 #[.agg #[.slice (some ⟨b,off,none⟩) len cap],.agg #[.slice (some ⟨b0,o0,none⟩) 3 c0,.slice (some ⟨b1,o1,none⟩) 4 c1,.slice (some ⟨b2,o2,none⟩) 2 c2,.slice (some ⟨b3,o3,none⟩) 6 c3],.int .i64 k] w fun e w'=>VmGot e w' w.heap.size (m.1.set k ((p:Int)+1),m.2) 13∧Below w.heap.size w w':=by
 have hL:=LenOk.of hs
 have kO:=fun (W:World) (hb:Below w.heap.size w W)=>l03Own_is ((some ⟨b0,o0,none⟩,3,c0),(some ⟨b1,o1,none⟩,4,c1),(some ⟨b2,o2,none⟩,2,c2),(some ⟨b3,o3,none⟩,6,c3)) m W (hMm.below hb) hs
 have uA:S4.val ((some ⟨b0,o0,none⟩,3,c0),(some ⟨b1,o1,none⟩,4,c1),(some ⟨b2,o2,none⟩,2,c2),(some ⟨b3,o3,none⟩,6,c3))=.agg #[.slice (some ⟨b0,o0,none⟩) 3 c0,.slice (some ⟨b1,o1,none⟩) 4 c1,.slice (some ⟨b2,o2,none⟩) 2 c2,.slice (some ⟨b3,o3,none⟩) 6 c3]:=rfl
 rw [uA] at kO
 clear uA
 have hk3:(k:Int)<3:=by omega
 have hkl:(k:Int)<(len:Int):=by omega
 have hpn:(p:Int)<(cn:Int):=by omega
 clear hlen
 have bw:Below w.heap.size w (((w.alloc (.cells #[.slice (some ⟨b,off,none⟩) len cap] 25)).alloc (.cells #[.slice (some ⟨b0,o0,none⟩) 3 c0,.slice (some ⟨b1,o1,none⟩) 4 c1,.slice (some ⟨b2,o2,none⟩) 2 c2,.slice (some ⟨b3,o3,none⟩) 6 c3] 33)).alloc (.cells #[.slice none 0 0,.slice none 0 0,.slice none 0 0,.slice none 0 0] 33)):=by go_grown
 have pP:Blk (((w.alloc (.cells #[.slice (some ⟨b,off,none⟩) len cap] 25)).alloc (.cells #[.slice (some ⟨b0,o0,none⟩) 3 c0,.slice (some ⟨b1,o1,none⟩) 4 c1,.slice (some ⟨b2,o2,none⟩) 2 c2,.slice (some ⟨b3,o3,none⟩) 6 c3] 33)).alloc (.cells #[.slice none 0 0,.slice none 0 0,.slice none 0 0,.slice none 0 0] 33)) w.heap.size 25 [.slice (some ⟨b,off,none⟩) len cap]:=blkOld _ (blkOld _ (blkAt _ _ _ rfl))
 have pS:Blk (((w.alloc (.cells #[.slice (some ⟨b,off,none⟩) len cap] 25)).alloc (.cells #[.slice (some ⟨b0,o0,none⟩) 3 c0,.slice (some ⟨b1,o1,none⟩) 4 c1,.slice (some ⟨b2,o2,none⟩) 2 c2,.slice (some ⟨b3,o3,none⟩) 6 c3] 33)).alloc (.cells #[.slice none 0 0,.slice none 0 0,.slice none 0 0,.slice none 0 0] 33)) (w.heap.size+1) 33 [.slice (some ⟨b0,o0,none⟩) 3 c0,.slice (some ⟨b1,o1,none⟩) 4 c1,.slice (some ⟨b2,o2,none⟩) 2 c2,.slice (some ⟨b3,o3,none⟩) 6 c3]:=blkOld _ (blkAt _ _ _ (by simp))
 have pR:Blk (((w.alloc (.cells #[.slice (some ⟨b,off,none⟩) len cap] 25)).alloc (.cells #[.slice (some ⟨b0,o0,none⟩) 3 c0,.slice (some ⟨b1,o1,none⟩) 4 c1,.slice (some ⟨b2,o2,none⟩) 2 c2,.slice (some ⟨b3,o3,none⟩) 6 c3] 33)).alloc (.cells #[.slice none 0 0,.slice none 0 0,.slice none 0 0,.slice none 0 0] 33)) (w.heap.size+1+1) 33 [.slice none 0 0,.slice none 0 0,.slice none 0 0,.slice none 0 0]:=blkAt _ _ _ (by simp)
 replace e0:=cells_kept bw _ _ e0
 replace e1:=cells_kept bw _ _ e1
 replace q0:=cells_kept bw _ _ q0
 replace q1:=cells_kept bw _ _ q1
 replace q2:=cells_kept bw _ _ q2
 go_enter Tryz.func99,Tryz.ntmps99
 go_wp2_with fail
 generalize (((w.alloc (.cells #[.slice (some ⟨b,off,none⟩) len cap] 25)).alloc (.cells #[.slice (some ⟨b0,o0,none⟩) 3 c0,.slice (some ⟨b1,o1,none⟩) 4 c1,.slice (some ⟨b2,o2,none⟩) 2 c2,.slice (some ⟨b3,o3,none⟩) 6 c3] 33)).alloc (.cells #[.slice none 0 0,.slice none 0 0,.slice none 0 0,.slice none 0 0] 33))=W0 at *
 have d0:=pP.cell 0
 have d1:=pS.cell 0
 simp only [List.getElem?_cons_zero] at d0 d1
 refine wp_region_held_drew (S:=(fun w'=>w'.cell? ⟨w.heap.size,0,none⟩=some (.slice (some ⟨b,off,none⟩) len cap)∧w'.cell? ⟨w.heap.size+1,0,none⟩=some (.slice (some ⟨b0,o0,none⟩) 3 c0)∧w'.cell? ⟨b,off+k,none⟩=some (.slice (some ⟨cb,co,none⟩) cn cc)∧w'.cell? ⟨b0,o0+k,none⟩=some (.int .i64 p)∧w'.cell? ⟨cb,co+p*3,none⟩=some (.int .i64 6)∧w'.cell? ⟨cb,co+p*3+1,none⟩=some (.int .i64 a)∧w'.cell? ⟨cb,co+p*3+2,none⟩=some (.int .i64 z))) (by kernel_rfl) ⟨d0,d1,e0,e1,q0,q1,q2⟩ (fun hS0=>?_)
 refine tkm 0 10 (.pointer (some ⟨w.heap.size,0,none⟩)) ?_
 refine tkm 1 11 (.slice (some ⟨b,off,none⟩) len cap) ?_
 refine tkm 2 12 (.int .i64 k) ?_
 refine tkm 3 13 (.pointer (some ⟨b,off+k,none⟩)) ?_
 refine tkm 4 14 (.slice (some ⟨cb,co,none⟩) cn cc) ?_
 refine tkm 5 15 (.pointer (some ⟨w.heap.size+1,0,none⟩)) ?_
 refine tkm 6 16 (.slice (some ⟨b0,o0,none⟩) 3 c0) ?_
 refine tkm 7 17 (.int .i64 k) ?_
 refine tkm 8 18 (.pointer (some ⟨b0,o0+k,none⟩)) ?_
 refine tkm 9 19 (.int .i64 p) ?_
 refine tkm 10 20 (.pointer (some ⟨cb,co+p*3,none⟩)) ?_
 refine tkm 11 21 (.agg #[.int .i64 6,.int .i64 a,.int .i64 z]) ?_
 refine tkr 12 8 (fun K hK=>?_)
 have hal:Below W0.drew.heap.size W0.drew (W0.drew.alloc (.cells #[.int .i64 0,.int .i64 0,.int .i64 0] 159)):=by go_grown
 go_simp
 refine hK.out _ _ ?_ (fun hS1=>?_)
 ·exact ⟨cells_kept hal _ _ hS0.1,cells_kept hal _ _ hS0.2.1,cells_kept hal _ _ hS0.2.2.1,cells_kept hal _ _ hS0.2.2.2.1,cells_kept hal _ _ hS0.2.2.2.2.1,cells_kept hal _ _ hS0.2.2.2.2.2.1,cells_kept hal _ _ hS0.2.2.2.2.2.2⟩
 clear hK
 try simp only [Act.put,tka,tkb,tkc]
 refine tkz 13 (fun K hK=>?_)
 have hal2:Below W0.drew.heap.size W0.drew (W0.drew.alloc (.cells #[.int .i64 6,.int .i64 a,.int .i64 z] 159)):=by go_grown
 go_simp
 refine hK.out _ _ ?_ (fun hS2=>?_)
 ·exact ⟨cells_kept hal2 _ _ hS0.1,cells_kept hal2 _ _ hS0.2.1,cells_kept hal2 _ _ hS0.2.2.1,cells_kept hal2 _ _ hS0.2.2.2.1,cells_kept hal2 _ _ hS0.2.2.2.2.1,cells_kept hal2 _ _ hS0.2.2.2.2.2.1,cells_kept hal2 _ _ hS0.2.2.2.2.2.2⟩
 clear hK
 try simp only [Act.put,tka,tkb,tkc]
 refine wpAnyH_done (by kernel_rfl) ?_ _
 clear hal hal2 hS0 hS1 hS2 e0 e1 q0 q1 q2 d0 d1
 have bx:Below W0.heap.size W0 (W0.alloc (.cells #[.int .i64 6,.int .i64 a,.int .i64 z] 159)).drew:=by go_grown
 have pX:Blk (W0.alloc (.cells #[.int .i64 6,.int .i64 a,.int .i64 z] 159)).drew W0.heap.size 159 [.int .i64 6,.int .i64 a,.int .i64 z]:=Blk.new W0 159 [.int .i64 6,.int .i64 a,.int .i64 z]
 have hgX:=pR.lt
 replace bw:=bel_trans bw bx
 replace pS:=pS.below bx
 replace pR:=pR.below bx
 clear bx pP
 generalize (W0.alloc (.cells #[.int .i64 6,.int .i64 a,.int .i64 z] 159)).drew=W1 at *
 generalize W0.heap.size=gX at *
 have kO1:=kO W1 bw
 clear kO
 go_wp2_with (refine wpList_load_blk rfl 33 _ rfl (w.heap.size+1) rfl pS _ Tryz.underlying33 rfl (by kernel_rfl) ?_)
 refine kO1.mono ?_
 rintro e w2 ⟨⟨t,rfl,hO⟩,hb⟩
 clear kO1
 obtain ⟨g0,g1,g2,g3,k0,k1,k2,k3,rfl⟩:=ownV_open hO hL
 have uX:S4.val ((some ⟨g0,0,none⟩,3,k0),(some ⟨g1,0,none⟩,4,k1),(some ⟨g2,0,none⟩,2,k2),(some ⟨g3,0,none⟩,6,k3))=.agg #[.slice (some ⟨g0,0,none⟩) 3 k0,.slice (some ⟨g1,0,none⟩) 4 k1,.slice (some ⟨g2,0,none⟩) 2 k2,.slice (some ⟨g3,0,none⟩) 6 k3]:=rfl
 rw [uX]
 clear uX
 replace hO:=hO.lower9 bw.size
 replace bw:=bel_trans bw hb
 replace pS:=pS.below hb
 replace pR:=pR.below hb
 replace pX:=pX.below hb
 clear hb
 go_wp2_with (refine wpList_store_blk rfl 33 _ _ rfl (w.heap.size+1) [.slice (some ⟨g0,0,none⟩) 3 k0,.slice (some ⟨g1,0,none⟩) 4 k1,.slice (some ⟨g2,0,none⟩) 2 k2,.slice (some ⟨g3,0,none⟩) 6 k3] rfl rfl pS (by kernel_rfl) rfl rfl ?_)
 intro w3 pS3 gr
 replace bw:=bw.grown gr bw.size (fun x hx=>by cases hx;omega)
 replace hO:=hO.kept9 gr pS (by decide)
 replace pR:=pR.kept gr (by simp)
 replace pX:=pX.kept gr (by simp;omega)
 clear gr pS
 have pS:=pS3.out
 clear pS3
 have neS0:=hO.1.1.ne9 pS (by decide)
 have neR0:=hO.1.1.ne9 pR (by decide)
 have neX0:=hO.1.1.ne9 pX (by decide)
 have neS1:=hO.1.2.1.ne9 pS (by decide)
 have neR1:=hO.1.2.1.ne9 pR (by decide)
 have neS2:=hO.1.2.2.1.ne9 pS (by decide)
 have neR2:=hO.1.2.2.1.ne9 pR (by decide)
 have neS3:=hO.1.2.2.2.ne9 pS (by decide)
 have neR3:=hO.1.2.2.2.ne9 pR (by decide)
 have lo0:=hO.1.1.lo9.1
 have s0:w3.cell? ⟨w.heap.size+1,0,none⟩=some (.slice (some ⟨g0,0,none⟩) 3 k0):=by simpa using pS.cell 0
 have y0:w3.cell? ⟨g0,k,none⟩=some (.int .i64 (p:Int)):=(hO.1.1.at9 hk).trans (congrArg (fun z=>some (Value.int .i64 z)) hpc)
 have fz0:=hO.1.1.frz9 k
 have hO3:=hO.set0 k ((p:Int)+1)
 have pS3:=pS.away9 (j:=k) (.int .i64 ((p:Int)+1)) neS0
 have pR3:=pR.away9 (j:=k) (.int .i64 ((p:Int)+1)) neR0
 have pX3:=pX.away9 (j:=k) (.int .i64 ((p:Int)+1)) neX0
 have b3:=bw.setCell (p:=⟨g0,k,none⟩) lo0 (.int .i64 ((p:Int)+1))
 have hpw:IntKind.i64.wrap ((p:Int)+1)=(p:Int)+1:=IntWalk.i64_in _ (by omega)
 have hkw:IntKind.i64.wrap ((k:Int)*2)=(k:Int)*2:=IntWalk.i64_in _ (by omega)
 clear hO pS pR pX bw neS0 neR0 neX0
 have v0:=pS3.cell 0
 have v1:=pS3.cell 1
 have v2:=pS3.cell 2
 have v3:=pS3.cell 3
 have u0:=pX3.cell 0
 have u1:=pX3.cell 1
 have u2:=pX3.cell 2
 simp only [List.getElem?_cons_zero,List.getElem?_cons_succ] at v0 v1 v2 v3 u0 u1 u2
 have ha2:(a:Int)<2:=by omega
 have hk1:IntKind.i64.wrap ((k:Int)+1)=(k:Int)+1:=IntWalk.i64_in _ (by omega)
 have r1:(w3.setCell ⟨g0,k,none⟩ (.int .i64 ((p:Int)+1))).cell? ⟨g2,a,none⟩=some (.int .i64 hh):=(hO3.1.2.2.1.at9 ha).trans (congrArg (fun z=>some (Value.int .i64 z)) hvv)
 have hn0:(hh != ((k:Int)+1))=true:=by simp [hv]
 have hO4:=hO3
 have pS4:=pS3
 have pR4:=pR3
 have b4:=b3
 clear hvv hO3 pS3 pR3 b3 pX3
 go_wp2_with (first | refine wpList_load_blk rfl 33 _ rfl (w.heap.size+1) rfl pS4 _ Tryz.underlying33 rfl (by kernel_rfl) ?_ | refine wpList_store_blk rfl 33 _ _ rfl (w.heap.size+1+1) [.slice (some ⟨g0,0,none⟩) 3 k0,.slice (some ⟨g1,0,none⟩) 4 k1,.slice (some ⟨g2,0,none⟩) 2 k2,.slice (some ⟨g3,0,none⟩) 6 k3] rfl rfl pR4 (by kernel_rfl) rfl rfl ?_)
 intro w9 pR9 gr9
 replace b4:=b4.grown gr9 b4.size (fun x hx=>by cases hx;omega)
 replace hO4:=hO4.kept9 gr9 pR4 (by decide)
 clear gr9 pR4 pS4
 go_wp2_with fail
 refine bodyPost_ret (results_blk2 Tryz.results99 _ _ _ _ _ _ rfl pR9.out Tryz.underlying33 rfl (by kernel_rfl)) rfl ?_
 exact ⟨VmGot.mk9 ((some ⟨g0,0,none⟩,3,k0),(some ⟨g1,0,none⟩,4,k1),(some ⟨g2,0,none⟩,2,k2),(some ⟨g3,0,none⟩,6,k3)) rfl hO4,b4⟩

end Go.Proofs.YtifoggpohlegmaaGreatDoor
