/-
  Joined: VmOfS, EntP, RwI, MapI, SetP.
-/
import Derived.Maps.OwnSet
import Derived.Maps.OwnOps
import Derived.Maps.Own
import Derived.Test.YtbdfbdbpjijcdaaGreatDoorM13
import Derived.Test.YtbdfbdbpjijcdaaGreatDoorM30
import Derived.Test.YtbdfbdbpjijcdaaGreatDoorM32

namespace Go.Proofs.YtbdfbdbpjijcdaaGreatDoor
set_option maxRecDepth 100000
set_option maxHeartbeats 16000000
open Go.RowKit
set_option linter.unusedVariables false

def VmGotB (e:Ending) (w:World) (B:Nat) (z:V4) (b:Bool):Prop:=∃ t:S4,e=.returned (.tuple #[t.val,.bool b])∧OwnV w B t z
theorem VmGotB.mk9 {e:Ending} {w:World} {B:Nat} {z:V4} {b:Bool} (t:S4) (h:e=.returned (.tuple #[t.val,.bool b])) (hO:OwnV w B t z):VmGotB e w B z b:=⟨t,h,hO⟩

def OfB (s:ByteArray) (z:V4) (b:Bool):Prop:=b=shapeOk (bytesV s)∧(b=true→z=bytesV s)
theorem l00Digit_yes9 (x:Int) (w:World) (h:48≤x∧x≤57):Calls Tryz.prog 207 #[.int .u8 x] w fun e w'=>e=.returned (.bool true)∧w=w':=by
 have h1:decide (48≤x)=true:=by simp;omega
 have h2:decide (x≤57)=true:=by simp;omega
 go_enter Tryz.func207,Tryz.ntmps207
 go_wp2
 go_ret
 exact ⟨rfl,rfl⟩
theorem l00Digit_no9 (x:Int) (w:World) (h:¬ (48≤x∧x≤57)):Calls Tryz.prog 207 #[.int .u8 x] w fun e w'=>e=.returned (.bool false)∧w=w':=by
 by_cases h0:48≤x
 ·have h1:decide (48≤x)=true:=by simp;omega
  have h2:decide (x≤57)=false:=by simp;omega
  clear h
  go_enter Tryz.func207,Tryz.ntmps207
  go_wp2
  go_ret
  exact ⟨rfl,rfl⟩
 ·have h1:decide (48≤x)=false:=by simp;omega
  clear h
  go_enter Tryz.func207,Tryz.ntmps207
  go_wp2
  go_ret
  exact ⟨rfl,rfl⟩
theorem fill_mem (s:ByteArray) {off n i j:Nat} (h:j<n) (h':off+j<i):btV s (off+j) - 48 ∈ fillL s off n i:=by
 unfold fillL
 refine List.mem_map.2 ⟨j,by simpa using h,?_⟩
 rw [if_pos h']
theorem shape_digit {s:ByteArray} (h:shapeOk (bytesV s)=true) {i:Nat} (hi:i<15):48≤btV s i∧btV s i≤57:=by
 obtain ⟨_,_,_,_,hd⟩:=shape_parts h
 have key:btV s i - 48 ∈ allOf (bytesV s):=by
  unfold allOf bytesV partV
  simp only [List.mem_append]
  by_cases h0:i<3
  ·have:=fill_mem s (off:=0) (n:=3) (i:=15) (j:=i) h0 (by omega)
   rw [Nat.zero_add] at this
   exact .inl (.inl (.inl this))
  ·by_cases h1:i<7
   ·obtain ⟨j,rfl⟩:∃ j,i=3+j:=⟨i - 3,by omega⟩
    exact .inl (.inl (.inr (fill_mem s (by omega) (by omega))))
   ·by_cases h2:i<9
    ·obtain ⟨j,rfl⟩:∃ j,i=7+j:=⟨i - 7,by omega⟩
     exact .inl (.inr (fill_mem s (by omega) (by omega)))
    ·obtain ⟨j,rfl⟩:∃ j,i=9+j:=⟨i - 9,by omega⟩
     exact .inr (fill_mem s (by omega) (by omega))
 have:=hd _ key
 omega

theorem l03Of_15 (s:ByteArray) (w:World) (h15:s.size=15) :
  Calls Tryz.prog 143 #[.string s] w fun e w'=>(∃ z b,VmGotB e w' w.heap.size z b∧OfB s z b)∧Below w.heap.size w w':=by
 have kN:=specNewVm_is
 have kR:=fun t w h=>l03Shape_is t (bytesV s) w h
 have hfit:=partV_fits s 15
 have HD:Hid (∀ i,i<15→¬ (48≤btV s i∧btV s i≤57)→shapeOk (bytesV s)=false):=fun i hi hn=>by
  cases h:shapeOk (bytesV s)
  ·rfl
  ·exact absurd (shape_digit h hi) hn
 have bw:Below w.heap.size w (w.alloc (.cells #[.slice none 0 0,.slice none 0 0,.slice none 0 0,.slice none 0 0] 129)):=by go_grown
 have pR:=Blk.new w 129 [.slice none 0 0,.slice none 0 0,.slice none 0 0,.slice none 0 0]
 have hne:((s.size:Int) != 15)=false:=by simp [h15]
 have hsz:(s.size:Int)=15:=by omega
 go_enter Tryz.func143,Tryz.ntmps143
 go_wp2_with fail
 refine (kN _).mono ?_
 rintro e w1 ⟨⟨t,rfl,hO⟩,hb⟩
 obtain ⟨g0,g1,g2,g3,c0,c1,c2,c3,rfl,⟨l0,l1,l2,l3⟩,m0,m1,m2,m3⟩:=newVm_open hO
 unfold maxLen at m0 m1 m2 m3
 replace kR:=kR ((some ⟨g0,0,none⟩,3,c0),(some ⟨g1,0,none⟩,4,c1),(some ⟨g2,0,none⟩,2,c2),(some ⟨g3,0,none⟩,6,c3))
 have uX:S4.val ((some ⟨g0,0,none⟩,3,c0),(some ⟨g1,0,none⟩,4,c1),(some ⟨g2,0,none⟩,2,c2),(some ⟨g3,0,none⟩,6,c3))=.agg #[.slice (some ⟨g0,0,none⟩) 3 c0,.slice (some ⟨g1,0,none⟩) 4 c1,.slice (some ⟨g2,0,none⟩) 2 c2,.slice (some ⟨g3,0,none⟩) 6 c3]:=rfl
 rw [uX] at kR ⊢
 clear uX
 replace hO:=hO.lower9 bw.size
 have bA:Below w1.heap.size w1 (w1.alloc (.cells #[.slice (some ⟨g0,0,none⟩) 3 c0,.slice (some ⟨g1,0,none⟩) 4 c1,.slice (some ⟨g2,0,none⟩) 2 c2,.slice (some ⟨g3,0,none⟩) 6 c3] 129)):=by go_grown
 have pS:=Blk.new w1 129 [.slice (some ⟨g0,0,none⟩) 3 c0,.slice (some ⟨g1,0,none⟩) 4 c1,.slice (some ⟨g2,0,none⟩) 2 c2,.slice (some ⟨g3,0,none⟩) 6 c3]
 have hgS:w.heap.size<w1.heap.size:=Nat.lt_of_lt_of_le (by simp) hb.size
 replace bw:=bel_trans bw (bel_trans hb bA)
 replace pR:=pR.below (bel_trans hb bA)
 replace hO:=hO.below bA
 rw [← partV_zero s] at hO
 clear hb bA kN
 go_wp2_with fail
 generalize (w1.alloc (.cells #[.slice (some ⟨g0,0,none⟩) 3 c0,.slice (some ⟨g1,0,none⟩) 4 c1,.slice (some ⟨g2,0,none⟩) 2 c2,.slice (some ⟨g3,0,none⟩) 6 c3] 129))=W1 at *
 generalize w1.heap.size=gS at *
 go_loopw [5] (fun si wr=>∃ i:Nat,i≤15∧si=.int .i64 i∧OwnV wr w.heap.size ((some ⟨g0,0,none⟩,3,c0),(some ⟨g1,0,none⟩,4,c1),(some ⟨g2,0,none⟩,2,c2),(some ⟨g3,0,none⟩,6,c3)) (partV s i)∧Blk wr gS 129 [.slice (some ⟨g0,0,none⟩) 3 c0,.slice (some ⟨g1,0,none⟩) 4 c1,.slice (some ⟨g2,0,none⟩) 2 c2,.slice (some ⟨g3,0,none⟩) 6 c3]∧Blk wr w.heap.size 129 [.slice none 0 0,.slice none 0 0,.slice none 0 0,.slice none 0 0]∧Below w.heap.size w wr) (fun si _=>15 - (intOf si).toNat)
 case atStart=>exact ⟨0,by omega,rfl,hO,pS,pR,bw⟩
 case round =>
  clear hO pS pR bw
  obtain ⟨i,hi,rfl,hO,pS,pR,bw⟩:=hrel
  by_cases hlt:i<15
  ·have hbb:=btV_bounds s i
   by_cases hdg:48≤btV s i∧btV s i≤57
   ·have e0:=pS.cell 0
    have e1:=pS.cell 1
    have e2:=pS.cell 2
    have e3:=pS.cell 3
    simp only [List.getElem?_cons_zero,List.getElem?_cons_succ] at e0 e1 e2 e3
    by_cases k0:i<3
    ·skip
     have hix:=idx_btVz s (i) ((i:Int)) (by omega) (by omega)
     have hst:=hO.set0 i (btV s (i) - 48)
     rw [partV_0 s (by omega)] at hst
     obtain ⟨old,hold⟩:∃ u,wr.cell? ⟨g0,i,none⟩=some u:=⟨_,hO.1.1.at9 (by omega)⟩
     have hfz:=hO.1.1.frz9 i
     have hlo:=hO.1.1.lo9
     have neS:=hO.1.1.ne9 pS (by decide)
     have neR:=hO.1.1.ne9 pR (by decide)
     have kD:=fun w=>l00Digit_yes9 (btV s (i)) w hdg
     generalize btV s (i)=bx at *
     have pS2:=pS.off ⟨g0,i,none⟩ (.int .i64 (bx - 48)) neS
     have pR2:=pR.off ⟨g0,i,none⟩ (.int .i64 (bx - 48)) neR
     have b2:=bw.setCell (p:=⟨g0,i,none⟩) hlo.1 (.int .i64 (bx - 48))
     have hjI:(i:Int)<3:=by omega
     have hwb:IntKind.u8.wrap (bx - 48)=bx - 48:=IntWalk.u8_in _ (by omega)
     clear hO pS pR bw
     go_wp2_with fail
     refine (kD _).mono ?_
     rintro e wd ⟨rfl,rfl⟩
     go_wp2
     go_roundw
     case rel=>exact ⟨i+1,by omega,by go_num,hst,pS2,pR2,b2⟩
     case measure=>simp [intOf];omega
    ·by_cases k1:i<7
     ·obtain ⟨j,rfl⟩:∃ j,i=3+j:=⟨i - 3,by omega⟩
      have hix:=idx_btVz s (3+j) (3+(j:Int)) (by omega) (by omega)
      have hst:=hO.set1 j (btV s (3+j) - 48)
      rw [partV_1 s (by omega)] at hst
      obtain ⟨old,hold⟩:∃ u,wr.cell? ⟨g1,j,none⟩=some u:=⟨_,hO.1.2.1.at9 (by omega)⟩
      have hfz:=hO.1.2.1.frz9 j
      have hlo:=hO.1.2.1.lo9
      have neS:=hO.1.2.1.ne9 pS (by decide)
      have neR:=hO.1.2.1.ne9 pR (by decide)
      have kD:=fun w=>l00Digit_yes9 (btV s (3+j)) w hdg
      generalize btV s (3+j)=bx at *
      have pS2:=pS.off ⟨g1,j,none⟩ (.int .i64 (bx - 48)) neS
      have pR2:=pR.off ⟨g1,j,none⟩ (.int .i64 (bx - 48)) neR
      have b2:=bw.setCell (p:=⟨g1,j,none⟩) hlo.1 (.int .i64 (bx - 48))
      have hjI:(j:Int)<4:=by omega
      have hwb:IntKind.u8.wrap (bx - 48)=bx - 48:=IntWalk.u8_in _ (by omega)
      clear hO pS pR bw
      go_wp2_with fail
      refine (kD _).mono ?_
      rintro e wd ⟨rfl,rfl⟩
      go_wp2
      go_roundw
      case rel=>exact ⟨3+j+1,by omega,by go_num,hst,pS2,pR2,b2⟩
      case measure=>simp [intOf];omega
     ·by_cases k2:i<9
      ·obtain ⟨j,rfl⟩:∃ j,i=7+j:=⟨i - 7,by omega⟩
       have hix:=idx_btVz s (7+j) (7+(j:Int)) (by omega) (by omega)
       have hst:=hO.set2 j (btV s (7+j) - 48)
       rw [partV_2 s (by omega)] at hst
       obtain ⟨old,hold⟩:∃ u,wr.cell? ⟨g2,j,none⟩=some u:=⟨_,hO.1.2.2.1.at9 (by omega)⟩
       have hfz:=hO.1.2.2.1.frz9 j
       have hlo:=hO.1.2.2.1.lo9
       have neS:=hO.1.2.2.1.ne9 pS (by decide)
       have neR:=hO.1.2.2.1.ne9 pR (by decide)
       have kD:=fun w=>l00Digit_yes9 (btV s (7+j)) w hdg
       generalize btV s (7+j)=bx at *
       have pS2:=pS.off ⟨g2,j,none⟩ (.int .i64 (bx - 48)) neS
       have pR2:=pR.off ⟨g2,j,none⟩ (.int .i64 (bx - 48)) neR
       have b2:=bw.setCell (p:=⟨g2,j,none⟩) hlo.1 (.int .i64 (bx - 48))
       have hjI:(j:Int)<2:=by omega
       have hwb:IntKind.u8.wrap (bx - 48)=bx - 48:=IntWalk.u8_in _ (by omega)
       have r1:(7:Int)+(j:Int) - 3=4+(j:Int):=by omega
       have r2:(4:Int)+(j:Int) - 4=(j:Int):=by omega
       clear hO pS pR bw
       go_wp2_with fail
       refine (kD _).mono ?_
       rintro e wd ⟨rfl,rfl⟩
       go_wp2
       go_roundw
       case rel=>exact ⟨7+j+1,by omega,by go_num,hst,pS2,pR2,b2⟩
       case measure=>simp [intOf];omega
      ·obtain ⟨j,rfl⟩:∃ j,i=9+j:=⟨i - 9,by omega⟩
       have hix:=idx_btVz s (9+j) (9+(j:Int)) (by omega) (by omega)
       have hst:=hO.set3 j (btV s (9+j) - 48)
       rw [partV_3 s (by omega)] at hst
       obtain ⟨old,hold⟩:∃ u,wr.cell? ⟨g3,j,none⟩=some u:=⟨_,hO.1.2.2.2.at9 (by omega)⟩
       have hfz:=hO.1.2.2.2.frz9 j
       have hlo:=hO.1.2.2.2.lo9
       have neS:=hO.1.2.2.2.ne9 pS (by decide)
       have neR:=hO.1.2.2.2.ne9 pR (by decide)
       have kD:=fun w=>l00Digit_yes9 (btV s (9+j)) w hdg
       generalize btV s (9+j)=bx at *
       have pS2:=pS.off ⟨g3,j,none⟩ (.int .i64 (bx - 48)) neS
       have pR2:=pR.off ⟨g3,j,none⟩ (.int .i64 (bx - 48)) neR
       have b2:=bw.setCell (p:=⟨g3,j,none⟩) hlo.1 (.int .i64 (bx - 48))
       have hjI:(j:Int)<6:=by omega
       have hwb:IntKind.u8.wrap (bx - 48)=bx - 48:=IntWalk.u8_in _ (by omega)
       have r1:(9:Int)+(j:Int) - 3=6+(j:Int):=by omega
       have r2:(6:Int)+(j:Int) - 4=2+(j:Int):=by omega
       have r3:(2:Int)+(j:Int) - 2=(j:Int):=by omega
       clear hO pS pR bw
       go_wp2_with fail
       refine (kD _).mono ?_
       rintro e wd ⟨rfl,rfl⟩
       go_wp2
       go_roundw
       case rel=>exact ⟨9+j+1,by omega,by go_num,hst,pS2,pR2,b2⟩
       case measure=>simp [intOf];omega
   ·have hix:=idx_btV s i (by omega)
    have hnd:=HD.out i hlt hdg
    have kD:=fun w=>l00Digit_no9 (btV s i) w hdg
    have HB:OfB s ([],[],[],[]) false:=⟨hnd.symm,fun h=>by cases h⟩
    clear hnd hO pS
    generalize btV s i=bx at *
    go_wp2_with fail
    refine (kD _).mono ?_
    rintro e wd ⟨rfl,rfl⟩
    go_wp2_with (refine wpList_store_blk rfl 129 _ _ rfl w.heap.size [.slice none 0 0,.slice none 0 0,.slice none 0 0,.slice none 0 0] rfl rfl pR (by kernel_rfl) rfl rfl ?_)
    intro w4 pR4 g4
    replace bw:=bw.grown g4 bw.size (fun x hx=>by cases hx;omega)
    clear g4
    go_wp2_with fail
    refine bodyPost_ret (results_blk2 Tryz.results143 _ _ _ _ _ _ rfl pR4.out Tryz.underlying129 rfl (by kernel_rfl)) rfl ?_
    exact ⟨⟨_,_,VmGotB.mk9 ((none,0,0),(none,0,0),(none,0,0),(none,0,0)) rfl (ownV_nil _ _),HB⟩,bw⟩
  ·obtain rfl:i=15:=by omega
   have hO':OwnV wr w.heap.size ((some ⟨g0,0,none⟩,3,c0),(some ⟨g1,0,none⟩,4,c1),(some ⟨g2,0,none⟩,2,c2),(some ⟨g3,0,none⟩,6,c3)) (bytesV s):=hO
   have e0:=pS.cell 0
   have e1:=pS.cell 1
   have e2:=pS.cell 2
   have e3:=pS.cell 3
   simp only [List.getElem?_cons_zero,List.getElem?_cons_succ] at e0 e1 e2 e3
   have kR1:=fun (W:World) (h:OwnV W w.heap.size ((some ⟨g0,0,none⟩,3,c0),(some ⟨g1,0,none⟩,4,c1),(some ⟨g2,0,none⟩,2,c2),(some ⟨g3,0,none⟩,6,c3)) (bytesV s))=>kR W (h.mem hfit)
   obtain ⟨sb,hsb⟩:∃ sb,sb=shapeOk (bytesV s):=⟨_,rfl⟩
   rw [← hsb] at kR1
   have HB:OfB s (bytesV s) sb:=⟨hsb,fun _=>rfl⟩
   clear hO kR HD hsb
   go_wp2_with fail
   refine wp_region_held_drew (S:=(fun w'=>w'.cell? ⟨gS,0,none⟩=some (.slice (some ⟨g0,0,none⟩) 3 c0)∧w'.cell? ⟨gS,1,none⟩=some (.slice (some ⟨g1,0,none⟩) 4 c1)∧w'.cell? ⟨gS,2,none⟩=some (.slice (some ⟨g2,0,none⟩) 2 c2)∧w'.cell? ⟨gS,3,none⟩=some (.slice (some ⟨g3,0,none⟩) 6 c3))) (by kernel_rfl) ⟨e0,e1,e2,e3⟩ (fun hS0=>?_)
   refine tkm 0 64 (.agg #[.slice (some ⟨g0,0,none⟩) 3 c0,.slice (some ⟨g1,0,none⟩) 4 c1,.slice (some ⟨g2,0,none⟩) 2 c2,.slice (some ⟨g3,0,none⟩) 6 c3]) ?_
   refine tkm 1 65 (.agg #[.slice (some ⟨g0,0,none⟩) 3 c0,.slice (some ⟨g1,0,none⟩) 4 c1,.slice (some ⟨g2,0,none⟩) 2 c2,.slice (some ⟨g3,0,none⟩) 6 c3]) ?_
   refine tkr 2 66 (fun K hK=>?_)
   go_simp
   refine (kR1 _ (hO'.below (by go_grown))).mono ?_
   rintro e w3 ⟨rfl,hb⟩
   go_wp2_with fail
   refine hK.out _ _ ?_ (fun hS1=>?_)
   ·exact ⟨cells_kept hb _ _ hS0.1,cells_kept hb _ _ hS0.2.1,cells_kept hb _ _ hS0.2.2.1,cells_kept hb _ _ hS0.2.2.2⟩
   clear hK
   try simp only [Act.put,tka,tkb,tkc]
   have hbd:Below wr.heap.size wr w3:=bel_trans (by go_grown) hb
   replace bw:=bel_trans bw hbd
   replace pS:=pS.below hbd
   replace pR:=pR.below hbd
   replace hO':=hO'.below hbd
   clear hb hbd hS0 e0 e1 e2 e3 kR1
   have nSR:gS≠w.heap.size:=by omega
   have r0:w3.cell? ⟨w.heap.size,0,none⟩=some (.slice none 0 0):=by simpa using pR.cell 0
   have r1:w3.cell? ⟨w.heap.size,1,none⟩=some (.slice none 0 0):=by simpa using pR.cell 1
   have r2:w3.cell? ⟨w.heap.size,2,none⟩=some (.slice none 0 0):=by simpa using pR.cell 2
   have r3:w3.cell? ⟨w.heap.size,3,none⟩=some (.slice none 0 0):=by simpa using pR.cell 3
   have f0:=pR.frozen 0
   have f1:=pR.frozen 1
   have f2:=pR.frozen 2
   have f3:=pR.frozen 3
   have pR4:=(((pR.set 0 (.slice (some ⟨g0,0,none⟩) 3 c0)).set 1 (.slice (some ⟨g1,0,none⟩) 4 c1)).set 2 (.slice (some ⟨g2,0,none⟩) 2 c2)).set 3 (.slice (some ⟨g3,0,none⟩) 6 c3)
   simp only [List.set_cons_zero,List.set_cons_succ] at pR4
   have pS4:=(((pS.off ⟨w.heap.size,0,none⟩ (.slice (some ⟨g0,0,none⟩) 3 c0) nSR).off ⟨w.heap.size,1,none⟩ (.slice (some ⟨g1,0,none⟩) 4 c1) nSR).off ⟨w.heap.size,2,none⟩ (.slice (some ⟨g2,0,none⟩) 2 c2) nSR).off ⟨w.heap.size,3,none⟩ (.slice (some ⟨g3,0,none⟩) 6 c3) nSR
   have b4:=(((bw.setCell (p:=⟨w.heap.size,0,none⟩) (Nat.le_refl _) (.slice (some ⟨g0,0,none⟩) 3 c0)).setCell (p:=⟨w.heap.size,1,none⟩) (Nat.le_refl _) (.slice (some ⟨g1,0,none⟩) 4 c1)).setCell (p:=⟨w.heap.size,2,none⟩) (Nat.le_refl _) (.slice (some ⟨g2,0,none⟩) 2 c2)).setCell (p:=⟨w.heap.size,3,none⟩) (Nat.le_refl _) (.slice (some ⟨g3,0,none⟩) 6 c3)
   have hO4:=(((hO'.awayB9 pR (by decide) 0 (.slice (some ⟨g0,0,none⟩) 3 c0)).awayB9 (pR.set 0 (.slice (some ⟨g0,0,none⟩) 3 c0)) (by decide) 1 (.slice (some ⟨g1,0,none⟩) 4 c1)).awayB9 ((pR.set 0 (.slice (some ⟨g0,0,none⟩) 3 c0)).set 1 (.slice (some ⟨g1,0,none⟩) 4 c1)) (by decide) 2 (.slice (some ⟨g2,0,none⟩) 2 c2)).awayB9 (((pR.set 0 (.slice (some ⟨g0,0,none⟩) 3 c0)).set 1 (.slice (some ⟨g1,0,none⟩) 4 c1)).set 2 (.slice (some ⟨g2,0,none⟩) 2 c2)) (by decide) 3 (.slice (some ⟨g3,0,none⟩) 6 c3)
   refine tkz 3 (fun K hK=>?_)
   go_simp
   refine hK.out _ _ ?_ (fun hS2=>?_)
   ·exact ⟨by simpa using pS4.cell 0,by simpa using pS4.cell 1,by simpa using pS4.cell 2,by simpa using pS4.cell 3⟩
   clear hK
   try simp only [Act.put,tka,tkb,tkc]
   refine tkm 4 3 (.bool sb) ?_
   refine wpAnyH_done (by kernel_rfl) ?_ _
   clear hS1 hS2 r0 r1 r2 r3 f0 f1 f2 f3 pR pS bw hO' pS4
   generalize (((w3.setCell ⟨w.heap.size,0,none⟩ (.slice (some ⟨g0,0,none⟩) 3 c0)).setCell ⟨w.heap.size,1,none⟩ (.slice (some ⟨g1,0,none⟩) 4 c1)).setCell ⟨w.heap.size,2,none⟩ (.slice (some ⟨g2,0,none⟩) 2 c2)).setCell ⟨w.heap.size,3,none⟩ (.slice (some ⟨g3,0,none⟩) 6 c3)=w5 at *
   go_wp2_with fail
   refine bodyPost_ret (results_blk2 Tryz.results143 _ _ _ _ _ _ rfl pR4 Tryz.underlying129 rfl (by kernel_rfl)) rfl ?_
   exact ⟨⟨_,_,VmGotB.mk9 ((some ⟨g0,0,none⟩,3,c0),(some ⟨g1,0,none⟩,4,c1),(some ⟨g2,0,none⟩,2,c2),(some ⟨g3,0,none⟩,6,c3)) rfl hO4,HB⟩,b4⟩

def vmOfZ (s:ByteArray):V4:=if s.size≠15 then ([],[],[],[]) else if shapeOk (bytesV s) then bytesV s else ([],[],[],[])
def vmOfC (s:ByteArray):Int:=if 65536<s.size then 2 else if s.size≠15 then 3 else if shapeOk (bytesV s) then 0 else 3
theorem implVmOf_is (s:ByteArray) (w:World) (hs:s.size≤1048576) (hV:VmShape w) :
  Calls Tryz.prog 85 #[.string s] w fun e w'=>VmGot e w' w.heap.size (vmOfZ s) (vmOfC s)∧Below w.heap.size w w':=by
 unfold vmOfZ vmOfC
 by_cases hl:65536<s.size
 ·rw [if_pos (show s.size≠15 by omega),if_pos hl]
  refine (implVmOf_long s w hs hl).mono ?_
  rintro e w' ⟨rfl,hb⟩
  exact ⟨VmGot.mk9 ((none,0,0),(none,0,0),(none,0,0),(none,0,0)) rfl (ownV_nil _ _),hb⟩
 ·rw [if_neg hl]
  by_cases h15:s.size=15
  ·have hn:¬ (s.size≠15):=fun h=>h h15
   simp only [if_neg hn]
   exact implVmOf_15 s w h15 hV
  ·rw [if_pos h15,if_pos h15]
   refine (implVmOf_size s w (by omega) h15).mono ?_
   rintro e w' ⟨rfl,hb⟩
   exact ⟨VmGot.mk9 ((none,0,0),(none,0,0),(none,0,0),(none,0,0)) rfl (ownV_nil _ _),hb⟩

set_option linter.unusedSimpArgs false

theorem allR_false {f:Nat→Bool} {n k:Nat} (hk:k<n) (h:f k=false):(List.range n).all f=false:=by
 rw [List.all_eq_false]
 exact ⟨k,List.mem_range.2 hk,by rw [h];simp⟩
theorem allR_true {f:Nat→Bool} {n:Nat} (h:∀ k,k<n→f k=true):(List.range n).all f=true:=by
 rw [List.all_eq_true]
 exact fun k hk=>h k (List.mem_range.1 hk)
theorem allR_at {f:Nat→Bool} {n k:Nat} (h:(List.range n).all f=true) (hk:k<n):f k=true:=List.all_eq_true.1 h k (List.mem_range.2 hk)

def bStep (xs:List I3) (i:Nat):Bool:=okB (xs.getD i (0,0,0)) && (decide (i=0) || ltB (xs.getD (i - 1) (0,0,0)) (xs.getD i (0,0,0)))
def riseB (xs:List I3):Bool:=(List.range xs.length).all (bStep xs)
def iStep (zs:List Int) (i:Nat):Bool:=itOk (zs.getD i 0) && (decide (i=0) || decide (zs.getD (i - 1) 0<zs.getD i 0))
def riseI (zs:List Int):Bool:=(List.range zs.length).all (iStep zs)
def keyOk9 (k:ByteArray):Bool:=decide (k.size=15) && shapeOk (bytesV k)
def entOk (e:E3):Bool:=keyOk9 e.1 && (riseB e.2.1 && (riseI e.2.2 && decide (e.2.1.length≤30)))
def mStep (es:List E3) (i:Nat):Bool:=entOk (es.getD i e3d) && (decide (i=0) || ltS (es.getD (i - 1) e3d).1 (es.getD i e3d).1)
def memOk (es:List E3):Bool:=(List.range es.length).all (mStep es) && decide (es.length≤2000)

theorem memOk_len {es:List E3} (h:memOk es=true):es.length≤2000:=by
 simp only [memOk,Bool.and_eq_true,decide_eq_true_eq] at h
 exact h.2
theorem memOk_ent {es:List E3} (h:memOk es=true) {i:Nat} (hi:i<es.length):entOk (es.getD i e3d)=true:=by
 simp only [memOk,Bool.and_eq_true,decide_eq_true_eq] at h
 have:=allR_at h.1 hi
 simp only [mStep,Bool.and_eq_true] at this
 exact this.1
theorem memOk_next {es:List E3} (h:memOk es=true) {i:Nat} (hi:i+1<es.length):ltS (es.getD i e3d).1 (es.getD (i+1) e3d).1=true:=by
 simp only [memOk,Bool.and_eq_true,decide_eq_true_eq] at h
 have:=allR_at h.1 hi
 simp only [mStep,Bool.and_eq_true,Bool.or_eq_true,decide_eq_true_eq] at this
 rcases this.2 with h0 | h1
 ·omega
 ·simpa using h1
theorem memOk_lt {es:List E3} (h:memOk es=true):∀ {j i:Nat},i<j→j<es.length→ltS (es.getD i e3d).1 (es.getD j e3d).1=true
 | 0,i,hi,_=>by omega
 | j+1,i,hi,hj=>by
  have hn:=memOk_next h (i:=j) hj
  by_cases e:i=j
  ·rw [e];exact hn
  ·exact ltS_trans (memOk_lt h (j:=j) (i:=i) (by omega) (by omega)) hn

def plcE (es:List E3) (k:ByteArray):Nat:=(es.takeWhile fun e=>ltS e.1 k).length
theorem plcE_le (es:List E3) (k:ByteArray):plcE es k≤es.length:=by
 unfold plcE
 exact (List.takeWhile_prefix _).length_le
theorem takeW_at {α:Type} {p:α→Bool} {d:α}:∀ {l:List α} {i:Nat},i<(l.takeWhile p).length→p (l.getD i d)=true
 | [],i,h=>by simp at h
 | x::l,i,h=>by
  by_cases hx:p x=true
  ·rw [List.takeWhile_cons_of_pos hx] at h
   cases i with
   | zero=>simpa using hx
   | succ i=>simpa using takeW_at (l:=l) (i:=i) (by simpa using h)
  ·rw [List.takeWhile_cons_of_neg hx] at h
   simp at h
theorem takeW_stop {α:Type} {p:α→Bool} {d:α}:∀ {l:List α},(l.takeWhile p).length<l.length→p (l.getD (l.takeWhile p).length d)=false
 | [],h=>by simp at h
 | x::l,h=>by
  by_cases hx:p x=true
  ·rw [List.takeWhile_cons_of_pos hx] at h ⊢
   simpa using takeW_stop (l:=l) (by simpa using h)
  ·rw [List.takeWhile_cons_of_neg hx]
   simpa using hx
theorem plcE_ahead {es:List E3} {k:ByteArray} {i:Nat} (h:i<plcE es k):ltS (es.getD i e3d).1 k=true:=takeW_at (p:=fun e:E3=>ltS e.1 k) (d:=e3d) h
theorem plcE_stop {es:List E3} {k:ByteArray} (h:plcE es k<es.length):ltS (es.getD (plcE es k) e3d).1 k=false:=takeW_stop (p:=fun e:E3=>ltS e.1 k) (d:=e3d) h
theorem plcE_of {es:List E3} {k:ByteArray} {n:Nat} (h1:∀ i,i<n→ltS (es.getD i e3d).1 k=true) (hn:n≤es.length) (h2:n<es.length→ltS (es.getD n e3d).1 k=false):plcE es k=n:=by
 by_cases hlt:plcE es k<n
 ·have a:=plcE_stop (k:=k) (show plcE es k<es.length by omega)
  rw [h1 _ hlt] at a
  cases a
 ·by_cases hgt:n<plcE es k
  ·have a:=plcE_ahead hgt
   have b:=h2 (by have:=plcE_le es k;omega)
   rw [a] at b
   cases b
  ·omega
theorem plcE_behind {es:List E3} (h:memOk es=true) {k:ByteArray} {i:Nat} (hi:plcE es k≤i) (hl:i<es.length):ltS (es.getD i e3d).1 k=false:=by
 by_cases e:i=plcE es k
 ·rw [e];exact plcE_stop (by omega)
 ·cases hc:ltS (es.getD i e3d).1 k
  ·rfl
  ·have:=ltS_trans (memOk_lt h (i:=plcE es k) (j:=i) (by omega) hl) hc
   rw [plcE_stop (by omega)] at this
   cases this
def isE (es:List E3) (k:ByteArray):Bool:=decide (plcE es k<es.length) && decide ((es.getD (plcE es k) e3d).1=k)
def fndE (es:List E3) (k:ByteArray):E3:=if isE es k then es.getD (plcE es k) e3d else e3d
def putE (es:List E3) (e:E3):List E3:=(es.take (plcE es e.1)++[e])++es.drop (if isE es e.1 then plcE es e.1+1 else plcE es e.1)


def IsL (w:World) (v:Value) (xs:List Int):Prop:=∃ la ln lc,v=.slice la ln lc∧Ints .i64 w la ln lc xs
theorem IsL.below {w w':World} {v:Value} {xs:List Int} (h:IsL w v xs) (hb:Below w.heap.size w w'):IsL w' v xs:=by
 obtain ⟨la,ln,lc,rfl,hi⟩:=h
 exact ⟨la,ln,lc,rfl,hi.below hb⟩
def AllL (w:World) (vs:List Value) (xss:List (List Int)):Prop:=vs.length=xss.length∧∀ t,t<xss.length→IsL w (vs.getD t undef) (xss.getD t [])
theorem AllL.below {w w':World} {vs:List Value} {xss:List (List Int)} (h:AllL w vs xss) (hb:Below w.heap.size w w'):AllL w' vs xss:=⟨h.1,fun t ht=>(h.2 t ht).below hb⟩
theorem AllL.nil (w:World):AllL w [] []:=⟨rfl,fun t ht=>by simp at ht⟩
def RowsI (w:World) (a:Option Addr) (n c:Nat) (xss:List (List Int)):Prop:=
 xss.length=n∧n≤c∧c≤maxLen∧∃ vs,AllL w vs xss∧(n=0∨∃ b off,a=some ⟨b,off,none⟩∧b<w.heap.size∧∀ t,t<n→w.cell? ⟨b,off+t,none⟩=some (vs.getD t undef))
theorem RowsI.below {w w':World} {a:Option Addr} {n c:Nat} {xss:List (List Int)} (h:RowsI w a n c xss) (hb:Below w.heap.size w w'):RowsI w' a n c xss:=by
 obtain ⟨h1,h2,h3,vs,h4,h5⟩:=h
 refine ⟨h1,h2,h3,vs,h4.below hb,?_⟩
 rcases h5 with h5 | ⟨b,off,h6,h7,h8⟩
 ·exact .inl h5
 ·exact .inr ⟨b,off,h6,Nat.lt_of_lt_of_le h7 hb.size,fun t ht=>by rw [hb.cell (p:=⟨b,off+t,none⟩) h7];exact h8 t ht⟩
theorem RowsI.cell {w:World} {a:Option Addr} {n c:Nat} {xss:List (List Int)} (h:RowsI w a n c xss) {t:Nat} (ht:t<n):∃ b off la ln lc,a=some ⟨b,off,none⟩∧w.cell? ⟨b,off+t,none⟩=some (.slice la ln lc)∧Ints .i64 w la ln lc (xss.getD t []):=by
 obtain ⟨h1,h2,h3,vs,h4,h5⟩:=h
 rcases h5 with h5 | ⟨b,off,h6,h7,h8⟩
 ·omega
 ·obtain ⟨la,ln,lc,e,hi⟩:=h4.2 t (by omega)
  exact ⟨b,off,la,ln,lc,h6,by rw [h8 t ht,e],hi⟩
theorem RowsI.own {w:World} {B n c:Nat} {a:Option Addr} {vs:List Value} {xss:List (List Int)} (h:w.ownsRow B 36 1 (.slice a n c) n vs) (hl:xss.length=n) (hA:AllL w vs xss):RowsI w a n c xss:=by
 rcases h.2 with ⟨e,h0⟩ | ⟨b,cc,cur,e,h1,h2,h3,h4⟩
 ·cases e
  exact ⟨by omega,by omega,by unfold maxLen;omega,vs,hA,.inl (by omega)⟩
 ·cases e
  refine ⟨hl,by omega,by omega,vs,hA,.inr ⟨b,0,rfl,(h.lt b rfl).2,fun t ht=>?_⟩⟩
  rw [Nat.zero_add,h.cellAt t (by omega)]
  have hq:=hA.1
  simp [List.getD,show t<vs.length by omega]


structure SetD (D:DataW Unit) (xs:List Int):Prop where
 has:∀ x:Int,Maps.has D (.int .i64 x)=true↔x ∈ xs
 bnd:∀ x c:Int,D.atKey (.int .i64 x) (.lit (.int .i64 0))=.lit (.int .i64 c)→0≤c∧c≤xs.length
theorem lit_ne8 {s t:Int} (h:s≠t):(Lit.int .i64 s)≠Lit.int .i64 t:=fun e=>by
 injection e with _ e
 exact h e
theorem SetD.put {D:DataW Unit} {xs:List Int} (h:SetD D xs) (hm:Maps.IsMap D) {x c:Int} (hc0:0≤c) (hc:c≤xs.length) :
  SetD (D.put (.int .i64 x) (.lit (.int .i64 (c+1)))) (xs++[x]):=by
 have hkl:WideAt.IsKeyLit (.int .i64 x):=trivial
 refine ⟨fun t=>?_,fun y d hd=>?_⟩
 ·by_cases e:t=x
  ·subst e
   rw [Maps.has_put_same hm hkl]
   simp
  ·rw [Maps.has_put_other (lit_ne8 e),h.has]
   simp [e]
 ·by_cases e:y=x
  ·subst e
   rw [Maps.atKey_put_same hm hkl] at hd
   injection hd with hd
   injection hd with _ hd
   subst hd
   simp
   omega
  ·rw [Maps.atKey_put_other (lit_ne8 e)] at hd
   have:=h.bnd y d hd
   simp
   omega
theorem fits8 {z:Int} (h:0≤z) (h':z≤2000000000):(Lit.int .i64 z).wf=true:=by
 simp only [Lit.wf,Bool.and_eq_true,decide_eq_true_eq]
 have h1:IntKind.i64.min=-9223372036854775808:=by decide
 have h2:IntKind.i64.max=9223372036854775807:=by decide
 omega
theorem take_snoc8 {Z:List Int} {k:Nat} (h:k<Z.length):Z.take (k+1)=Z.take k++[Z.getD k 0]:=by
 rw [List.take_succ_eq_append_getElem h]
 simp [List.getD,List.getElem?_eq_getElem h]


def putI:List Int→Int→List Int
 | [],n=>[n]
 | x::xs,n=>if x<n then x::putI xs n else if x=n then x::xs else n::x::xs
def mrgI (xs:List Int):List Int:=xs.foldl putI []
theorem putI_mem:∀ (xs:List Int) (n y:Int),y ∈ putI xs n↔y=n∨y ∈ xs
 | [],n,y=>by simp [putI]
 | x::xs,n,y=>by
  unfold putI
  split
  ·simp only [List.mem_cons,putI_mem xs n y]
   constructor
   ·rintro (h | h | h)
    ·exact .inr (.inl h)
    ·exact .inl h
    ·exact .inr (.inr h)
   ·rintro (h | h | h)
    ·exact .inr (.inl h)
    ·exact .inl h
    ·exact .inr (.inr h)
  ·split
   ·rename_i h
    subst h
    simp
   ·simp
theorem putI_rises:∀ (xs:List Int) (n:Int),xs.Pairwise (· < ·)→(putI xs n).Pairwise (· < ·)
 | [],n,_=>by simp [putI]
 | x::xs,n,h=>by
  obtain ⟨h1,h2⟩:=List.pairwise_cons.1 h
  unfold putI
  split
  ·rename_i hx
   refine List.pairwise_cons.2 ⟨fun y hy=>?_,putI_rises xs n h2⟩
   rcases (putI_mem xs n y).1 hy with rfl | hy
   ·exact hx
   ·exact h1 y hy
  ·split
   ·exact h
   ·refine List.pairwise_cons.2 ⟨fun y hy=>?_,h⟩
    rcases List.mem_cons.1 hy with rfl | hy
    ·omega
    ·have:=h1 y hy
     omega
theorem foldl_putI:∀ (xs acc:List Int),acc.Pairwise (· < ·)→(xs.foldl putI acc).Pairwise (· < ·)∧∀ y,y ∈ xs.foldl putI acc↔y ∈ acc∨y ∈ xs
 | [],acc,h=>⟨h,fun y=>by simp⟩
 | x::xs,acc,h=>by
  obtain ⟨h1,h2⟩:=foldl_putI xs (putI acc x) (putI_rises acc x h)
  refine ⟨h1,fun y=>?_⟩
  rw [List.foldl_cons,h2,putI_mem,List.mem_cons]
  constructor
  ·rintro ((h | h) | h)
   ·exact .inr (.inl h)
   ·exact .inl h
   ·exact .inr (.inr h)
  ·rintro (h | h | h)
   ·exact .inl (.inr h)
   ·exact .inl (.inl h)
   ·exact .inr h
theorem mrgI_rises (xs:List Int):(mrgI xs).Pairwise (· < ·):=(foldl_putI xs [] List.Pairwise.nil).1
theorem mrgI_mem (xs:List Int) (y:Int):y ∈ mrgI xs↔y ∈ xs:=by
 have:=(foldl_putI xs [] List.Pairwise.nil).2 y
 simpa [mrgI] using this
theorem putI_len (xs:List Int) (n:Int):(putI xs n).length≤xs.length+1:=by
 induction xs with
 | nil=>simp [putI]
 | cons x xs ih =>
  unfold putI
  split
  ·simp;omega
  ·split<;>simp
theorem foldl_putI_len:∀ (xs acc:List Int),(xs.foldl putI acc).length≤acc.length+xs.length
 | [],acc=>by simp
 | x::xs,acc=>by
  have:=foldl_putI_len xs (putI acc x)
  have:=putI_len acc x
  simp
  omega
theorem mrgI_len (xs:List Int):(mrgI xs).length≤xs.length:=by simpa [mrgI] using foldl_putI_len xs []
theorem putI_at:∀ (xs:List Int) (n:Int) (k:Nat),k≤xs.length→(∀ i,i<k→xs.getD i 0<n)→(k=xs.length∨¬ xs.getD k 0<n)→putI xs n=if k<xs.length∧xs.getD k 0=n then xs else xs.take k++[n]++xs.drop k
 | [],n,k,hk,_,_=>by
  have:k=0:=by simpa using hk
  subst this
  simp [putI]
 | x::xs,n,0,_,_,h=>by
  have hx:¬ x<n:=by simpa using h
  unfold putI
  rw [if_neg hx]
  simp
 | x::xs,n,k+1,hk,hl,h=>by
  have hx:x<n:=by simpa using hl 0 (by omega)
  unfold putI
  rw [if_pos hx]
  have ih:=putI_at xs n k (by simpa using hk) (fun i hi=>by simpa using hl (i+1) (by omega)) (by simpa using h)
  rw [ih]
  simp only [List.length_cons,Nat.add_lt_add_iff_right,List.getD_cons_succ,List.take_succ_cons,List.drop_succ_cons]
  split<;>simp
end Go.Proofs.YtbdfbdbpjijcdaaGreatDoor
