/-
  Joined: VmOfS, EntP, MgiJ, TchI.
-/
import Derived.Test.YtgmhhegckcionaaGreatDoorP12
import Derived.Test.YtgmhhegckcionaaGreatDoorP28

namespace Go.Proofs.YtgmhhegckcionaaGreatDoor
set_option maxRecDepth 100000
set_option maxHeartbeats 16000000
open Go.RowKit
set_option linter.unusedVariables false

def VmGotB (e:Ending) (w:World) (B:Nat) (z:V4) (b:Bool):Prop:=∃ t:S4,e=.returned (.tuple #[t.val,.bool b])∧OwnV w B t z
theorem VmGotB.mk9 {e:Ending} {w:World} {B:Nat} {z:V4} {b:Bool} (t:S4) (h:e=.returned (.tuple #[t.val,.bool b])) (hO:OwnV w B t z):VmGotB e w B z b:=⟨t,h,hO⟩

def OfB (s:ByteArray) (z:V4) (b:Bool):Prop:=b=shapeOk (bytesV s)∧(b=true→z=bytesV s)
theorem l00Digit_yes9 (x:Int) (w:World) (h:48≤x∧x≤57):Calls Tryz.prog 141 #[.int .u8 x] w fun e w'=>e=.returned (.bool true)∧w=w':=by
 have h1:decide (48≤x)=true:=by simp;omega
 have h2:decide (x≤57)=true:=by simp;omega
 go_enter Tryz.func141,Tryz.ntmps141
 go_wp2
 go_ret
 exact ⟨rfl,rfl⟩
theorem l00Digit_no9 (x:Int) (w:World) (h:¬ (48≤x∧x≤57)):Calls Tryz.prog 141 #[.int .u8 x] w fun e w'=>e=.returned (.bool false)∧w=w':=by
 by_cases h0:48≤x
 ·have h1:decide (48≤x)=true:=by simp;omega
  have h2:decide (x≤57)=false:=by simp;omega
  clear h
  go_enter Tryz.func141,Tryz.ntmps141
  go_wp2
  go_ret
  exact ⟨rfl,rfl⟩
 ·have h1:decide (48≤x)=false:=by simp;omega
  clear h
  go_enter Tryz.func141,Tryz.ntmps141
  go_wp2
  go_ret
  exact ⟨rfl,rfl⟩
theorem fill_mem (s:ByteArray) {off n i j:Nat} (h:j<n) (h':off+j<i):btV s (off+j) - 48 ∈ fillL s off n i:=by
 unfold fillL
 refine List.mem_map.2 ⟨j,by simpa using h,?_⟩
 rw [if_pos h']
theorem shape_digit {s:ByteArray} (h:shapeOk (bytesV s)=true) {i:Nat} (hi:i<15):48≤btV s i∧btV s i≤57:=by
 obtain ⟨_,_,_,_,hd⟩:=shape_parts h
 have key:btV s i - 48 ∈ allOf (bytesV s):=by
  unfold allOf bytesV partV
  simp only [List.mem_append]
  by_cases h0:i<3
  ·have:=fill_mem s (off:=0) (n:=3) (i:=15) (j:=i) h0 (by omega)
   rw [Nat.zero_add] at this
   exact .inl (.inl (.inl this))
  ·by_cases h1:i<7
   ·obtain ⟨j,rfl⟩:∃ j,i=3+j:=⟨i - 3,by omega⟩
    exact .inl (.inl (.inr (fill_mem s (by omega) (by omega))))
   ·by_cases h2:i<9
    ·obtain ⟨j,rfl⟩:∃ j,i=7+j:=⟨i - 7,by omega⟩
     exact .inl (.inr (fill_mem s (by omega) (by omega)))
    ·obtain ⟨j,rfl⟩:∃ j,i=9+j:=⟨i - 9,by omega⟩
     exact .inr (fill_mem s (by omega) (by omega))
 have:=hd _ key
 omega

theorem l03Of_15 (s:ByteArray) (w:World) (h15:s.size=15) :
  Calls Tryz.prog 103 #[.string s] w fun e w'=>(∃ z b,VmGotB e w' w.heap.size z b∧OfB s z b)∧Below w.heap.size w w':=by
 have kN:=specNewVm_is
 have kR:=fun t w h=>l03Shape_is t (bytesV s) w h
 have hfit:=partV_fits s 15
 have HD:Hid (∀ i,i<15→¬ (48≤btV s i∧btV s i≤57)→shapeOk (bytesV s)=false):=fun i hi hn=>by
  cases h:shapeOk (bytesV s)
  ·rfl
  ·exact absurd (shape_digit h hi) hn
 have bw:Below w.heap.size w (w.alloc (.cells #[.slice none 0 0,.slice none 0 0,.slice none 0 0,.slice none 0 0] 88)):=by go_grown
 have pR:=Blk.new w 88 [.slice none 0 0,.slice none 0 0,.slice none 0 0,.slice none 0 0]
 have hne:((s.size:Int) != 15)=false:=by simp [h15]
 have hsz:(s.size:Int)=15:=by omega
 go_enter Tryz.func103,Tryz.ntmps103
 go_wp2_with fail
 refine (kN _).mono ?_
 rintro e w1 ⟨⟨t,rfl,hO⟩,hb⟩
 obtain ⟨g0,g1,g2,g3,c0,c1,c2,c3,rfl,⟨l0,l1,l2,l3⟩,m0,m1,m2,m3⟩:=newVm_open hO
 unfold maxLen at m0 m1 m2 m3
 replace kR:=kR ((some ⟨g0,0,none⟩,3,c0),(some ⟨g1,0,none⟩,4,c1),(some ⟨g2,0,none⟩,2,c2),(some ⟨g3,0,none⟩,6,c3))
 have uX:S4.val ((some ⟨g0,0,none⟩,3,c0),(some ⟨g1,0,none⟩,4,c1),(some ⟨g2,0,none⟩,2,c2),(some ⟨g3,0,none⟩,6,c3))=.agg #[.slice (some ⟨g0,0,none⟩) 3 c0,.slice (some ⟨g1,0,none⟩) 4 c1,.slice (some ⟨g2,0,none⟩) 2 c2,.slice (some ⟨g3,0,none⟩) 6 c3]:=rfl
 rw [uX] at kR ⊢
 clear uX
 replace hO:=hO.lower9 bw.size
 have bA:Below w1.heap.size w1 (w1.alloc (.cells #[.slice (some ⟨g0,0,none⟩) 3 c0,.slice (some ⟨g1,0,none⟩) 4 c1,.slice (some ⟨g2,0,none⟩) 2 c2,.slice (some ⟨g3,0,none⟩) 6 c3] 88)):=by go_grown
 have pS:=Blk.new w1 88 [.slice (some ⟨g0,0,none⟩) 3 c0,.slice (some ⟨g1,0,none⟩) 4 c1,.slice (some ⟨g2,0,none⟩) 2 c2,.slice (some ⟨g3,0,none⟩) 6 c3]
 have hgS:w.heap.size<w1.heap.size:=Nat.lt_of_lt_of_le (by simp) hb.size
 replace bw:=bel_trans bw (bel_trans hb bA)
 replace pR:=pR.below (bel_trans hb bA)
 replace hO:=hO.below bA
 rw [← partV_zero s] at hO
 clear hb bA kN
 go_wp2_with fail
 generalize (w1.alloc (.cells #[.slice (some ⟨g0,0,none⟩) 3 c0,.slice (some ⟨g1,0,none⟩) 4 c1,.slice (some ⟨g2,0,none⟩) 2 c2,.slice (some ⟨g3,0,none⟩) 6 c3] 88))=W1 at *
 generalize w1.heap.size=gS at *
 go_loopw [5] (fun si wr=>∃ i:Nat,i≤15∧si=.int .i64 i∧OwnV wr w.heap.size ((some ⟨g0,0,none⟩,3,c0),(some ⟨g1,0,none⟩,4,c1),(some ⟨g2,0,none⟩,2,c2),(some ⟨g3,0,none⟩,6,c3)) (partV s i)∧Blk wr gS 88 [.slice (some ⟨g0,0,none⟩) 3 c0,.slice (some ⟨g1,0,none⟩) 4 c1,.slice (some ⟨g2,0,none⟩) 2 c2,.slice (some ⟨g3,0,none⟩) 6 c3]∧Blk wr w.heap.size 88 [.slice none 0 0,.slice none 0 0,.slice none 0 0,.slice none 0 0]∧Below w.heap.size w wr) (fun si _=>15 - (intOf si).toNat)
 case atStart=>exact ⟨0,by omega,rfl,hO,pS,pR,bw⟩
 case round =>
  clear hO pS pR bw
  obtain ⟨i,hi,rfl,hO,pS,pR,bw⟩:=hrel
  by_cases hlt:i<15
  ·have hbb:=btV_bounds s i
   by_cases hdg:48≤btV s i∧btV s i≤57
   ·have e0:=pS.cell 0
    have e1:=pS.cell 1
    have e2:=pS.cell 2
    have e3:=pS.cell 3
    simp only [List.getElem?_cons_zero,List.getElem?_cons_succ] at e0 e1 e2 e3
    by_cases k0:i<3
    ·skip
     have hix:=idx_btVz s (i) ((i:Int)) (by omega) (by omega)
     have hst:=hO.set0 i (btV s (i) - 48)
     rw [partV_0 s (by omega)] at hst
     obtain ⟨old,hold⟩:∃ u,wr.cell? ⟨g0,i,none⟩=some u:=⟨_,hO.1.1.at9 (by omega)⟩
     have hfz:=hO.1.1.frz9 i
     have hlo:=hO.1.1.lo9
     have neS:=hO.1.1.ne9 pS (by decide)
     have neR:=hO.1.1.ne9 pR (by decide)
     have kD:=fun w=>l00Digit_yes9 (btV s (i)) w hdg
     generalize btV s (i)=bx at *
     have pS2:=pS.off ⟨g0,i,none⟩ (.int .i64 (bx - 48)) neS
     have pR2:=pR.off ⟨g0,i,none⟩ (.int .i64 (bx - 48)) neR
     have b2:=bw.setCell (p:=⟨g0,i,none⟩) hlo.1 (.int .i64 (bx - 48))
     have hjI:(i:Int)<3:=by omega
     have hwb:IntKind.u8.wrap (bx - 48)=bx - 48:=IntWalk.u8_in _ (by omega)
     clear hO pS pR bw
     go_wp2_with fail
     refine (kD _).mono ?_
     rintro e wd ⟨rfl,rfl⟩
     go_wp2
     go_roundw
     case rel=>exact ⟨i+1,by omega,by go_num,hst,pS2,pR2,b2⟩
     case measure=>simp [intOf];omega
    ·by_cases k1:i<7
     ·obtain ⟨j,rfl⟩:∃ j,i=3+j:=⟨i - 3,by omega⟩
      have hix:=idx_btVz s (3+j) (3+(j:Int)) (by omega) (by omega)
      have hst:=hO.set1 j (btV s (3+j) - 48)
      rw [partV_1 s (by omega)] at hst
      obtain ⟨old,hold⟩:∃ u,wr.cell? ⟨g1,j,none⟩=some u:=⟨_,hO.1.2.1.at9 (by omega)⟩
      have hfz:=hO.1.2.1.frz9 j
      have hlo:=hO.1.2.1.lo9
      have neS:=hO.1.2.1.ne9 pS (by decide)
      have neR:=hO.1.2.1.ne9 pR (by decide)
      have kD:=fun w=>l00Digit_yes9 (btV s (3+j)) w hdg
      generalize btV s (3+j)=bx at *
      have pS2:=pS.off ⟨g1,j,none⟩ (.int .i64 (bx - 48)) neS
      have pR2:=pR.off ⟨g1,j,none⟩ (.int .i64 (bx - 48)) neR
      have b2:=bw.setCell (p:=⟨g1,j,none⟩) hlo.1 (.int .i64 (bx - 48))
      have hjI:(j:Int)<4:=by omega
      have hwb:IntKind.u8.wrap (bx - 48)=bx - 48:=IntWalk.u8_in _ (by omega)
      clear hO pS pR bw
      go_wp2_with fail
      refine (kD _).mono ?_
      rintro e wd ⟨rfl,rfl⟩
      go_wp2
      go_roundw
      case rel=>exact ⟨3+j+1,by omega,by go_num,hst,pS2,pR2,b2⟩
      case measure=>simp [intOf];omega
     ·by_cases k2:i<9
      ·obtain ⟨j,rfl⟩:∃ j,i=7+j:=⟨i - 7,by omega⟩
       have hix:=idx_btVz s (7+j) (7+(j:Int)) (by omega) (by omega)
       have hst:=hO.set2 j (btV s (7+j) - 48)
       rw [partV_2 s (by omega)] at hst
       obtain ⟨old,hold⟩:∃ u,wr.cell? ⟨g2,j,none⟩=some u:=⟨_,hO.1.2.2.1.at9 (by omega)⟩
       have hfz:=hO.1.2.2.1.frz9 j
       have hlo:=hO.1.2.2.1.lo9
       have neS:=hO.1.2.2.1.ne9 pS (by decide)
       have neR:=hO.1.2.2.1.ne9 pR (by decide)
       have kD:=fun w=>l00Digit_yes9 (btV s (7+j)) w hdg
       generalize btV s (7+j)=bx at *
       have pS2:=pS.off ⟨g2,j,none⟩ (.int .i64 (bx - 48)) neS
       have pR2:=pR.off ⟨g2,j,none⟩ (.int .i64 (bx - 48)) neR
       have b2:=bw.setCell (p:=⟨g2,j,none⟩) hlo.1 (.int .i64 (bx - 48))
       have hjI:(j:Int)<2:=by omega
       have hwb:IntKind.u8.wrap (bx - 48)=bx - 48:=IntWalk.u8_in _ (by omega)
       have r1:(7:Int)+(j:Int) - 3=4+(j:Int):=by omega
       have r2:(4:Int)+(j:Int) - 4=(j:Int):=by omega
       clear hO pS pR bw
       go_wp2_with fail
       refine (kD _).mono ?_
       rintro e wd ⟨rfl,rfl⟩
       go_wp2
       go_roundw
       case rel=>exact ⟨7+j+1,by omega,by go_num,hst,pS2,pR2,b2⟩
       case measure=>simp [intOf];omega
      ·obtain ⟨j,rfl⟩:∃ j,i=9+j:=⟨i - 9,by omega⟩
       have hix:=idx_btVz s (9+j) (9+(j:Int)) (by omega) (by omega)
       have hst:=hO.set3 j (btV s (9+j) - 48)
       rw [partV_3 s (by omega)] at hst
       obtain ⟨old,hold⟩:∃ u,wr.cell? ⟨g3,j,none⟩=some u:=⟨_,hO.1.2.2.2.at9 (by omega)⟩
       have hfz:=hO.1.2.2.2.frz9 j
       have hlo:=hO.1.2.2.2.lo9
       have neS:=hO.1.2.2.2.ne9 pS (by decide)
       have neR:=hO.1.2.2.2.ne9 pR (by decide)
       have kD:=fun w=>l00Digit_yes9 (btV s (9+j)) w hdg
       generalize btV s (9+j)=bx at *
       have pS2:=pS.off ⟨g3,j,none⟩ (.int .i64 (bx - 48)) neS
       have pR2:=pR.off ⟨g3,j,none⟩ (.int .i64 (bx - 48)) neR
       have b2:=bw.setCell (p:=⟨g3,j,none⟩) hlo.1 (.int .i64 (bx - 48))
       have hjI:(j:Int)<6:=by omega
       have hwb:IntKind.u8.wrap (bx - 48)=bx - 48:=IntWalk.u8_in _ (by omega)
       have r1:(9:Int)+(j:Int) - 3=6+(j:Int):=by omega
       have r2:(6:Int)+(j:Int) - 4=2+(j:Int):=by omega
       have r3:(2:Int)+(j:Int) - 2=(j:Int):=by omega
       clear hO pS pR bw
       go_wp2_with fail
       refine (kD _).mono ?_
       rintro e wd ⟨rfl,rfl⟩
       go_wp2
       go_roundw
       case rel=>exact ⟨9+j+1,by omega,by go_num,hst,pS2,pR2,b2⟩
       case measure=>simp [intOf];omega
   ·have hix:=idx_btV s i (by omega)
    have hnd:=HD.out i hlt hdg
    have kD:=fun w=>l00Digit_no9 (btV s i) w hdg
    have HB:OfB s ([],[],[],[]) false:=⟨hnd.symm,fun h=>by cases h⟩
    clear hnd hO pS
    generalize btV s i=bx at *
    go_wp2_with fail
    refine (kD _).mono ?_
    rintro e wd ⟨rfl,rfl⟩
    go_wp2_with (refine wpList_store_blk rfl 88 _ _ rfl w.heap.size [.slice none 0 0,.slice none 0 0,.slice none 0 0,.slice none 0 0] rfl rfl pR (by kernel_rfl) rfl rfl ?_)
    intro w4 pR4 g4
    replace bw:=bw.grown g4 bw.size (fun x hx=>by cases hx;omega)
    clear g4
    go_wp2_with fail
    refine bodyPost_ret (results_blk2 Tryz.results103 _ _ _ _ _ _ rfl pR4.out Tryz.underlying88 rfl (by kernel_rfl)) rfl ?_
    exact ⟨⟨_,_,VmGotB.mk9 ((none,0,0),(none,0,0),(none,0,0),(none,0,0)) rfl (ownV_nil _ _),HB⟩,bw⟩
  ·obtain rfl:i=15:=by omega
   have hO':OwnV wr w.heap.size ((some ⟨g0,0,none⟩,3,c0),(some ⟨g1,0,none⟩,4,c1),(some ⟨g2,0,none⟩,2,c2),(some ⟨g3,0,none⟩,6,c3)) (bytesV s):=hO
   have e0:=pS.cell 0
   have e1:=pS.cell 1
   have e2:=pS.cell 2
   have e3:=pS.cell 3
   simp only [List.getElem?_cons_zero,List.getElem?_cons_succ] at e0 e1 e2 e3
   have kR1:=fun (W:World) (h:OwnV W w.heap.size ((some ⟨g0,0,none⟩,3,c0),(some ⟨g1,0,none⟩,4,c1),(some ⟨g2,0,none⟩,2,c2),(some ⟨g3,0,none⟩,6,c3)) (bytesV s))=>kR W (h.mem hfit)
   obtain ⟨sb,hsb⟩:∃ sb,sb=shapeOk (bytesV s):=⟨_,rfl⟩
   rw [← hsb] at kR1
   have HB:OfB s (bytesV s) sb:=⟨hsb,fun _=>rfl⟩
   clear hO kR HD hsb
   go_wp2_with fail
   refine wp_region_held_drew (S:=(fun w'=>w'.cell? ⟨gS,0,none⟩=some (.slice (some ⟨g0,0,none⟩) 3 c0)∧w'.cell? ⟨gS,1,none⟩=some (.slice (some ⟨g1,0,none⟩) 4 c1)∧w'.cell? ⟨gS,2,none⟩=some (.slice (some ⟨g2,0,none⟩) 2 c2)∧w'.cell? ⟨gS,3,none⟩=some (.slice (some ⟨g3,0,none⟩) 6 c3))) (by kernel_rfl) ⟨e0,e1,e2,e3⟩ (fun hS0=>?_)
   refine tkm 0 64 (.agg #[.slice (some ⟨g0,0,none⟩) 3 c0,.slice (some ⟨g1,0,none⟩) 4 c1,.slice (some ⟨g2,0,none⟩) 2 c2,.slice (some ⟨g3,0,none⟩) 6 c3]) ?_
   refine tkm 1 65 (.agg #[.slice (some ⟨g0,0,none⟩) 3 c0,.slice (some ⟨g1,0,none⟩) 4 c1,.slice (some ⟨g2,0,none⟩) 2 c2,.slice (some ⟨g3,0,none⟩) 6 c3]) ?_
   refine tkr 2 66 (fun K hK=>?_)
   go_simp
   refine (kR1 _ (hO'.below (by go_grown))).mono ?_
   rintro e w3 ⟨rfl,hb⟩
   go_wp2_with fail
   refine hK.out _ _ ?_ (fun hS1=>?_)
   ·exact ⟨cells_kept hb _ _ hS0.1,cells_kept hb _ _ hS0.2.1,cells_kept hb _ _ hS0.2.2.1,cells_kept hb _ _ hS0.2.2.2⟩
   clear hK
   try simp only [Act.put,tka,tkb,tkc]
   have hbd:Below wr.heap.size wr w3:=bel_trans (by go_grown) hb
   replace bw:=bel_trans bw hbd
   replace pS:=pS.below hbd
   replace pR:=pR.below hbd
   replace hO':=hO'.below hbd
   clear hb hbd hS0 e0 e1 e2 e3 kR1
   have nSR:gS≠w.heap.size:=by omega
   have r0:w3.cell? ⟨w.heap.size,0,none⟩=some (.slice none 0 0):=by simpa using pR.cell 0
   have r1:w3.cell? ⟨w.heap.size,1,none⟩=some (.slice none 0 0):=by simpa using pR.cell 1
   have r2:w3.cell? ⟨w.heap.size,2,none⟩=some (.slice none 0 0):=by simpa using pR.cell 2
   have r3:w3.cell? ⟨w.heap.size,3,none⟩=some (.slice none 0 0):=by simpa using pR.cell 3
   have f0:=pR.frozen 0
   have f1:=pR.frozen 1
   have f2:=pR.frozen 2
   have f3:=pR.frozen 3
   have pR4:=(((pR.set 0 (.slice (some ⟨g0,0,none⟩) 3 c0)).set 1 (.slice (some ⟨g1,0,none⟩) 4 c1)).set 2 (.slice (some ⟨g2,0,none⟩) 2 c2)).set 3 (.slice (some ⟨g3,0,none⟩) 6 c3)
   simp only [List.set_cons_zero,List.set_cons_succ] at pR4
   have pS4:=(((pS.off ⟨w.heap.size,0,none⟩ (.slice (some ⟨g0,0,none⟩) 3 c0) nSR).off ⟨w.heap.size,1,none⟩ (.slice (some ⟨g1,0,none⟩) 4 c1) nSR).off ⟨w.heap.size,2,none⟩ (.slice (some ⟨g2,0,none⟩) 2 c2) nSR).off ⟨w.heap.size,3,none⟩ (.slice (some ⟨g3,0,none⟩) 6 c3) nSR
   have b4:=(((bw.setCell (p:=⟨w.heap.size,0,none⟩) (Nat.le_refl _) (.slice (some ⟨g0,0,none⟩) 3 c0)).setCell (p:=⟨w.heap.size,1,none⟩) (Nat.le_refl _) (.slice (some ⟨g1,0,none⟩) 4 c1)).setCell (p:=⟨w.heap.size,2,none⟩) (Nat.le_refl _) (.slice (some ⟨g2,0,none⟩) 2 c2)).setCell (p:=⟨w.heap.size,3,none⟩) (Nat.le_refl _) (.slice (some ⟨g3,0,none⟩) 6 c3)
   have hO4:=(((hO'.awayB9 pR (by decide) 0 (.slice (some ⟨g0,0,none⟩) 3 c0)).awayB9 (pR.set 0 (.slice (some ⟨g0,0,none⟩) 3 c0)) (by decide) 1 (.slice (some ⟨g1,0,none⟩) 4 c1)).awayB9 ((pR.set 0 (.slice (some ⟨g0,0,none⟩) 3 c0)).set 1 (.slice (some ⟨g1,0,none⟩) 4 c1)) (by decide) 2 (.slice (some ⟨g2,0,none⟩) 2 c2)).awayB9 (((pR.set 0 (.slice (some ⟨g0,0,none⟩) 3 c0)).set 1 (.slice (some ⟨g1,0,none⟩) 4 c1)).set 2 (.slice (some ⟨g2,0,none⟩) 2 c2)) (by decide) 3 (.slice (some ⟨g3,0,none⟩) 6 c3)
   refine tkz 3 (fun K hK=>?_)
   go_simp
   refine hK.out _ _ ?_ (fun hS2=>?_)
   ·exact ⟨by simpa using pS4.cell 0,by simpa using pS4.cell 1,by simpa using pS4.cell 2,by simpa using pS4.cell 3⟩
   clear hK
   try simp only [Act.put,tka,tkb,tkc]
   refine tkm 4 3 (.bool sb) ?_
   refine wpAnyH_done (by kernel_rfl) ?_ _
   clear hS1 hS2 r0 r1 r2 r3 f0 f1 f2 f3 pR pS bw hO' pS4
   generalize (((w3.setCell ⟨w.heap.size,0,none⟩ (.slice (some ⟨g0,0,none⟩) 3 c0)).setCell ⟨w.heap.size,1,none⟩ (.slice (some ⟨g1,0,none⟩) 4 c1)).setCell ⟨w.heap.size,2,none⟩ (.slice (some ⟨g2,0,none⟩) 2 c2)).setCell ⟨w.heap.size,3,none⟩ (.slice (some ⟨g3,0,none⟩) 6 c3)=w5 at *
   go_wp2_with fail
   refine bodyPost_ret (results_blk2 Tryz.results103 _ _ _ _ _ _ rfl pR4 Tryz.underlying88 rfl (by kernel_rfl)) rfl ?_
   exact ⟨⟨_,_,VmGotB.mk9 ((some ⟨g0,0,none⟩,3,c0),(some ⟨g1,0,none⟩,4,c1),(some ⟨g2,0,none⟩,2,c2),(some ⟨g3,0,none⟩,6,c3)) rfl hO4,HB⟩,b4⟩

def vmOfZ (s:ByteArray):V4:=if s.size≠15 then ([],[],[],[]) else if shapeOk (bytesV s) then bytesV s else ([],[],[],[])
def vmOfC (s:ByteArray):Int:=if 65536<s.size then 2 else if s.size≠15 then 3 else if shapeOk (bytesV s) then 0 else 3
theorem implVmOf_is (s:ByteArray) (w:World) (hs:s.size≤1048576) (hV:VmShape w) :
  Calls Tryz.prog 72 #[.string s] w fun e w'=>VmGot e w' w.heap.size (vmOfZ s) (vmOfC s)∧Below w.heap.size w w':=by
 unfold vmOfZ vmOfC
 by_cases hl:65536<s.size
 ·rw [if_pos (show s.size≠15 by omega),if_pos hl]
  refine (implVmOf_long s w hs hl).mono ?_
  rintro e w' ⟨rfl,hb⟩
  exact ⟨VmGot.mk9 ((none,0,0),(none,0,0),(none,0,0),(none,0,0)) rfl (ownV_nil _ _),hb⟩
 ·rw [if_neg hl]
  by_cases h15:s.size=15
  ·have hn:¬ (s.size≠15):=fun h=>h h15
   simp only [if_neg hn]
   exact implVmOf_15 s w h15 hV
  ·rw [if_pos h15,if_pos h15]
   refine (implVmOf_size s w (by omega) h15).mono ?_
   rintro e w' ⟨rfl,hb⟩
   exact ⟨VmGot.mk9 ((none,0,0),(none,0,0),(none,0,0),(none,0,0)) rfl (ownV_nil _ _),hb⟩

set_option linter.unusedSimpArgs false

theorem allR_false {f:Nat→Bool} {n k:Nat} (hk:k<n) (h:f k=false):(List.range n).all f=false:=by
 rw [List.all_eq_false]
 exact ⟨k,List.mem_range.2 hk,by rw [h];simp⟩
theorem allR_true {f:Nat→Bool} {n:Nat} (h:∀ k,k<n→f k=true):(List.range n).all f=true:=by
 rw [List.all_eq_true]
 exact fun k hk=>h k (List.mem_range.1 hk)
theorem allR_at {f:Nat→Bool} {n k:Nat} (h:(List.range n).all f=true) (hk:k<n):f k=true:=List.all_eq_true.1 h k (List.mem_range.2 hk)

def bStep (xs:List I3) (i:Nat):Bool:=okB (xs.getD i (0,0,0)) && (decide (i=0) || ltB (xs.getD (i - 1) (0,0,0)) (xs.getD i (0,0,0)))
def riseB (xs:List I3):Bool:=(List.range xs.length).all (bStep xs)
def iStep (zs:List Int) (i:Nat):Bool:=itOk (zs.getD i 0) && (decide (i=0) || decide (zs.getD (i - 1) 0<zs.getD i 0))
def riseI (zs:List Int):Bool:=(List.range zs.length).all (iStep zs)
def keyOk9 (k:ByteArray):Bool:=decide (k.size=15) && shapeOk (bytesV k)
def entOk (e:E3):Bool:=keyOk9 e.1 && (riseB e.2.1 && (riseI e.2.2 && decide (e.2.1.length≤30)))
def mStep (es:List E3) (i:Nat):Bool:=entOk (es.getD i e3d) && (decide (i=0) || ltS (es.getD (i - 1) e3d).1 (es.getD i e3d).1)
def memOk (es:List E3):Bool:=(List.range es.length).all (mStep es) && decide (es.length≤2000)

theorem memOk_len {es:List E3} (h:memOk es=true):es.length≤2000:=by
 simp only [memOk,Bool.and_eq_true,decide_eq_true_eq] at h
 exact h.2
theorem memOk_ent {es:List E3} (h:memOk es=true) {i:Nat} (hi:i<es.length):entOk (es.getD i e3d)=true:=by
 simp only [memOk,Bool.and_eq_true,decide_eq_true_eq] at h
 have:=allR_at h.1 hi
 simp only [mStep,Bool.and_eq_true] at this
 exact this.1
theorem memOk_next {es:List E3} (h:memOk es=true) {i:Nat} (hi:i+1<es.length):ltS (es.getD i e3d).1 (es.getD (i+1) e3d).1=true:=by
 simp only [memOk,Bool.and_eq_true,decide_eq_true_eq] at h
 have:=allR_at h.1 hi
 simp only [mStep,Bool.and_eq_true,Bool.or_eq_true,decide_eq_true_eq] at this
 rcases this.2 with h0 | h1
 ·omega
 ·simpa using h1
theorem memOk_lt {es:List E3} (h:memOk es=true):∀ {j i:Nat},i<j→j<es.length→ltS (es.getD i e3d).1 (es.getD j e3d).1=true
 | 0,i,hi,_=>by omega
 | j+1,i,hi,hj=>by
  have hn:=memOk_next h (i:=j) hj
  by_cases e:i=j
  ·rw [e];exact hn
  ·exact ltS_trans (memOk_lt h (j:=j) (i:=i) (by omega) (by omega)) hn

def plcE (es:List E3) (k:ByteArray):Nat:=(es.takeWhile fun e=>ltS e.1 k).length
theorem plcE_le (es:List E3) (k:ByteArray):plcE es k≤es.length:=by
 unfold plcE
 exact (List.takeWhile_prefix _).length_le
theorem takeW_at {α:Type} {p:α→Bool} {d:α}:∀ {l:List α} {i:Nat},i<(l.takeWhile p).length→p (l.getD i d)=true
 | [],i,h=>by simp at h
 | x::l,i,h=>by
  by_cases hx:p x=true
  ·rw [List.takeWhile_cons_of_pos hx] at h
   cases i with
   | zero=>simpa using hx
   | succ i=>simpa using takeW_at (l:=l) (i:=i) (by simpa using h)
  ·rw [List.takeWhile_cons_of_neg hx] at h
   simp at h
theorem takeW_stop {α:Type} {p:α→Bool} {d:α}:∀ {l:List α},(l.takeWhile p).length<l.length→p (l.getD (l.takeWhile p).length d)=false
 | [],h=>by simp at h
 | x::l,h=>by
  by_cases hx:p x=true
  ·rw [List.takeWhile_cons_of_pos hx] at h ⊢
   simpa using takeW_stop (l:=l) (by simpa using h)
  ·rw [List.takeWhile_cons_of_neg hx]
   simpa using hx
theorem plcE_ahead {es:List E3} {k:ByteArray} {i:Nat} (h:i<plcE es k):ltS (es.getD i e3d).1 k=true:=takeW_at (p:=fun e:E3=>ltS e.1 k) (d:=e3d) h
theorem plcE_stop {es:List E3} {k:ByteArray} (h:plcE es k<es.length):ltS (es.getD (plcE es k) e3d).1 k=false:=takeW_stop (p:=fun e:E3=>ltS e.1 k) (d:=e3d) h
theorem plcE_of {es:List E3} {k:ByteArray} {n:Nat} (h1:∀ i,i<n→ltS (es.getD i e3d).1 k=true) (hn:n≤es.length) (h2:n<es.length→ltS (es.getD n e3d).1 k=false):plcE es k=n:=by
 by_cases hlt:plcE es k<n
 ·have a:=plcE_stop (k:=k) (show plcE es k<es.length by omega)
  rw [h1 _ hlt] at a
  cases a
 ·by_cases hgt:n<plcE es k
  ·have a:=plcE_ahead hgt
   have b:=h2 (by have:=plcE_le es k;omega)
   rw [a] at b
   cases b
  ·omega
theorem plcE_behind {es:List E3} (h:memOk es=true) {k:ByteArray} {i:Nat} (hi:plcE es k≤i) (hl:i<es.length):ltS (es.getD i e3d).1 k=false:=by
 by_cases e:i=plcE es k
 ·rw [e];exact plcE_stop (by omega)
 ·cases hc:ltS (es.getD i e3d).1 k
  ·rfl
  ·have:=ltS_trans (memOk_lt h (i:=plcE es k) (j:=i) (by omega) hl) hc
   rw [plcE_stop (by omega)] at this
   cases this
def isE (es:List E3) (k:ByteArray):Bool:=decide (plcE es k<es.length) && decide ((es.getD (plcE es k) e3d).1=k)
def fndE (es:List E3) (k:ByteArray):E3:=if isE es k then es.getD (plcE es k) e3d else e3d
def putE (es:List E3) (e:E3):List E3:=(es.take (plcE es e.1)++[e])++es.drop (if isE es e.1 then plcE es e.1+1 else plcE es e.1)


theorem rows_one (w:World) {a:Option Addr} {n c:Nat} {xs:List Int} (h:Ints .i64 w a n c xs):RowsI (w.alloc (.cells #[.slice a n c] 36)) (some ⟨w.heap.size,0,none⟩) 1 1 [xs]:=by
 have b1:Below w.heap.size w (w.alloc (.cells #[.slice a n c] 36)):=by go_grown
 refine ⟨rfl,Nat.le_refl _,by unfold maxLen;omega,[.slice a n c],(AllL.nil _).snoc ⟨_,_,_,rfl,h.below b1⟩,.inr ⟨_,_,rfl,by simp,fun t ht=>?_⟩⟩
 match t,ht with
 | 0,_=>simp [go_sem]


theorem mem_drop8 {Z:List Int} {k:Nat} (h:k<Z.length) (y:Int):decide (y ∈ Z.drop k)=(decide (y=Z.getD k 0) || decide (y ∈ Z.drop (k+1))):=by
 have e:(y ∈ Z.drop k)↔(y=Z.getD k 0∨y ∈ Z.drop (k+1)):=by
  rw [List.drop_eq_getElem_cons h,List.mem_cons]
  simp only [List.getD,List.getElem?_eq_getElem h,Option.getD_some]
 simp only [e,Bool.decide_or]
theorem l07In8 (a:Option Addr) (n cap:Nat) (Z:List Int) (y:Int) (w:World) (h:Ints .i64 w a n cap Z) (hn:n≤1048576) :
  Calls Tryz.prog 106 #[.slice a n cap,.int .i64 y] w fun e w'=>e=.returned (.bool (decide (y ∈ Z)))∧w=w':=by
 have hl:=h.1
 obtain ⟨r,hr⟩:∃ r,r=decide (y ∈ Z):=⟨_,rfl⟩
 rw [← hr]
 have HR:Hid (r=decide (y ∈ Z.drop 0)):=by rw [Hid];simpa using hr
 clear hr
 go_enter Tryz.func106,Tryz.ntmps106
 go_wp2_with fail
 go_loopw [5] (fun si wr=>∃ k:Nat,k≤n∧si=.int .i64 k∧Hid (r=decide (y ∈ Z.drop k))∧w=wr) (fun si _=>n - (Go.RowKit.intOf si).toNat)
 case atStart=>exact ⟨0,by omega,rfl,HR,rfl⟩
 case round =>
  clear HR
  obtain ⟨k,hk,rfl,HR,rfl⟩:=hrel
  by_cases hlt:k<n
  ·have hm:=mem_drop8 (Z:=Z) (k:=k) (by omega) y
   obtain ⟨_,_,_,hcase⟩:=h
   rcases hcase with e0 | ⟨b,off,rfl,hb,hc⟩
   ·omega
   have d0:=hc k hlt
   clear hc hb
   generalize Z.getD k 0=x at d0 hm
   have HM:Hid (decide (y ∈ Z.drop k)=(decide (y=x) || decide (y ∈ Z.drop (k+1)))):=hm
   clear hm
   have hlt':(k:Int)<(n:Int):=by omega
   have hk0:(0:Int)≤(k:Int):=by omega
   by_cases hE:y=x
   ·subst hE
    have HF:Hid (r=true):=by rw [Hid,HR.out,HM.out];simp
    clear HM HR
    have q0:(y == y)=true:=by simp
    go_wp2
    go_ret
    exact ⟨by rw [HF.out];rfl,rfl⟩
   ·have HF:Hid (r=decide (y ∈ Z.drop (k+1))):=by rw [Hid,HR.out,HM.out];simp [hE]
    clear HM HR
    have q0:(x == y)=false:=by simp;exact fun e=>hE e.symm
    clear hE
    go_wp2
    go_roundw
    case rel=>exact ⟨k+1,by omega,by go_num,HF,by first | rfl | trivial⟩
    case measure=>simp [Go.RowKit.intOf];omega
  ·obtain rfl:k=n:=by omega
   have HF:Hid (r=false):=by rw [Hid,HR.out,List.drop_of_length_le (by omega)];simp
   clear HR
   go_wp2
   go_ret
   exact ⟨by rw [HF.out];rfl,rfl⟩

def tchB (xs ys:List Int):Bool:=xs.any (fun x=>decide (x ∈ ys))
theorem tchB_drop {xs ys:List Int} {k:Nat} (h:k<xs.length):tchB (xs.drop k) ys=(decide (xs.getD k 0 ∈ ys) || tchB (xs.drop (k+1)) ys):=by
 unfold tchB
 rw [List.drop_eq_getElem_cons h,List.any_cons]
 simp [List.getD,List.getElem?_eq_getElem h]
def tchV (xs ys:List Int):Bool:=decide (xs.length≤4096) && (decide (ys.length≤4096) && tchB xs ys)

theorem specTouches_is (a:Option Addr) (n c:Nat) (xs:List Int) (a':Option Addr) (n' c':Nat) (ys:List Int) (w:World) (h:Ints .i64 w a n c xs) (h':Ints .i64 w a' n' c' ys) (hn:n≤1048576) (hn':n'≤1048576) :
  Calls Tryz.prog 68 #[.slice a n c,.slice a' n' c'] w fun e w'=>e=.returned (.bool (tchV xs ys))∧w=w':=by
 have hl:=h.1
 have hl':=h'.1
 by_cases h1:4096<n
 ·rw [show tchV xs ys=false by unfold tchV;rw [show decide (xs.length≤4096)=false by simp;omega];rfl]
  go_enter Tryz.func68,Tryz.ntmps68
  go_wp2
  go_ret
  exact ⟨rfl,rfl⟩
 by_cases h2:4096<n'
 ·rw [show tchV xs ys=false by unfold tchV;rw [show decide (ys.length≤4096)=false by simp;omega,Bool.false_and,Bool.and_false]]
  go_enter Tryz.func68,Tryz.ntmps68
  go_wp2
  go_ret
  exact ⟨rfl,rfl⟩
 have e0:tchV xs ys=tchB xs ys:=by unfold tchV;rw [show decide (xs.length≤4096)=true by simp;omega,show decide (ys.length≤4096)=true by simp;omega];simp
 rw [e0]
 clear e0
 have kI:=fun x=>l07In8 a' n' c' ys x w h' hn'
 obtain ⟨r,hr⟩:∃ r,r=tchB xs ys:=⟨_,rfl⟩
 rw [← hr]
 have HR:Hid (r=tchB (xs.drop 0) ys):=by rw [Hid];simpa using hr
 clear hr
 go_enter Tryz.func68,Tryz.ntmps68
 go_wp2_with fail
 go_loopw [5] (fun si wr=>∃ k:Nat,k≤n∧si=.int .i64 k∧Hid (r=tchB (xs.drop k) ys)∧w=wr) (fun si _=>n - (Go.RowKit.intOf si).toNat)
 case atStart=>exact ⟨0,by omega,rfl,HR,rfl⟩
 case round =>
  clear HR
  obtain ⟨k,hk,rfl,HR,rfl⟩:=hrel
  by_cases hlt:k<n
  ·have hm:=tchB_drop (xs:=xs) (ys:=ys) (k:=k) (by omega)
   obtain ⟨_,_,_,hcase⟩:=h
   rcases hcase with e0 | ⟨b,off,rfl,hb,hc⟩
   ·omega
   have d0:=hc k hlt
   clear hc hb
   generalize xs.getD k 0=x at d0 hm
   have kO:=kI x
   have HM:Hid (tchB (xs.drop k) ys=(decide (x ∈ ys) || tchB (xs.drop (k+1)) ys)):=hm
   clear hm
   have hlt':(k:Int)<(n:Int):=by omega
   have hk0:(0:Int)≤(k:Int):=by omega
   cases hE:decide (x ∈ ys)
   ·rw [hE] at kO
    have HF:Hid (r=tchB (xs.drop (k+1)) ys):=by rw [Hid,HR.out,HM.out,hE];rfl
    clear HM HR hE
    go_wp2_with fail
    refine kO.mono ?_
    rintro e w1 ⟨rfl,rfl⟩
    go_wp2
    go_roundw
    case rel=>exact ⟨k+1,by omega,by go_num,HF,by first | rfl | trivial⟩
    case measure=>simp [Go.RowKit.intOf];omega
   ·rw [hE] at kO
    have HF:Hid (r=true):=by rw [Hid,HR.out,HM.out,hE];rfl
    clear HM HR hE
    go_wp2_with fail
    refine kO.mono ?_
    rintro e w1 ⟨rfl,rfl⟩
    go_wp2
    go_ret
    exact ⟨by rw [HF.out];rfl,rfl⟩
  ·obtain rfl:k=n:=by omega
   have HF:Hid (r=false):=by rw [Hid,HR.out,List.drop_of_length_le (by omega)];rfl
   clear HR
   go_wp2
   go_ret
   exact ⟨by rw [HF.out];rfl,rfl⟩

theorem implTouches_is (a:Option Addr) (n c:Nat) (xs:List Int) (a':Option Addr) (n' c':Nat) (ys:List Int) (w:World) (h:Ints .i64 w a n c xs) (h':Ints .i64 w a' n' c' ys) (hn:n≤1048576) (hn':n'≤1048576) (hw:wfs xs) (hw':wfs ys) :
  Calls Tryz.prog 64 #[.slice a n c,.slice a' n' c'] w fun e w'=>e=.returned (.bool (tchV xs ys))∧Below w.heap.size w w':=by
 have hl:=h.1
 have hl':=h'.1
 by_cases h1:4096<n
 ·rw [show tchV xs ys=false by unfold tchV;rw [show decide (xs.length≤4096)=false by simp;omega];rfl]
  go_enter Tryz.func64,Tryz.ntmps64
  go_wp2
  go_ret
  exact ⟨rfl,Below.refl _ _⟩
 by_cases h2:4096<n'
 ·rw [show tchV xs ys=false by unfold tchV;rw [show decide (ys.length≤4096)=false by simp;omega,Bool.false_and,Bool.and_false]]
  go_enter Tryz.func64,Tryz.ntmps64
  go_wp2
  go_ret
  exact ⟨rfl,Below.refl _ _⟩
 have e0:tchV xs ys=tchB xs ys:=by unfold tchV;rw [show decide (xs.length≤4096)=true by simp;omega,show decide (ys.length≤4096)=true by simp;omega];simp
 rw [e0]
 clear e0
 have b1:Below w.heap.size w (w.alloc (.cells #[.slice a' n' c'] 36)):=by go_grown
 have kM:=mapOf_is (some ⟨w.heap.size,0,none⟩) 1 1 [ys] _ (rows_one w h') (by omega) (by simp;omega) (fun x hx=>hw' x (by simpa using hx))
 have e9:[ys].flatten=ys:=by simp
 rw [e9] at kM
 clear e9
 obtain ⟨r,hr⟩:∃ r,r=tchB xs ys:=⟨_,rfl⟩
 rw [← hr]
 have HR:Hid (r=tchB (xs.drop 0) ys):=by rw [Hid];simpa using hr
 clear hr
 go_enter Tryz.func64,Tryz.ntmps64
 go_wp2_with fail
 refine kM.mono ?_
 rintro e w1 ⟨⟨rfl,D,hm,hS⟩,hb⟩
 replace hb:=bel8 b1 hb
 have h9:=h.below hb
 clear kM b1
 generalize (w.alloc (.cells #[.slice a' n' c'] 36)).heap.size=nb at *
 go_wp2_with fail
 go_loopw [23] (fun si wr=>∃ k:Nat,k≤n∧si=.int .i64 k∧Hid (r=tchB (xs.drop k) ys)∧w1=wr) (fun si _=>n - (Go.RowKit.intOf si).toNat)
 case atStart=>exact ⟨0,by omega,rfl,HR,rfl⟩
 case round =>
  clear HR
  obtain ⟨k,hk,rfl,HR,rfl⟩:=hrel
  by_cases hlt:k<n
  ·have hm9:=tchB_drop (xs:=xs) (ys:=ys) (k:=k) (by omega)
   have hx:=hw (xs.getD k 0) (by simp [List.getD,List.getElem?_eq_getElem (show k<xs.length by omega)])
   obtain ⟨_,_,_,hcase⟩:=h9
   rcases hcase with e0 | ⟨b,off,rfl,hb9,hc⟩
   ·omega
   have d0:=hc k hlt
   clear hc hb9
   generalize xs.getD k 0=x at d0 hm9 hx
   have hkey:=key_int8 hx
   have hH:=hS.has x
   have HM:Hid (tchB (xs.drop k) ys=(decide (x ∈ ys) || tchB (xs.drop (k+1)) ys)):=hm9
   clear hm9 hx
   have hlt':(k:Int)<(n:Int):=by omega
   have hk0:(0:Int)≤(k:Int):=by omega
   by_cases hE:x ∈ ys
   ·have HF:Hid (r=true):=by rw [Hid,HR.out,HM.out];simp [hE]
    have hT:Maps.has D (.int .i64 x)=true:=hH.2 hE
    clear HM HR hE hH
    go_wp2_with (at_lookup;refine wpList_lookup_own_ok_int _ rfl _ _ 173 rfl 3 3 .i64 law_int8 Tryz.underlying173 Tryz.underlying3 (zero_int8 _) nb ys.length D rfl hm _ _ rfl hkey ?_;intro cc hat hwc;rw [hT];clear hat hwc)
    go_ret
    exact ⟨by rw [HF.out];rfl,hb⟩
   ·have HF:Hid (r=tchB (xs.drop (k+1)) ys):=by rw [Hid,HR.out,HM.out];simp [hE]
    have hT:Maps.has D (.int .i64 x)=false:=by
     cases e:Maps.has D (.int .i64 x)
     ·rfl
     ·exact absurd (hH.1 e) hE
    clear HM HR hE hH
    go_wp2_with (at_lookup;refine wpList_lookup_own_ok_int _ rfl _ _ 173 rfl 3 3 .i64 law_int8 Tryz.underlying173 Tryz.underlying3 (zero_int8 _) nb ys.length D rfl hm _ _ rfl hkey ?_;intro cc hat hwc;rw [hT];clear hat hwc)
    go_roundw
    case rel=>exact ⟨k+1,by omega,by go_num,HF,by first | rfl | trivial⟩
    case measure=>simp [Go.RowKit.intOf];omega
  ·obtain rfl:k=n:=by omega
   have HF:Hid (r=false):=by rw [Hid,HR.out,List.drop_of_length_le (by omega)];rfl
   clear HR
   go_wp2
   go_ret
   exact ⟨by rw [HF.out];rfl,hb⟩

end Go.Proofs.YtgmhhegckcionaaGreatDoor
