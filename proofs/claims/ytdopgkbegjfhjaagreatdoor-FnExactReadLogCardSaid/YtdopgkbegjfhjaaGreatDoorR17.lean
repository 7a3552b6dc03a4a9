/-
  Joined: VmOfS.
-/
import Derived.Test.YtdopgkbegjfhjaaGreatDoorR14
import Derived.Test.YtdopgkbegjfhjaaGreatDoorR16

namespace Go.Proofs.YtdopgkbegjfhjaaGreatDoor
set_option maxRecDepth 100000
set_option maxHeartbeats 16000000
open Go.RowKit
set_option linter.unusedVariables false

def VmGotB (e:Ending) (w:World) (B:Nat) (z:V4) (b:Bool):Prop:=∃ t:S4,e=.returned (.tuple #[t.val,.bool b])∧OwnV w B t z
theorem VmGotB.mk9 {e:Ending} {w:World} {B:Nat} {z:V4} {b:Bool} (t:S4) (h:e=.returned (.tuple #[t.val,.bool b])) (hO:OwnV w B t z):VmGotB e w B z b:=⟨t,h,hO⟩

def OfB (s:ByteArray) (z:V4) (b:Bool):Prop:=b=shapeOk (bytesV s)∧(b=true→z=bytesV s)
theorem l00Digit_yes9 (x:Int) (w:World) (h:48≤x∧x≤57):Calls Tryz.prog 140 #[.int .u8 x] w fun e w'=>e=.returned (.bool true)∧w=w':=by
 have h1:decide (48≤x)=true:=by simp;omega
 have h2:decide (x≤57)=true:=by simp;omega
 go_enter Tryz.func140,Tryz.ntmps140
 go_wp2
 go_ret
 exact ⟨rfl,rfl⟩
theorem l00Digit_no9 (x:Int) (w:World) (h:¬ (48≤x∧x≤57)):Calls Tryz.prog 140 #[.int .u8 x] w fun e w'=>e=.returned (.bool false)∧w=w':=by
 by_cases h0:48≤x
 ·have h1:decide (48≤x)=true:=by simp;omega
  have h2:decide (x≤57)=false:=by simp;omega
  clear h
  go_enter Tryz.func140,Tryz.ntmps140
  go_wp2
  go_ret
  exact ⟨rfl,rfl⟩
 ·have h1:decide (48≤x)=false:=by simp;omega
  clear h
  go_enter Tryz.func140,Tryz.ntmps140
  go_wp2
  go_ret
  exact ⟨rfl,rfl⟩
theorem fill_mem (s:ByteArray) {off n i j:Nat} (h:j<n) (h':off+j<i):btV s (off+j) - 48 ∈ fillL s off n i:=by
 unfold fillL
 refine List.mem_map.2 ⟨j,by simpa using h,?_⟩
 rw [if_pos h']
theorem shape_digit {s:ByteArray} (h:shapeOk (bytesV s)=true) {i:Nat} (hi:i<15):48≤btV s i∧btV s i≤57:=by
 obtain ⟨_,_,_,_,hd⟩:=shape_parts h
 have key:btV s i - 48 ∈ allOf (bytesV s):=by
  unfold allOf bytesV partV
  simp only [List.mem_append]
  by_cases h0:i<3
  ·have:=fill_mem s (off:=0) (n:=3) (i:=15) (j:=i) h0 (by omega)
   rw [Nat.zero_add] at this
   exact .inl (.inl (.inl this))
  ·by_cases h1:i<7
   ·obtain ⟨j,rfl⟩:∃ j,i=3+j:=⟨i - 3,by omega⟩
    exact .inl (.inl (.inr (fill_mem s (by omega) (by omega))))
   ·by_cases h2:i<9
    ·obtain ⟨j,rfl⟩:∃ j,i=7+j:=⟨i - 7,by omega⟩
     exact .inl (.inr (fill_mem s (by omega) (by omega)))
    ·obtain ⟨j,rfl⟩:∃ j,i=9+j:=⟨i - 9,by omega⟩
     exact .inr (fill_mem s (by omega) (by omega))
 have:=hd _ key
 omega

theorem l03Of_15 (s:ByteArray) (w:World) (h15:s.size=15) :
  Calls Tryz.prog 109 #[.string s] w fun e w'=>(∃ z b,VmGotB e w' w.heap.size z b∧OfB s z b)∧Below w.heap.size w w':=by
 have kN:=specNewVm_is
 have kR:=fun t w h=>l03Shape_is t (bytesV s) w h
 have hfit:=partV_fits s 15
 have HD:Hid (∀ i,i<15→¬ (48≤btV s i∧btV s i≤57)→shapeOk (bytesV s)=false):=fun i hi hn=>by
  cases h:shapeOk (bytesV s)
  ·rfl
  ·exact absurd (shape_digit h hi) hn
 have bw:Below w.heap.size w (w.alloc (.cells #[.slice none 0 0,.slice none 0 0,.slice none 0 0,.slice none 0 0] 123)):=by go_grown
 have pR:=Blk.new w 123 [.slice none 0 0,.slice none 0 0,.slice none 0 0,.slice none 0 0]
 have hne:((s.size:Int) != 15)=false:=by simp [h15]
 have hsz:(s.size:Int)=15:=by omega
 go_enter Tryz.func109,Tryz.ntmps109
 go_wp2_with fail
 refine (kN _).mono ?_
 rintro e w1 ⟨⟨t,rfl,hO⟩,hb⟩
 obtain ⟨g0,g1,g2,g3,c0,c1,c2,c3,rfl,⟨l0,l1,l2,l3⟩,m0,m1,m2,m3⟩:=newVm_open hO
 unfold maxLen at m0 m1 m2 m3
 replace kR:=kR ((some ⟨g0,0,none⟩,3,c0),(some ⟨g1,0,none⟩,4,c1),(some ⟨g2,0,none⟩,2,c2),(some ⟨g3,0,none⟩,6,c3))
 have uX:S4.val ((some ⟨g0,0,none⟩,3,c0),(some ⟨g1,0,none⟩,4,c1),(some ⟨g2,0,none⟩,2,c2),(some ⟨g3,0,none⟩,6,c3))=.agg #[.slice (some ⟨g0,0,none⟩) 3 c0,.slice (some ⟨g1,0,none⟩) 4 c1,.slice (some ⟨g2,0,none⟩) 2 c2,.slice (some ⟨g3,0,none⟩) 6 c3]:=rfl
 rw [uX] at kR ⊢
 clear uX
 replace hO:=hO.lower9 bw.size
 have bA:Below w1.heap.size w1 (w1.alloc (.cells #[.slice (some ⟨g0,0,none⟩) 3 c0,.slice (some ⟨g1,0,none⟩) 4 c1,.slice (some ⟨g2,0,none⟩) 2 c2,.slice (some ⟨g3,0,none⟩) 6 c3] 123)):=by go_grown
 have pS:=Blk.new w1 123 [.slice (some ⟨g0,0,none⟩) 3 c0,.slice (some ⟨g1,0,none⟩) 4 c1,.slice (some ⟨g2,0,none⟩) 2 c2,.slice (some ⟨g3,0,none⟩) 6 c3]
 have hgS:w.heap.size<w1.heap.size:=Nat.lt_of_lt_of_le (by simp) hb.size
 replace bw:=bel_trans bw (bel_trans hb bA)
 replace pR:=pR.below (bel_trans hb bA)
 replace hO:=hO.below bA
 rw [← partV_zero s] at hO
 clear hb bA kN
 go_wp2_with fail
 generalize (w1.alloc (.cells #[.slice (some ⟨g0,0,none⟩) 3 c0,.slice (some ⟨g1,0,none⟩) 4 c1,.slice (some ⟨g2,0,none⟩) 2 c2,.slice (some ⟨g3,0,none⟩) 6 c3] 123))=W1 at *
 generalize w1.heap.size=gS at *
 go_loopw [5] (fun si wr=>∃ i:Nat,i≤15∧si=.int .i64 i∧OwnV wr w.heap.size ((some ⟨g0,0,none⟩,3,c0),(some ⟨g1,0,none⟩,4,c1),(some ⟨g2,0,none⟩,2,c2),(some ⟨g3,0,none⟩,6,c3)) (partV s i)∧Blk wr gS 123 [.slice (some ⟨g0,0,none⟩) 3 c0,.slice (some ⟨g1,0,none⟩) 4 c1,.slice (some ⟨g2,0,none⟩) 2 c2,.slice (some ⟨g3,0,none⟩) 6 c3]∧Blk wr w.heap.size 123 [.slice none 0 0,.slice none 0 0,.slice none 0 0,.slice none 0 0]∧Below w.heap.size w wr) (fun si _=>15 - (intOf si).toNat)
 case atStart=>exact ⟨0,by omega,rfl,hO,pS,pR,bw⟩
 case round =>
  clear hO pS pR bw
  obtain ⟨i,hi,rfl,hO,pS,pR,bw⟩:=hrel
  by_cases hlt:i<15
  ·have hbb:=btV_bounds s i
   by_cases hdg:48≤btV s i∧btV s i≤57
   ·have e0:=pS.cell 0
    have e1:=pS.cell 1
    have e2:=pS.cell 2
    have e3:=pS.cell 3
    simp only [List.getElem?_cons_zero,List.getElem?_cons_succ] at e0 e1 e2 e3
    by_cases k0:i<3
    ·skip
     have hix:=idx_btVz s (i) ((i:Int)) (by omega) (by omega)
     have hst:=hO.set0 i (btV s (i) - 48)
     rw [partV_0 s (by omega)] at hst
     obtain ⟨old,hold⟩:∃ u,wr.cell? ⟨g0,i,none⟩=some u:=⟨_,hO.1.1.at9 (by omega)⟩
     have hfz:=hO.1.1.frz9 i
     have hlo:=hO.1.1.lo9
     have neS:=hO.1.1.ne9 pS (by decide)
     have neR:=hO.1.1.ne9 pR (by decide)
     have kD:=fun w=>l00Digit_yes9 (btV s (i)) w hdg
     generalize btV s (i)=bx at *
     have pS2:=pS.off ⟨g0,i,none⟩ (.int .i64 (bx - 48)) neS
     have pR2:=pR.off ⟨g0,i,none⟩ (.int .i64 (bx - 48)) neR
     have b2:=bw.setCell (p:=⟨g0,i,none⟩) hlo.1 (.int .i64 (bx - 48))
     have hjI:(i:Int)<3:=by omega
     have hwb:IntKind.u8.wrap (bx - 48)=bx - 48:=IntWalk.u8_in _ (by omega)
     clear hO pS pR bw
     go_wp2_with fail
     refine (kD _).mono ?_
     rintro e wd ⟨rfl,rfl⟩
     go_wp2
     go_roundw
     case rel=>exact ⟨i+1,by omega,by go_num,hst,pS2,pR2,b2⟩
     case measure=>simp [intOf];omega
    ·by_cases k1:i<7
     ·obtain ⟨j,rfl⟩:∃ j,i=3+j:=⟨i - 3,by omega⟩
      have hix:=idx_btVz s (3+j) (3+(j:Int)) (by omega) (by omega)
      have hst:=hO.set1 j (btV s (3+j) - 48)
      rw [partV_1 s (by omega)] at hst
      obtain ⟨old,hold⟩:∃ u,wr.cell? ⟨g1,j,none⟩=some u:=⟨_,hO.1.2.1.at9 (by omega)⟩
      have hfz:=hO.1.2.1.frz9 j
      have hlo:=hO.1.2.1.lo9
      have neS:=hO.1.2.1.ne9 pS (by decide)
      have neR:=hO.1.2.1.ne9 pR (by decide)
      have kD:=fun w=>l00Digit_yes9 (btV s (3+j)) w hdg
      generalize btV s (3+j)=bx at *
      have pS2:=pS.off ⟨g1,j,none⟩ (.int .i64 (bx - 48)) neS
      have pR2:=pR.off ⟨g1,j,none⟩ (.int .i64 (bx - 48)) neR
      have b2:=bw.setCell (p:=⟨g1,j,none⟩) hlo.1 (.int .i64 (bx - 48))
      have hjI:(j:Int)<4:=by omega
      have hwb:IntKind.u8.wrap (bx - 48)=bx - 48:=IntWalk.u8_in _ (by omega)
      clear hO pS pR bw
      go_wp2_with fail
      refine (kD _).mono ?_
      rintro e wd ⟨rfl,rfl⟩
      go_wp2
      go_roundw
      case rel=>exact ⟨3+j+1,by omega,by go_num,hst,pS2,pR2,b2⟩
      case measure=>simp [intOf];omega
     ·by_cases k2:i<9
      ·obtain ⟨j,rfl⟩:∃ j,i=7+j:=⟨i - 7,by omega⟩
       have hix:=idx_btVz s (7+j) (7+(j:Int)) (by omega) (by omega)
       have hst:=hO.set2 j (btV s (7+j) - 48)
       rw [partV_2 s (by omega)] at hst
       obtain ⟨old,hold⟩:∃ u,wr.cell? ⟨g2,j,none⟩=some u:=⟨_,hO.1.2.2.1.at9 (by omega)⟩
       have hfz:=hO.1.2.2.1.frz9 j
       have hlo:=hO.1.2.2.1.lo9
       have neS:=hO.1.2.2.1.ne9 pS (by decide)
       have neR:=hO.1.2.2.1.ne9 pR (by decide)
       have kD:=fun w=>l00Digit_yes9 (btV s (7+j)) w hdg
       generalize btV s (7+j)=bx at *
       have pS2:=pS.off ⟨g2,j,none⟩ (.int .i64 (bx - 48)) neS
       have pR2:=pR.off ⟨g2,j,none⟩ (.int .i64 (bx - 48)) neR
       have b2:=bw.setCell (p:=⟨g2,j,none⟩) hlo.1 (.int .i64 (bx - 48))
       have hjI:(j:Int)<2:=by omega
       have hwb:IntKind.u8.wrap (bx - 48)=bx - 48:=IntWalk.u8_in _ (by omega)
       have r1:(7:Int)+(j:Int) - 3=4+(j:Int):=by omega
       have r2:(4:Int)+(j:Int) - 4=(j:Int):=by omega
       clear hO pS pR bw
       go_wp2_with fail
       refine (kD _).mono ?_
       rintro e wd ⟨rfl,rfl⟩
       go_wp2
       go_roundw
       case rel=>exact ⟨7+j+1,by omega,by go_num,hst,pS2,pR2,b2⟩
       case measure=>simp [intOf];omega
      ·obtain ⟨j,rfl⟩:∃ j,i=9+j:=⟨i - 9,by omega⟩
       have hix:=idx_btVz s (9+j) (9+(j:Int)) (by omega) (by omega)
       have hst:=hO.set3 j (btV s (9+j) - 48)
       rw [partV_3 s (by omega)] at hst
       obtain ⟨old,hold⟩:∃ u,wr.cell? ⟨g3,j,none⟩=some u:=⟨_,hO.1.2.2.2.at9 (by omega)⟩
       have hfz:=hO.1.2.2.2.frz9 j
       have hlo:=hO.1.2.2.2.lo9
       have neS:=hO.1.2.2.2.ne9 pS (by decide)
       have neR:=hO.1.2.2.2.ne9 pR (by decide)
       have kD:=fun w=>l00Digit_yes9 (btV s (9+j)) w hdg
       generalize btV s (9+j)=bx at *
       have pS2:=pS.off ⟨g3,j,none⟩ (.int .i64 (bx - 48)) neS
       have pR2:=pR.off ⟨g3,j,none⟩ (.int .i64 (bx - 48)) neR
       have b2:=bw.setCell (p:=⟨g3,j,none⟩) hlo.1 (.int .i64 (bx - 48))
       have hjI:(j:Int)<6:=by omega
       have hwb:IntKind.u8.wrap (bx - 48)=bx - 48:=IntWalk.u8_in _ (by omega)
       have r1:(9:Int)+(j:Int) - 3=6+(j:Int):=by omega
       have r2:(6:Int)+(j:Int) - 4=2+(j:Int):=by omega
       have r3:(2:Int)+(j:Int) - 2=(j:Int):=by omega
       clear hO pS pR bw
       go_wp2_with fail
       refine (kD _).mono ?_
       rintro e wd ⟨rfl,rfl⟩
       go_wp2
       go_roundw
       case rel=>exact ⟨9+j+1,by omega,by go_num,hst,pS2,pR2,b2⟩
       case measure=>simp [intOf];omega
   ·have hix:=idx_btV s i (by omega)
    have hnd:=HD.out i hlt hdg
    have kD:=fun w=>l00Digit_no9 (btV s i) w hdg
    have HB:OfB s ([],[],[],[]) false:=⟨hnd.symm,fun h=>by cases h⟩
    clear hnd hO pS
    generalize btV s i=bx at *
    go_wp2_with fail
    refine (kD _).mono ?_
    rintro e wd ⟨rfl,rfl⟩
    go_wp2_with (refine wpList_store_blk rfl 123 _ _ rfl w.heap.size [.slice none 0 0,.slice none 0 0,.slice none 0 0,.slice none 0 0] rfl rfl pR (by kernel_rfl) rfl rfl ?_)
    intro w4 pR4 g4
    replace bw:=bw.grown g4 bw.size (fun x hx=>by cases hx;omega)
    clear g4
    go_wp2_with fail
    refine bodyPost_ret (results_blk2 Tryz.results109 _ _ _ _ _ _ rfl pR4.out Tryz.underlying123 rfl (by kernel_rfl)) rfl ?_
    exact ⟨⟨_,_,VmGotB.mk9 ((none,0,0),(none,0,0),(none,0,0),(none,0,0)) rfl (ownV_nil _ _),HB⟩,bw⟩
  ·obtain rfl:i=15:=by omega
   have hO':OwnV wr w.heap.size ((some ⟨g0,0,none⟩,3,c0),(some ⟨g1,0,none⟩,4,c1),(some ⟨g2,0,none⟩,2,c2),(some ⟨g3,0,none⟩,6,c3)) (bytesV s):=hO
   have e0:=pS.cell 0
   have e1:=pS.cell 1
   have e2:=pS.cell 2
   have e3:=pS.cell 3
   simp only [List.getElem?_cons_zero,List.getElem?_cons_succ] at e0 e1 e2 e3
   have kR1:=fun (W:World) (h:OwnV W w.heap.size ((some ⟨g0,0,none⟩,3,c0),(some ⟨g1,0,none⟩,4,c1),(some ⟨g2,0,none⟩,2,c2),(some ⟨g3,0,none⟩,6,c3)) (bytesV s))=>kR W (h.mem hfit)
   obtain ⟨sb,hsb⟩:∃ sb,sb=shapeOk (bytesV s):=⟨_,rfl⟩
   rw [← hsb] at kR1
   have HB:OfB s (bytesV s) sb:=⟨hsb,fun _=>rfl⟩
   clear hO kR HD hsb
   go_wp2_with fail
   refine wp_region_held_drew (S:=(fun w'=>w'.cell? ⟨gS,0,none⟩=some (.slice (some ⟨g0,0,none⟩) 3 c0)∧w'.cell? ⟨gS,1,none⟩=some (.slice (some ⟨g1,0,none⟩) 4 c1)∧w'.cell? ⟨gS,2,none⟩=some (.slice (some ⟨g2,0,none⟩) 2 c2)∧w'.cell? ⟨gS,3,none⟩=some (.slice (some ⟨g3,0,none⟩) 6 c3))) (by kernel_rfl) ⟨e0,e1,e2,e3⟩ (fun hS0=>?_)
   refine tkm 0 64 (.agg #[.slice (some ⟨g0,0,none⟩) 3 c0,.slice (some ⟨g1,0,none⟩) 4 c1,.slice (some ⟨g2,0,none⟩) 2 c2,.slice (some ⟨g3,0,none⟩) 6 c3]) ?_
   refine tkm 1 65 (.agg #[.slice (some ⟨g0,0,none⟩) 3 c0,.slice (some ⟨g1,0,none⟩) 4 c1,.slice (some ⟨g2,0,none⟩) 2 c2,.slice (some ⟨g3,0,none⟩) 6 c3]) ?_
   refine tkr 2 66 (fun K hK=>?_)
   go_simp
   refine (kR1 _ (hO'.below (by go_grown))).mono ?_
   rintro e w3 ⟨rfl,hb⟩
   go_wp2_with fail
   refine hK.out _ _ ?_ (fun hS1=>?_)
   ·exact ⟨cells_kept hb _ _ hS0.1,cells_kept hb _ _ hS0.2.1,cells_kept hb _ _ hS0.2.2.1,cells_kept hb _ _ hS0.2.2.2⟩
   clear hK
   try simp only [Act.put,tka,tkb,tkc]
   have hbd:Below wr.heap.size wr w3:=bel_trans (by go_grown) hb
   replace bw:=bel_trans bw hbd
   replace pS:=pS.below hbd
   replace pR:=pR.below hbd
   replace hO':=hO'.below hbd
   clear hb hbd hS0 e0 e1 e2 e3 kR1
   have nSR:gS≠w.heap.size:=by omega
   have r0:w3.cell? ⟨w.heap.size,0,none⟩=some (.slice none 0 0):=by simpa using pR.cell 0
   have r1:w3.cell? ⟨w.heap.size,1,none⟩=some (.slice none 0 0):=by simpa using pR.cell 1
   have r2:w3.cell? ⟨w.heap.size,2,none⟩=some (.slice none 0 0):=by simpa using pR.cell 2
   have r3:w3.cell? ⟨w.heap.size,3,none⟩=some (.slice none 0 0):=by simpa using pR.cell 3
   have f0:=pR.frozen 0
   have f1:=pR.frozen 1
   have f2:=pR.frozen 2
   have f3:=pR.frozen 3
   have pR4:=(((pR.set 0 (.slice (some ⟨g0,0,none⟩) 3 c0)).set 1 (.slice (some ⟨g1,0,none⟩) 4 c1)).set 2 (.slice (some ⟨g2,0,none⟩) 2 c2)).set 3 (.slice (some ⟨g3,0,none⟩) 6 c3)
   simp only [List.set_cons_zero,List.set_cons_succ] at pR4
   have pS4:=(((pS.off ⟨w.heap.size,0,none⟩ (.slice (some ⟨g0,0,none⟩) 3 c0) nSR).off ⟨w.heap.size,1,none⟩ (.slice (some ⟨g1,0,none⟩) 4 c1) nSR).off ⟨w.heap.size,2,none⟩ (.slice (some ⟨g2,0,none⟩) 2 c2) nSR).off ⟨w.heap.size,3,none⟩ (.slice (some ⟨g3,0,none⟩) 6 c3) nSR
   have b4:=(((bw.setCell (p:=⟨w.heap.size,0,none⟩) (Nat.le_refl _) (.slice (some ⟨g0,0,none⟩) 3 c0)).setCell (p:=⟨w.heap.size,1,none⟩) (Nat.le_refl _) (.slice (some ⟨g1,0,none⟩) 4 c1)).setCell (p:=⟨w.heap.size,2,none⟩) (Nat.le_refl _) (.slice (some ⟨g2,0,none⟩) 2 c2)).setCell (p:=⟨w.heap.size,3,none⟩) (Nat.le_refl _) (.slice (some ⟨g3,0,none⟩) 6 c3)
   have hO4:=(((hO'.awayB9 pR (by decide) 0 (.slice (some ⟨g0,0,none⟩) 3 c0)).awayB9 (pR.set 0 (.slice (some ⟨g0,0,none⟩) 3 c0)) (by decide) 1 (.slice (some ⟨g1,0,none⟩) 4 c1)).awayB9 ((pR.set 0 (.slice (some ⟨g0,0,none⟩) 3 c0)).set 1 (.slice (some ⟨g1,0,none⟩) 4 c1)) (by decide) 2 (.slice (some ⟨g2,0,none⟩) 2 c2)).awayB9 (((pR.set 0 (.slice (some ⟨g0,0,none⟩) 3 c0)).set 1 (.slice (some ⟨g1,0,none⟩) 4 c1)).set 2 (.slice (some ⟨g2,0,none⟩) 2 c2)) (by decide) 3 (.slice (some ⟨g3,0,none⟩) 6 c3)
   refine tkz 3 (fun K hK=>?_)
   go_simp
   refine hK.out _ _ ?_ (fun hS2=>?_)
   ·exact ⟨by simpa using pS4.cell 0,by simpa using pS4.cell 1,by simpa using pS4.cell 2,by simpa using pS4.cell 3⟩
   clear hK
   try simp only [Act.put,tka,tkb,tkc]
   refine tkm 4 3 (.bool sb) ?_
   refine wpAnyH_done (by kernel_rfl) ?_ _
   clear hS1 hS2 r0 r1 r2 r3 f0 f1 f2 f3 pR pS bw hO' pS4
   generalize (((w3.setCell ⟨w.heap.size,0,none⟩ (.slice (some ⟨g0,0,none⟩) 3 c0)).setCell ⟨w.heap.size,1,none⟩ (.slice (some ⟨g1,0,none⟩) 4 c1)).setCell ⟨w.heap.size,2,none⟩ (.slice (some ⟨g2,0,none⟩) 2 c2)).setCell ⟨w.heap.size,3,none⟩ (.slice (some ⟨g3,0,none⟩) 6 c3)=w5 at *
   go_wp2_with fail
   refine bodyPost_ret (results_blk2 Tryz.results109 _ _ _ _ _ _ rfl pR4 Tryz.underlying123 rfl (by kernel_rfl)) rfl ?_
   exact ⟨⟨_,_,VmGotB.mk9 ((some ⟨g0,0,none⟩,3,c0),(some ⟨g1,0,none⟩,4,c1),(some ⟨g2,0,none⟩,2,c2),(some ⟨g3,0,none⟩,6,c3)) rfl hO4,HB⟩,b4⟩

def vmOfZ (s:ByteArray):V4:=if s.size≠15 then ([],[],[],[]) else if shapeOk (bytesV s) then bytesV s else ([],[],[],[])
def vmOfC (s:ByteArray):Int:=if 65536<s.size then 2 else if s.size≠15 then 3 else if shapeOk (bytesV s) then 0 else 3
theorem implVmOf_is (s:ByteArray) (w:World) (hs:s.size≤1048576) (hV:VmShape w) :
  Calls Tryz.prog 129 #[.string s] w fun e w'=>VmGot e w' w.heap.size (vmOfZ s) (vmOfC s)∧Below w.heap.size w w':=by
 unfold vmOfZ vmOfC
 by_cases hl:65536<s.size
 ·rw [if_pos (show s.size≠15 by omega),if_pos hl]
  refine (implVmOf_long s w hs hl).mono ?_
  rintro e w' ⟨rfl,hb⟩
  exact ⟨VmGot.mk9 ((none,0,0),(none,0,0),(none,0,0),(none,0,0)) rfl (ownV_nil _ _),hb⟩
 ·rw [if_neg hl]
  by_cases h15:s.size=15
  ·have hn:¬ (s.size≠15):=fun h=>h h15
   simp only [if_neg hn]
   exact implVmOf_15 s w h15 hV
  ·rw [if_pos h15,if_pos h15]
   refine (implVmOf_size s w (by omega) h15).mono ?_
   rintro e w' ⟨rfl,hb⟩
   exact ⟨VmGot.mk9 ((none,0,0),(none,0,0),(none,0,0),(none,0,0)) rfl (ownV_nil _ _),hb⟩
end Go.Proofs.YtdopgkbegjfhjaaGreatDoor
