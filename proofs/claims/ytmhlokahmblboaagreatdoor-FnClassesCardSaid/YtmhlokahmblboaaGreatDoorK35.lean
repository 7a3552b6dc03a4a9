/-
  Joined: VmOfS, OfBk, FindS.
-/
import Derived.Test.YtmhlokahmblboaaGreatDoorK19
import Derived.Test.YtmhlokahmblboaaGreatDoorK33

namespace Go.Proofs.YtmhlokahmblboaaGreatDoor
set_option maxRecDepth 100000
set_option maxHeartbeats 16000000
open Go.RowKit
set_option linter.unusedVariables false

def Rj (e:Ending) (w:World) (B:Nat) (z:V4) (b:Bool):Prop:=∃ t:S4,e=.returned (.tuple #[t.val,.bool b])∧ZP w B t z
theorem Rj.mk9 {e:Ending} {w:World} {B:Nat} {z:V4} {b:Bool} (t:S4) (h:e=.returned (.tuple #[t.val,.bool b])) (hO:ZP w B t z):Rj e w B z b:=⟨t,h,hO⟩

def OfB (s:ByteArray) (z:V4) (b:Bool):Prop:=b=Zk (XR s)∧(b=true→z=XR s)
theorem X8 (x:Int) (w:World) (h:48≤x∧x≤57):Calls Tryz.prog 130 #[.int .u8 x] w fun e w'=>e=.returned (.bool true)∧w=w':=by
 have h1:decide (48≤x)=true:=by simp;omega
 have h2:decide (x≤57)=true:=by simp;omega
 go_enter Tryz.func130,Tryz.ntmps130
 go_wp2
 go_ret
 exact ⟨rfl,rfl⟩
theorem PG (x:Int) (w:World) (h:¬ (48≤x∧x≤57)):Calls Tryz.prog 130 #[.int .u8 x] w fun e w'=>e=.returned (.bool false)∧w=w':=by
 by_cases h0:48≤x
 ·have h1:decide (48≤x)=true:=by simp;omega
  have h2:decide (x≤57)=false:=by simp;omega
  clear h
  go_enter Tryz.func130,Tryz.ntmps130
  go_wp2
  go_ret
  exact ⟨rfl,rfl⟩
 have h1:decide (48≤x)=false:=by simp;omega
 clear h
 go_enter Tryz.func130,Tryz.ntmps130
 go_wp2
 go_ret
 exact ⟨rfl,rfl⟩
theorem Tp (s:ByteArray) {off n i j:Nat} (h:j<n) (h':off+j<i):btV s (off+j) - 48 ∈ We s off n i:=by
 unfold We
 refine List.mem_map.2 ⟨j,by simpa using h,?_⟩
 rw [if_pos h']
theorem Mb {s:ByteArray} (h:Zk (XR s)=true) {i:Nat} (hi:i<15):48≤btV s i∧btV s i≤57:=by
 obtain ⟨_,_,_,_,hd⟩:=ZT h
 have key:btV s i - 48 ∈ XO (XR s):=by
  unfold XO XR YR
  simp only [List.mem_append]
  by_cases h0:i<3
  ·have:=Tp s (off:=0) (n:=3) (i:=15) (j:=i) h0 (by omega)
   rw [Nat.zero_add] at this
   exact .inl (.inl (.inl this))
  by_cases h1:i<7
  ·obtain ⟨j,rfl⟩:∃ j,i=3+j:=⟨i - 3,by omega⟩
   exact .inl (.inl (.inr (Tp s (by omega) (by omega))))
  by_cases h2:i<9
  ·obtain ⟨j,rfl⟩:∃ j,i=7+j:=⟨i - 7,by omega⟩
   exact .inl (.inr (Tp s (by omega) (by omega)))
  obtain ⟨j,rfl⟩:∃ j,i=9+j:=⟨i - 9,by omega⟩
  exact .inr (Tp s (by omega) (by omega))
 have:=hd _ key
 omega

theorem Hd (s:ByteArray) (w:World) (h15:s.size=15) :
  Calls Tryz.prog 76 #[.string s] w fun e w'=>(∃ z b,Rj e w' w.heap.size z b∧OfB s z b)∧Below w.heap.size w w':=by
 have kN:=XV
 have kR:=fun t w h=>NA t (XR s) w h
 have hfit:=MU s 15
 have HD:Hid (∀ i,i<15→¬ (48≤btV s i∧btV s i≤57)→Zk (XR s)=false):=fun i hi hn=>by
  cases h:Zk (XR s)
  ·rfl
  exact absurd (Mb h hi) hn
 have bw:Below w.heap.size w (w.alloc (.cells #[.slice none 0 0,.slice none 0 0,.slice none 0 0,.slice none 0 0] 74)):=by go_grown
 have pR:=Blk.new w 74 [.slice none 0 0,.slice none 0 0,.slice none 0 0,.slice none 0 0]
 have hne:((s.size:Int) != 15)=false:=by simp [h15]
 have hsz:(s.size:Int)=15:=by omega
 go_enter Tryz.func76,Tryz.ntmps76
 go_wp2_with fail
 refine (kN _).mono ?_
 rintro e w1 ⟨⟨t,rfl,hO⟩,hb⟩
 obtain ⟨g0,g1,g2,g3,c0,c1,c2,c3,rfl,⟨l0,l1,l2,l3⟩,m0,m1,m2,m3⟩:=RS hO
 unfold maxLen at m0 m1 m2 m3
 replace kR:=kR ((some ⟨g0,0,none⟩,3,c0),(some ⟨g1,0,none⟩,4,c1),(some ⟨g2,0,none⟩,2,c2),(some ⟨g3,0,none⟩,6,c3))
 have uX:S4.val ((some ⟨g0,0,none⟩,3,c0),(some ⟨g1,0,none⟩,4,c1),(some ⟨g2,0,none⟩,2,c2),(some ⟨g3,0,none⟩,6,c3))=.agg #[.slice (some ⟨g0,0,none⟩) 3 c0,.slice (some ⟨g1,0,none⟩) 4 c1,.slice (some ⟨g2,0,none⟩) 2 c2,.slice (some ⟨g3,0,none⟩) 6 c3]:=rfl
 rw [uX] at kR ⊢
 clear uX
 replace hO:=hO.lower9 bw.size
 have bA:Below w1.heap.size w1 (w1.alloc (.cells #[.slice (some ⟨g0,0,none⟩) 3 c0,.slice (some ⟨g1,0,none⟩) 4 c1,.slice (some ⟨g2,0,none⟩) 2 c2,.slice (some ⟨g3,0,none⟩) 6 c3] 74)):=by go_grown
 have pS:=Blk.new w1 74 [.slice (some ⟨g0,0,none⟩) 3 c0,.slice (some ⟨g1,0,none⟩) 4 c1,.slice (some ⟨g2,0,none⟩) 2 c2,.slice (some ⟨g3,0,none⟩) 6 c3]
 have hgS:w.heap.size<w1.heap.size:=Nat.lt_of_lt_of_le (by simp) hb.size
 replace bw:=Zb bw (Zb hb bA)
 replace pR:=pR.below (Zb hb bA)
 replace hO:=hO.below bA
 rw [← MV s] at hO
 clear hb bA kN
 go_wp2_with fail
 generalize (w1.alloc (.cells #[.slice (some ⟨g0,0,none⟩) 3 c0,.slice (some ⟨g1,0,none⟩) 4 c1,.slice (some ⟨g2,0,none⟩) 2 c2,.slice (some ⟨g3,0,none⟩) 6 c3] 74))=W1 at *
 generalize w1.heap.size=gS at *
 go_loopw [5] (fun si wr=>∃ i:Nat,i≤15∧si=.int .i64 i∧ZP wr w.heap.size ((some ⟨g0,0,none⟩,3,c0),(some ⟨g1,0,none⟩,4,c1),(some ⟨g2,0,none⟩,2,c2),(some ⟨g3,0,none⟩,6,c3)) (YR s i)∧Blk wr gS 74 [.slice (some ⟨g0,0,none⟩) 3 c0,.slice (some ⟨g1,0,none⟩) 4 c1,.slice (some ⟨g2,0,none⟩) 2 c2,.slice (some ⟨g3,0,none⟩) 6 c3]∧Blk wr w.heap.size 74 [.slice none 0 0,.slice none 0 0,.slice none 0 0,.slice none 0 0]∧Below w.heap.size w wr) (fun si _=>15 - (intOf si).toNat)
 case atStart=>exact ⟨0,by omega,rfl,hO,pS,pR,bw⟩
 case round =>
  clear hO pS pR bw
  obtain ⟨i,hi,rfl,hO,pS,pR,bw⟩:=hrel
  by_cases hlt:i<15
  ·have hbb:=Rn s i
   by_cases hdg:48≤btV s i∧btV s i≤57
   ·have e0:=pS.cell 0
    have e1:=pS.cell 1
    have e2:=pS.cell 2
    have e3:=pS.cell 3
    simp only [List.getElem?_cons_zero,List.getElem?_cons_succ] at e0 e1 e2 e3
    by_cases k0:i<3
    ·skip
     have hix:=Tu s (i) ((i:Int)) (by omega) (by omega)
     have hst:=hO.set0 i (btV s (i) - 48)
     rw [Fa s (by omega)] at hst
     obtain ⟨old,hold⟩:∃ u,wr.cell? ⟨g0,i,none⟩=some u:=⟨_,hO.1.1.at9 (by omega)⟩
     have hfz:=hO.1.1.frz9 i
     have hlo:=hO.1.1.lo9
     have neS:=hO.1.1.ne9 pS (by decide)
     have neR:=hO.1.1.ne9 pR (by decide)
     have kD:=fun w=>X8 (btV s (i)) w hdg
     generalize btV s (i)=bx at *
     have pS2:=pS.off ⟨g0,i,none⟩ (.int .i64 (bx - 48)) neS
     have pR2:=pR.off ⟨g0,i,none⟩ (.int .i64 (bx - 48)) neR
     have b2:=bw.setCell (p:=⟨g0,i,none⟩) hlo.1 (.int .i64 (bx - 48))
     have hjI:(i:Int)<3:=by omega
     have hwb:IntKind.u8.wrap (bx - 48)=bx - 48:=IntWalk.u8_in _ (by omega)
     clear hO pS pR bw
     go_wp2_with fail
     refine (kD _).mono ?_
     rintro e wd ⟨rfl,rfl⟩
     go_wp2
     go_roundw
     case rel=>exact ⟨i+1,by omega,by go_num,hst,pS2,pR2,b2⟩
     case measure=>simp [intOf];omega
    by_cases k1:i<7
    ·obtain ⟨j,rfl⟩:∃ j,i=3+j:=⟨i - 3,by omega⟩
     have hix:=Tu s (3+j) (3+(j:Int)) (by omega) (by omega)
     have hst:=hO.set1 j (btV s (3+j) - 48)
     rw [Fc s (by omega)] at hst
     obtain ⟨old,hold⟩:∃ u,wr.cell? ⟨g1,j,none⟩=some u:=⟨_,hO.1.2.1.at9 (by omega)⟩
     have hfz:=hO.1.2.1.frz9 j
     have hlo:=hO.1.2.1.lo9
     have neS:=hO.1.2.1.ne9 pS (by decide)
     have neR:=hO.1.2.1.ne9 pR (by decide)
     have kD:=fun w=>X8 (btV s (3+j)) w hdg
     generalize btV s (3+j)=bx at *
     have pS2:=pS.off ⟨g1,j,none⟩ (.int .i64 (bx - 48)) neS
     have pR2:=pR.off ⟨g1,j,none⟩ (.int .i64 (bx - 48)) neR
     have b2:=bw.setCell (p:=⟨g1,j,none⟩) hlo.1 (.int .i64 (bx - 48))
     have hjI:(j:Int)<4:=by omega
     have hwb:IntKind.u8.wrap (bx - 48)=bx - 48:=IntWalk.u8_in _ (by omega)
     clear hO pS pR bw
     go_wp2_with fail
     refine (kD _).mono ?_
     rintro e wd ⟨rfl,rfl⟩
     go_wp2
     go_roundw
     case rel=>exact ⟨3+j+1,by omega,by go_num,hst,pS2,pR2,b2⟩
     case measure=>simp [intOf];omega
    by_cases k2:i<9
    ·obtain ⟨j,rfl⟩:∃ j,i=7+j:=⟨i - 7,by omega⟩
     have hix:=Tu s (7+j) (7+(j:Int)) (by omega) (by omega)
     have hst:=hO.set2 j (btV s (7+j) - 48)
     rw [Fd s (by omega)] at hst
     obtain ⟨old,hold⟩:∃ u,wr.cell? ⟨g2,j,none⟩=some u:=⟨_,hO.1.2.2.1.at9 (by omega)⟩
     have hfz:=hO.1.2.2.1.frz9 j
     have hlo:=hO.1.2.2.1.lo9
     have neS:=hO.1.2.2.1.ne9 pS (by decide)
     have neR:=hO.1.2.2.1.ne9 pR (by decide)
     have kD:=fun w=>X8 (btV s (7+j)) w hdg
     generalize btV s (7+j)=bx at *
     have pS2:=pS.off ⟨g2,j,none⟩ (.int .i64 (bx - 48)) neS
     have pR2:=pR.off ⟨g2,j,none⟩ (.int .i64 (bx - 48)) neR
     have b2:=bw.setCell (p:=⟨g2,j,none⟩) hlo.1 (.int .i64 (bx - 48))
     have hjI:(j:Int)<2:=by omega
     have hwb:IntKind.u8.wrap (bx - 48)=bx - 48:=IntWalk.u8_in _ (by omega)
     have r1:(7:Int)+(j:Int) - 3=4+(j:Int):=by omega
     have r2:(4:Int)+(j:Int) - 4=(j:Int):=by omega
     clear hO pS pR bw
     go_wp2_with fail
     refine (kD _).mono ?_
     rintro e wd ⟨rfl,rfl⟩
     go_wp2
     go_roundw
     case rel=>exact ⟨7+j+1,by omega,by go_num,hst,pS2,pR2,b2⟩
     case measure=>simp [intOf];omega
    obtain ⟨j,rfl⟩:∃ j,i=9+j:=⟨i - 9,by omega⟩
    have hix:=Tu s (9+j) (9+(j:Int)) (by omega) (by omega)
    have hst:=hO.set3 j (btV s (9+j) - 48)
    rw [Fe s (by omega)] at hst
    obtain ⟨old,hold⟩:∃ u,wr.cell? ⟨g3,j,none⟩=some u:=⟨_,hO.1.2.2.2.at9 (by omega)⟩
    have hfz:=hO.1.2.2.2.frz9 j
    have hlo:=hO.1.2.2.2.lo9
    have neS:=hO.1.2.2.2.ne9 pS (by decide)
    have neR:=hO.1.2.2.2.ne9 pR (by decide)
    have kD:=fun w=>X8 (btV s (9+j)) w hdg
    generalize btV s (9+j)=bx at *
    have pS2:=pS.off ⟨g3,j,none⟩ (.int .i64 (bx - 48)) neS
    have pR2:=pR.off ⟨g3,j,none⟩ (.int .i64 (bx - 48)) neR
    have b2:=bw.setCell (p:=⟨g3,j,none⟩) hlo.1 (.int .i64 (bx - 48))
    have hjI:(j:Int)<6:=by omega
    have hwb:IntKind.u8.wrap (bx - 48)=bx - 48:=IntWalk.u8_in _ (by omega)
    have r1:(9:Int)+(j:Int) - 3=6+(j:Int):=by omega
    have r2:(6:Int)+(j:Int) - 4=2+(j:Int):=by omega
    have r3:(2:Int)+(j:Int) - 2=(j:Int):=by omega
    clear hO pS pR bw
    go_wp2_with fail
    refine (kD _).mono ?_
    rintro e wd ⟨rfl,rfl⟩
    go_wp2
    go_roundw
    case rel=>exact ⟨9+j+1,by omega,by go_num,hst,pS2,pR2,b2⟩
    case measure=>simp [intOf];omega
   have hix:=Lk s i (by omega)
   have hnd:=HD.out i hlt hdg
   have kD:=fun w=>PG (btV s i) w hdg
   have HB:OfB s ([],[],[],[]) false:=⟨hnd.symm,fun h=>by cases h⟩
   clear hnd hO pS
   generalize btV s i=bx at *
   go_wp2_with fail
   refine (kD _).mono ?_
   rintro e wd ⟨rfl,rfl⟩
   go_wp2_with (refine Zd rfl 74 _ _ rfl w.heap.size [.slice none 0 0,.slice none 0 0,.slice none 0 0,.slice none 0 0] rfl rfl pR (by kernel_rfl) rfl rfl ?_)
   intro w4 pR4 g4
   replace bw:=bw.grown g4 bw.size (fun x hx=>by cases hx;omega)
   clear g4
   go_wp2_with fail
   refine bodyPost_ret (ZF Tryz.results76 _ _ _ _ _ _ rfl pR4.out Tryz.underlying74 rfl (by kernel_rfl)) rfl ?_
   exact ⟨⟨_,_,Rj.mk9 ((none,0,0),(none,0,0),(none,0,0),(none,0,0)) rfl (Hv _ _),HB⟩,bw⟩
  obtain rfl:i=15:=by omega
  have hO':ZP wr w.heap.size ((some ⟨g0,0,none⟩,3,c0),(some ⟨g1,0,none⟩,4,c1),(some ⟨g2,0,none⟩,2,c2),(some ⟨g3,0,none⟩,6,c3)) (XR s):=hO
  have e0:=pS.cell 0
  have e1:=pS.cell 1
  have e2:=pS.cell 2
  have e3:=pS.cell 3
  simp only [List.getElem?_cons_zero,List.getElem?_cons_succ] at e0 e1 e2 e3
  have kR1:=fun (W:World) (h:ZP W w.heap.size ((some ⟨g0,0,none⟩,3,c0),(some ⟨g1,0,none⟩,4,c1),(some ⟨g2,0,none⟩,2,c2),(some ⟨g3,0,none⟩,6,c3)) (XR s))=>kR W (h.mem hfit)
  obtain ⟨sb,hsb⟩:∃ sb,sb=Zk (XR s):=⟨_,rfl⟩
  rw [← hsb] at kR1
  have HB:OfB s (XR s) sb:=⟨hsb,fun _=>rfl⟩
  clear hO kR HD hsb
  go_wp2_with fail
  refine wp_region_held_drew (S:=(fun w'=>w'.cell? ⟨gS,0,none⟩=some (.slice (some ⟨g0,0,none⟩) 3 c0)∧w'.cell? ⟨gS,1,none⟩=some (.slice (some ⟨g1,0,none⟩) 4 c1)∧w'.cell? ⟨gS,2,none⟩=some (.slice (some ⟨g2,0,none⟩) 2 c2)∧w'.cell? ⟨gS,3,none⟩=some (.slice (some ⟨g3,0,none⟩) 6 c3))) (by kernel_rfl) ⟨e0,e1,e2,e3⟩ (fun hS0=>?_)
  refine tkm 0 64 (.agg #[.slice (some ⟨g0,0,none⟩) 3 c0,.slice (some ⟨g1,0,none⟩) 4 c1,.slice (some ⟨g2,0,none⟩) 2 c2,.slice (some ⟨g3,0,none⟩) 6 c3]) ?_
  refine tkm 1 65 (.agg #[.slice (some ⟨g0,0,none⟩) 3 c0,.slice (some ⟨g1,0,none⟩) 4 c1,.slice (some ⟨g2,0,none⟩) 2 c2,.slice (some ⟨g3,0,none⟩) 6 c3]) ?_
  refine tkr 2 66 (fun K hK=>?_)
  go_simp
  refine (kR1 _ (hO'.below (by go_grown))).mono ?_
  rintro e w3 ⟨rfl,hb⟩
  go_wp2_with fail
  refine hK.out _ _ ?_ (fun hS1=>?_)
  ·exact ⟨Za hb _ _ hS0.1,Za hb _ _ hS0.2.1,Za hb _ _ hS0.2.2.1,Za hb _ _ hS0.2.2.2⟩
  clear hK
  try simp only [Act.put,tka,tkb,tkc]
  have hbd:Below wr.heap.size wr w3:=Zb (by go_grown) hb
  replace bw:=Zb bw hbd
  replace pS:=pS.below hbd
  replace pR:=pR.below hbd
  replace hO':=hO'.below hbd
  clear hb hbd hS0 e0 e1 e2 e3 kR1
  have nSR:gS≠w.heap.size:=by omega
  have r0:w3.cell? ⟨w.heap.size,0,none⟩=some (.slice none 0 0):=by simpa using pR.cell 0
  have r1:w3.cell? ⟨w.heap.size,1,none⟩=some (.slice none 0 0):=by simpa using pR.cell 1
  have r2:w3.cell? ⟨w.heap.size,2,none⟩=some (.slice none 0 0):=by simpa using pR.cell 2
  have r3:w3.cell? ⟨w.heap.size,3,none⟩=some (.slice none 0 0):=by simpa using pR.cell 3
  have f0:=pR.frozen 0
  have f1:=pR.frozen 1
  have f2:=pR.frozen 2
  have f3:=pR.frozen 3
  have pR4:=(((pR.set 0 (.slice (some ⟨g0,0,none⟩) 3 c0)).set 1 (.slice (some ⟨g1,0,none⟩) 4 c1)).set 2 (.slice (some ⟨g2,0,none⟩) 2 c2)).set 3 (.slice (some ⟨g3,0,none⟩) 6 c3)
  simp only [List.set_cons_zero,List.set_cons_succ] at pR4
  have pS4:=(((pS.off ⟨w.heap.size,0,none⟩ (.slice (some ⟨g0,0,none⟩) 3 c0) nSR).off ⟨w.heap.size,1,none⟩ (.slice (some ⟨g1,0,none⟩) 4 c1) nSR).off ⟨w.heap.size,2,none⟩ (.slice (some ⟨g2,0,none⟩) 2 c2) nSR).off ⟨w.heap.size,3,none⟩ (.slice (some ⟨g3,0,none⟩) 6 c3) nSR
  have b4:=(((bw.setCell (p:=⟨w.heap.size,0,none⟩) (Nat.le_refl _) (.slice (some ⟨g0,0,none⟩) 3 c0)).setCell (p:=⟨w.heap.size,1,none⟩) (Nat.le_refl _) (.slice (some ⟨g1,0,none⟩) 4 c1)).setCell (p:=⟨w.heap.size,2,none⟩) (Nat.le_refl _) (.slice (some ⟨g2,0,none⟩) 2 c2)).setCell (p:=⟨w.heap.size,3,none⟩) (Nat.le_refl _) (.slice (some ⟨g3,0,none⟩) 6 c3)
  have hO4:=(((hO'.awayB9 pR (by decide) 0 (.slice (some ⟨g0,0,none⟩) 3 c0)).awayB9 (pR.set 0 (.slice (some ⟨g0,0,none⟩) 3 c0)) (by decide) 1 (.slice (some ⟨g1,0,none⟩) 4 c1)).awayB9 ((pR.set 0 (.slice (some ⟨g0,0,none⟩) 3 c0)).set 1 (.slice (some ⟨g1,0,none⟩) 4 c1)) (by decide) 2 (.slice (some ⟨g2,0,none⟩) 2 c2)).awayB9 (((pR.set 0 (.slice (some ⟨g0,0,none⟩) 3 c0)).set 1 (.slice (some ⟨g1,0,none⟩) 4 c1)).set 2 (.slice (some ⟨g2,0,none⟩) 2 c2)) (by decide) 3 (.slice (some ⟨g3,0,none⟩) 6 c3)
  refine tkz 3 (fun K hK=>?_)
  go_simp
  refine hK.out _ _ ?_ (fun hS2=>?_)
  ·exact ⟨by simpa using pS4.cell 0,by simpa using pS4.cell 1,by simpa using pS4.cell 2,by simpa using pS4.cell 3⟩
  clear hK
  try simp only [Act.put,tka,tkb,tkc]
  refine tkm 4 3 (.bool sb) ?_
  refine wpAnyH_done (by kernel_rfl) ?_ _
  clear hS1 hS2 r0 r1 r2 r3 f0 f1 f2 f3 pR pS bw hO' pS4
  generalize (((w3.setCell ⟨w.heap.size,0,none⟩ (.slice (some ⟨g0,0,none⟩) 3 c0)).setCell ⟨w.heap.size,1,none⟩ (.slice (some ⟨g1,0,none⟩) 4 c1)).setCell ⟨w.heap.size,2,none⟩ (.slice (some ⟨g2,0,none⟩) 2 c2)).setCell ⟨w.heap.size,3,none⟩ (.slice (some ⟨g3,0,none⟩) 6 c3)=w5 at *
  go_wp2_with fail
  refine bodyPost_ret (ZF Tryz.results76 _ _ _ _ _ _ rfl pR4 Tryz.underlying74 rfl (by kernel_rfl)) rfl ?_
  exact ⟨⟨_,_,Rj.mk9 ((some ⟨g0,0,none⟩,3,c0),(some ⟨g1,0,none⟩,4,c1),(some ⟨g2,0,none⟩,2,c2),(some ⟨g3,0,none⟩,6,c3)) rfl hO4,HB⟩,b4⟩

set_option linter.unusedSimpArgs false

theorem RM {m:V4} (h:Zk m=true) (w:World) :
  Calls Tryz.prog 76 #[.string (Ye m)] w fun e w'=>(∃ t:S4,e=.returned (.tuple #[t.val,.bool true])∧ZP w' w.heap.size t m)∧Below w.heap.size w w':=by
 refine (Hd (Ye m) w (RJ h)).mono ?_
 rintro e w' ⟨⟨z,b,⟨t,rfl,hO⟩,hb,hz⟩,hw⟩
 rw [Us h,h] at hb
 subst hb
 rw [Us h] at hz
 obtain rfl:=hz rfl
 exact ⟨⟨t,rfl,hO⟩,hw⟩
theorem XG {w:World} {B e s n:Nat} {v:Value} {xs:List Value} (h:w.ownsRow B e s v n xs) (hn:0<n):∃ g c,v=.slice (some ⟨g,0,none⟩) n c∧n≤c∧c≤maxLen:=by
 rcases h.2 with ⟨_,h0⟩ | ⟨g,c,cur,hv,_,_,h1,h2,_⟩
 ·omega
 exact ⟨g,c,hv,h1,h2⟩
theorem Pc {w:World} {B g n c:Nat} {ts:List ByteArray} (h:w.ownsRow B 9 1 (.slice (some ⟨g,0,none⟩) n c) n (ts.map Value.string)) {i:Nat} (hi:i<n) {t:ByteArray} (ht:ts[i]?=some t):w.cell? ⟨g,i,none⟩=some (.string t):=by
 have hc:=h.cellAt i (by simpa using hi)
 simpa [ht] using hc


theorem FD {x t:ByteArray} (h:¬ x=t):(x.toList == t.toList)=false:=by
 rw [beq_eq_false_iff_ne]
 intro e
 rw [ByteArray.toList_eq,ByteArray.toList_eq] at e
 exact h (ByteArray.ext (Array.ext' e))
def Wm (ts:List ByteArray) (t:ByteArray):Nat→Int
 | 0=>-1
 | n+1=>if ts.getD n ByteArray.empty=t then (n:Int) else Wm ts t n
theorem T4 {ts:List ByteArray} {t:ByteArray}:∀ n,n≤ts.length→(0≤Wm ts t n↔t ∈ ts.take n)
 | 0,_=>by simp [Wm]
 | n+1,h=>by
  have ih:=T4 (ts:=ts) (t:=t) n (by omega)
  have e:ts.take (n+1)=ts.take n++[ts.getD n ByteArray.empty]:=by
   rw [List.take_add_one,List.getElem?_eq_getElem (show n<ts.length by omega)]
   simp [List.getD,show n<ts.length by omega]
  rw [e,List.mem_append,List.mem_singleton]
  unfold Wm
  by_cases h1:ts.getD n ByteArray.empty=t
  ·rw [if_pos h1]
   exact ⟨fun _=>.inr h1.symm,fun _=>by omega⟩
  rw [if_neg h1,ih]
  exact ⟨.inl,fun h2=>h2.elim id (fun h3=>absurd h3.symm h1)⟩

theorem VD (a:Option Addr) (n c:Nat) (ts:List ByteArray) (t:ByteArray) (w:World) (h:Strs w a n c ts) (hn:n≤1000000) :
  Calls Tryz.prog 80 #[.slice a n c,.string t] w fun e w'=>e=.returned (.int .i64 (Wm ts t n))∧w=w':=by
 obtain ⟨hl,hlc,hcm,hcase⟩:=h
 obtain ⟨f,hf⟩:∃ f,f=Wm ts t n:=⟨_,rfl⟩
 have HF:Hid (f=Wm ts t n):=hf
 rw [← hf]
 clear hf hl hcm
 go_enter Tryz.func80,Tryz.ntmps80
 go_wp2_with fail
 go_loopw [5] (fun si wr=>∃ ii:Nat,ii≤n∧si=.int .i64 ((ii:Int) - 1)∧Hid (f=Wm ts t ii)∧w=wr) (fun si _=>(intOf si+1).toNat)
 case atStart=>exact ⟨n,Nat.le_refl _,rfl,HF,rfl⟩
 case round =>
  obtain ⟨ii,hii,rfl,HG,rfl⟩:=hrel
  rcases Nat.eq_zero_or_pos ii with rfl | hpos
  ·have HE:Hid (f=-1):=HG.out
   go_wp2
   go_ret
   exact ⟨by rw [HE.out];rfl,rfl⟩
  obtain ⟨i,rfl⟩:∃ i,ii=i+1:=⟨ii - 1,by omega⟩
  have hi0:((i+1:Nat):Int) - 1=(i:Int):=by omega
  rw [hi0]
  have hi9:(0:Int)≤(i:Int):=by omega
  have hin:(i:Int)<(n:Int):=by omega
  rcases hcase with h0 | ⟨b,off,rfl,hb,hcell⟩
  ·omega
  have hc:=hcell i (by omega)
  have HG2:Hid (f=if ts.getD i ByteArray.empty=t then (i:Int) else Wm ts t i):=HG.out
  clear hcell HG
  generalize ts.getD i ByteArray.empty=x at *
  by_cases hx:x=t
  ·have hxx:(x.toList == t.toList)=true:=by rw [hx];simp
   have HE:Hid (f=i):=by rw [Hid,HG2.out,if_pos hx]
   clear HG2 hx
   go_wp2
   go_ret
   exact ⟨by rw [HE.out];rfl,rfl⟩
  have hxx:(x.toList == t.toList)=false:=FD hx
  have HE:Hid (f=Wm ts t i):=by rw [Hid,HG2.out,if_neg hx]
  clear HG2 hx
  go_wp2
  go_roundw
  case rel=>exact ⟨i,by omega,by go_num,HE,by first | rfl | trivial⟩
  case measure=>simp [intOf]<;>omega
end Go.Proofs.YtmhlokahmblboaaGreatDoor
