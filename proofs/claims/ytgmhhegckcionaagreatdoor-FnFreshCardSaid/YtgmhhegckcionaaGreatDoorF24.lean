/-
  Joined: KeyI, MkdI, Meet.
-/
import Derived.Test.YtgmhhegckcionaaGreatDoorF23

namespace Go.Proofs.YtgmhhegckcionaaGreatDoor
set_option maxRecDepth 100000
set_option maxHeartbeats 16000000
open Go.RowKit

theorem TE {zs:List Int} {k:Nat} (h:k<zs.length):zs.getD k 0 ∈ zs:=by simp [List.getD,h]
theorem S2 {zs:List Int} {k:Nat} (h:k<zs.length):(zs.map fun z=>48+z).take (k+1)=(zs.map fun z=>48+z).take k++[48+zs.getD k 0]:=by
 rw [List.take_succ_eq_append_getElem (by simpa using h)]
 simp [List.getD,h]
theorem Qc {zs pre xs suf:List Int} {o n:Nat} (h:zs=pre++(xs++suf)) (ho:pre.length=o) (hn:xs.length=n) {j:Nat} (hj:j<n):xs.getD j 0=zs.getD (o+j) 0:=by
 subst h ho hn
 simp [List.getD,List.getElem?_append_right,List.getElem?_append_left hj]

theorem N7 (s:S4) (m:V4) (w:World) (h:Xd w s m) (hok:Zc m=true) (hV:ZN w) :
  Calls Tryz.prog 130 #[s.val] w fun e w'=>e=.returned (.tuple #[.string (Zt m),.int .i64 0])∧Below w.heap.size w w':=by
 have kS:=fun w h=>Q0 s m w h
 have kL:=fun w=>QJ s w
 rw [hok] at kS
 have hM:=fun (W:World) (hb:Below w.heap.size w W)=>h.below hb
 obtain ⟨i8,hi8,hy0,hy1,hy2⟩:=info_parts K9
 obtain ⟨l0,l1,l2,l3,hdig⟩:=ZS hok
 have HD:Hid (∀ z ∈ WN m,0≤z∧z≤9):=hdig
 obtain ⟨fin,hfin⟩:∃ fin,fin=Zt m:=⟨_,rfl⟩
 rw [← hfin]
 have HF:Hid (fin=strOfNums ((WN m).map fun z=>48+z)):=hfin
 clear hdig hfin hok
 obtain ⟨⟨j0,_⟩,⟨j1,_⟩,⟨j2,_⟩,⟨j3,_⟩⟩:=h
 obtain ⟨⟨a0,n0,c0⟩,⟨a1,n1,c1⟩,⟨a2,n2,c2⟩,⟨a3,n3,c3⟩⟩:=s
 obtain ⟨zs,hzs⟩:∃ zs,zs=WN m:=⟨_,rfl⟩
 rw [← hzs] at HD HF
 have hall:zs=((m.1++m.2.1)++m.2.2.1)++m.2.2.2:=hzs
 clear hzs
 have uA:S4.val ((a0,n0,c0),(a1,n1,c1),(a2,n2,c2),(a3,n3,c3))=.agg #[.slice a0 n0 c0,.slice a1 n1 c1,.slice a2 n2 c2,.slice a3 n3 c3]:=rfl
 rw [uA] at kS kL ⊢
 clear uA
 obtain ⟨m0,m1,m2,m3⟩:=m
 simp only at j0 j1 j2 j3 l0 l1 l2 l3 hall
 have HP0:Hid (∀ j,j<3→m0.getD j 0=zs.getD (0+j) 0):=fun j hj=>Qc (pre:=[]) (suf:=m1++m2++m3) (by rw [hall];simp [List.append_assoc]) rfl l0 hj
 have HP1:Hid (∀ j,j<4→m1.getD j 0=zs.getD (3+j) 0):=fun j hj=>Qc (pre:=m0) (suf:=m2++m3) (by rw [hall];simp [List.append_assoc]) l0 l1 hj
 have HP2:Hid (∀ j,j<2→m2.getD j 0=zs.getD (7+j) 0):=fun j hj=>Qc (pre:=m0++m1) (suf:=m3) (by rw [hall];simp [List.append_assoc]) (by simp;omega) l2 hj
 have HP3:Hid (∀ j,j<6→m3.getD j 0=zs.getD (9+j) 0):=fun j hj=>Qc (pre:=m0++m1++m2) (suf:=[]) (by rw [hall];simp [List.append_assoc]) (by simp;omega) l3 hj
 have HL:Hid (zs.length=15):=by rw [hall];simp [Hid];omega
 obtain ⟨rfl,b0,o0,rfl⟩:=ZA j0 l0 (by omega)
 obtain ⟨rfl,b1,o1,rfl⟩:=ZA j1 l1 (by omega)
 obtain ⟨rfl,b2,o2,rfl⟩:=ZA j2 l2 (by omega)
 obtain ⟨rfl,b3,o3,rfl⟩:=ZA j3 l3 (by omega)
 clear l0 l1 l2 l3 hall
 have y0:=Kl (.slice (some ⟨b0,o0,none⟩) 3 c0) (.slice (some ⟨b1,o1,none⟩) 4 c1) (.slice (some ⟨b2,o2,none⟩) 2 c2) (.slice (some ⟨b3,o3,none⟩) 6 c3)
 have y1:=Km (.slice (some ⟨b0,o0,none⟩) 3 c0) (.slice (some ⟨b1,o1,none⟩) 4 c1) (.slice (some ⟨b2,o2,none⟩) 2 c2) (.slice (some ⟨b3,o3,none⟩) 6 c3)
 have y2:=Kn (.slice (some ⟨b0,o0,none⟩) 3 c0) (.slice (some ⟨b1,o1,none⟩) 4 c1) (.slice (some ⟨b2,o2,none⟩) 2 c2) (.slice (some ⟨b3,o3,none⟩) 6 c3)
 have y3:=Ko (.slice (some ⟨b0,o0,none⟩) 3 c0) (.slice (some ⟨b1,o1,none⟩) 4 c1) (.slice (some ⟨b2,o2,none⟩) 2 c2) (.slice (some ⟨b3,o3,none⟩) 6 c3)
 have bw:Below w.heap.size w (w.alloc (.cells #[.slice (some ⟨b0,o0,none⟩) 3 c0,.slice (some ⟨b1,o1,none⟩) 4 c1,.slice (some ⟨b2,o2,none⟩) 2 c2,.slice (some ⟨b3,o3,none⟩) 6 c3] 88)):=by go_grown
 have pA:=Blk.new w 88 [.slice (some ⟨b0,o0,none⟩) 3 c0,.slice (some ⟨b1,o1,none⟩) 4 c1,.slice (some ⟨b2,o2,none⟩) 2 c2,.slice (some ⟨b3,o3,none⟩) 6 c3]
 go_enter Tryz.func130,Tryz.ntmps130
 go_wp2_with fail
 refine (kS _ (hM _ bw) (hV.below bw)).mono ?_
 rintro e w1 ⟨rfl,hb⟩
 replace bw:=Zb bw hb
 replace pA:=pA.below hb
 have g0:=pA.cell 0
 have g1:=pA.cell 1
 have g2:=pA.cell 2
 have g3:=pA.cell 3
 simp at g0 g1 g2 g3
 clear hb kS hM
 go_wp2_with fail
 refine (kL _).mono ?_
 rintro e w2 ⟨rfl,hb⟩
 replace bw:=Zb bw hb
 clear hb kL g0 g1 g2 g3 pA hV
 have hown:w2.ownsRow w.heap.size 5 1 (.slice none 0 0) 0 (u8s ((zs.map fun z=>48+z).take 0)):=World.ownsRow_nil _ _ _ _
 go_wp2_with fail
 refine wp_loop_rounds 5 ?_
 rw [rounds_succ]
 go_wp2_with fail
 go_loopw [4,19] (fun so si wr=>∃ j:Nat,j≤3∧si=.int .i64 j∧wr.ownsRow w.heap.size 5 1 so (0+j) (u8s ((zs.map fun z=>48+z).take (0+j)))∧Below w.heap.size w wr) (fun _ si _=>3 - (intOf si).toNat)
 case atStart=>exact ⟨0,by omega,rfl,hown,bw⟩
 case round =>
  clear hown bw
  obtain ⟨j,hj,rfl,hr,hbw⟩:=hrel
  by_cases hlt:j<3
  ·have hjl:0+j<zs.length:=by rw [HL.out];omega
   have hc:wr.cell? ⟨b0,o0+j,none⟩=some (.int .i64 (zs.getD (0+j) 0)):=by
    rw [← HP0.out j hlt]
    rcases (j0.below hbw).2.2.2 with h9 | ⟨b9,off9,ha9,_,hc9⟩
    ·exact absurd h9 (by decide)
    cases ha9
    exact hc9 j hlt
   have hx:=HD.out (zs.getD (0+j) 0) (TE hjl)
   have HX:Hid ((zs.map fun z=>48+z).take (0+(j+1))=(zs.map fun z=>48+z).take (0+j)++[48+zs.getD (0+j) 0]):=by
    exact S2 hjl
   obtain ⟨d,hd⟩:∃ d:Nat,zs.getD (0+j) 0=(d:Int):=⟨(zs.getD (0+j) 0).toNat,by omega⟩
   rw [hd] at hc hx HX
   have hd9:d≤9:=by omega
   clear hx hd hjl
   have hsz:=hbw.size
   have hjI:(j:Int)<3:=by omega
   go_wp2_with (at_builtin;refine wpList_append_own _ rfl _ _ 22 rfl w.heap.size 5 i8 (.int .u8 0) 1 1 Tryz.underlying22 hi8 hy0 hy1 hy2 rfl (by decide) _ _ _ rfl (hr.alloc _) ⟨wr.heap.size,0,none⟩ 1 1 [.int .u8 (48+(d:Int))] rfl rfl (cell_one_new _ _ _) (QT _) ?c3 ?c4 ?c5 ?_)
   case c3=>unfold maxLen;omega
   case c4=>omega
   case c5=>simp;omega
   intro v' wn hown' hgrow _
   have R:wn.ownsRow w.heap.size 5 1 v' (0+(j+1)) (u8s ((zs.map fun z=>48+z).take (0+(j+1)))):=by
    rw [HX.out]
    simpa [u8s,Nat.add_assoc] using hown'
   have bn:Below w.heap.size w wn:=(hbw.alloc hsz _).grown hgrow (by simp;omega) (fun k hk=>(hr.lt k hk).1)
   clear hown' hgrow hr hbw hc HX
   go_wp2
   go_roundw
   case rel=>exact ⟨j+1,by omega,by go_num,R,bn⟩
   case measure=>simp [intOf];omega
  obtain rfl:j=3:=by omega
  have hown:=hr
  have bw:=hbw
  clear hr hbw
  simp only [Nat.reduceAdd] at hown
  go_wp2_with fail
  rw [rounds_succ]
  replace hown:_:=(show wr.ownsRow w.heap.size 5 1 _ (3+0) (u8s ((zs.map fun z=>48+z).take (3+0))) from hown)
  go_wp2_with fail
  go_loopw [4,19] (fun so si wr=>∃ j:Nat,j≤4∧si=.int .i64 j∧wr.ownsRow w.heap.size 5 1 so (3+j) (u8s ((zs.map fun z=>48+z).take (3+j)))∧Below w.heap.size w wr) (fun _ si _=>4 - (intOf si).toNat)
  case atStart=>exact ⟨0,by omega,rfl,hown,bw⟩
  case round =>
   clear hown bw
   obtain ⟨j,hj,rfl,hr,hbw⟩:=hrel
   by_cases hlt:j<4
   ·have hjl:3+j<zs.length:=by rw [HL.out];omega
    have hc:wr.cell? ⟨b1,o1+j,none⟩=some (.int .i64 (zs.getD (3+j) 0)):=by
     rw [← HP1.out j hlt]
     rcases (j1.below hbw).2.2.2 with h9 | ⟨b9,off9,ha9,_,hc9⟩
     ·exact absurd h9 (by decide)
     cases ha9
     exact hc9 j hlt
    have hx:=HD.out (zs.getD (3+j) 0) (TE hjl)
    have HX:Hid ((zs.map fun z=>48+z).take (3+(j+1))=(zs.map fun z=>48+z).take (3+j)++[48+zs.getD (3+j) 0]):=by
     exact S2 hjl
    obtain ⟨d,hd⟩:∃ d:Nat,zs.getD (3+j) 0=(d:Int):=⟨(zs.getD (3+j) 0).toNat,by omega⟩
    rw [hd] at hc hx HX
    have hd9:d≤9:=by omega
    clear hx hd hjl
    have hsz:=hbw.size
    have hjI:(j:Int)<4:=by omega
    go_wp2_with (at_builtin;refine wpList_append_own _ rfl _ _ 22 rfl w.heap.size 5 i8 (.int .u8 0) 1 1 Tryz.underlying22 hi8 hy0 hy1 hy2 rfl (by decide) _ _ _ rfl (hr.alloc _) ⟨wr.heap.size,0,none⟩ 1 1 [.int .u8 (48+(d:Int))] rfl rfl (cell_one_new _ _ _) (QT _) ?c3 ?c4 ?c5 ?_)
    case c3=>unfold maxLen;omega
    case c4=>omega
    case c5=>simp;omega
    intro v' wn hown' hgrow _
    have R:wn.ownsRow w.heap.size 5 1 v' (3+(j+1)) (u8s ((zs.map fun z=>48+z).take (3+(j+1)))):=by
     rw [HX.out]
     simpa [u8s,Nat.add_assoc] using hown'
    have bn:Below w.heap.size w wn:=(hbw.alloc hsz _).grown hgrow (by simp;omega) (fun k hk=>(hr.lt k hk).1)
    clear hown' hgrow hr hbw hc HX
    go_wp2
    go_roundw
    case rel=>exact ⟨j+1,by omega,by go_num,R,bn⟩
    case measure=>simp [intOf];omega
   obtain rfl:j=4:=by omega
   have hown:=hr
   have bw:=hbw
   clear hr hbw
   simp only [Nat.reduceAdd] at hown
   go_wp2_with fail
   rw [rounds_succ]
   replace hown:_:=(show wr.ownsRow w.heap.size 5 1 _ (7+0) (u8s ((zs.map fun z=>48+z).take (7+0))) from hown)
   go_wp2_with fail
   go_loopw [4,19] (fun so si wr=>∃ j:Nat,j≤2∧si=.int .i64 j∧wr.ownsRow w.heap.size 5 1 so (7+j) (u8s ((zs.map fun z=>48+z).take (7+j)))∧Below w.heap.size w wr) (fun _ si _=>2 - (intOf si).toNat)
   case atStart=>exact ⟨0,by omega,rfl,hown,bw⟩
   case round =>
    clear hown bw
    obtain ⟨j,hj,rfl,hr,hbw⟩:=hrel
    by_cases hlt:j<2
    ·have hjl:7+j<zs.length:=by rw [HL.out];omega
     have hc:wr.cell? ⟨b2,o2+j,none⟩=some (.int .i64 (zs.getD (7+j) 0)):=by
      rw [← HP2.out j hlt]
      rcases (j2.below hbw).2.2.2 with h9 | ⟨b9,off9,ha9,_,hc9⟩
      ·exact absurd h9 (by decide)
      cases ha9
      exact hc9 j hlt
     have hx:=HD.out (zs.getD (7+j) 0) (TE hjl)
     have HX:Hid ((zs.map fun z=>48+z).take (7+(j+1))=(zs.map fun z=>48+z).take (7+j)++[48+zs.getD (7+j) 0]):=by
      exact S2 hjl
     obtain ⟨d,hd⟩:∃ d:Nat,zs.getD (7+j) 0=(d:Int):=⟨(zs.getD (7+j) 0).toNat,by omega⟩
     rw [hd] at hc hx HX
     have hd9:d≤9:=by omega
     clear hx hd hjl
     have hsz:=hbw.size
     have hjI:(j:Int)<2:=by omega
     go_wp2_with (at_builtin;refine wpList_append_own _ rfl _ _ 22 rfl w.heap.size 5 i8 (.int .u8 0) 1 1 Tryz.underlying22 hi8 hy0 hy1 hy2 rfl (by decide) _ _ _ rfl (hr.alloc _) ⟨wr.heap.size,0,none⟩ 1 1 [.int .u8 (48+(d:Int))] rfl rfl (cell_one_new _ _ _) (QT _) ?c3 ?c4 ?c5 ?_)
     case c3=>unfold maxLen;omega
     case c4=>omega
     case c5=>simp;omega
     intro v' wn hown' hgrow _
     have R:wn.ownsRow w.heap.size 5 1 v' (7+(j+1)) (u8s ((zs.map fun z=>48+z).take (7+(j+1)))):=by
      rw [HX.out]
      simpa [u8s,Nat.add_assoc] using hown'
     have bn:Below w.heap.size w wn:=(hbw.alloc hsz _).grown hgrow (by simp;omega) (fun k hk=>(hr.lt k hk).1)
     clear hown' hgrow hr hbw hc HX
     go_wp2
     go_roundw
     case rel=>exact ⟨j+1,by omega,by go_num,R,bn⟩
     case measure=>simp [intOf];omega
    obtain rfl:j=2:=by omega
    have hown:=hr
    have bw:=hbw
    clear hr hbw
    simp only [Nat.reduceAdd] at hown
    go_wp2_with fail
    rw [rounds_succ]
    replace hown:_:=(show wr.ownsRow w.heap.size 5 1 _ (9+0) (u8s ((zs.map fun z=>48+z).take (9+0))) from hown)
    go_wp2_with fail
    go_loopw [4,19] (fun so si wr=>∃ j:Nat,j≤6∧si=.int .i64 j∧wr.ownsRow w.heap.size 5 1 so (9+j) (u8s ((zs.map fun z=>48+z).take (9+j)))∧Below w.heap.size w wr) (fun _ si _=>6 - (intOf si).toNat)
    case atStart=>exact ⟨0,by omega,rfl,hown,bw⟩
    case round =>
     clear hown bw
     obtain ⟨j,hj,rfl,hr,hbw⟩:=hrel
     by_cases hlt:j<6
     ·have hjl:9+j<zs.length:=by rw [HL.out];omega
      have hc:wr.cell? ⟨b3,o3+j,none⟩=some (.int .i64 (zs.getD (9+j) 0)):=by
       rw [← HP3.out j hlt]
       rcases (j3.below hbw).2.2.2 with h9 | ⟨b9,off9,ha9,_,hc9⟩
       ·exact absurd h9 (by decide)
       cases ha9
       exact hc9 j hlt
      have hx:=HD.out (zs.getD (9+j) 0) (TE hjl)
      have HX:Hid ((zs.map fun z=>48+z).take (9+(j+1))=(zs.map fun z=>48+z).take (9+j)++[48+zs.getD (9+j) 0]):=by
       exact S2 hjl
      obtain ⟨d,hd⟩:∃ d:Nat,zs.getD (9+j) 0=(d:Int):=⟨(zs.getD (9+j) 0).toNat,by omega⟩
      rw [hd] at hc hx HX
      have hd9:d≤9:=by omega
      clear hx hd hjl
      have hsz:=hbw.size
      have hjI:(j:Int)<6:=by omega
      go_wp2_with (at_builtin;refine wpList_append_own _ rfl _ _ 22 rfl w.heap.size 5 i8 (.int .u8 0) 1 1 Tryz.underlying22 hi8 hy0 hy1 hy2 rfl (by decide) _ _ _ rfl (hr.alloc _) ⟨wr.heap.size,0,none⟩ 1 1 [.int .u8 (48+(d:Int))] rfl rfl (cell_one_new _ _ _) (QT _) ?c3 ?c4 ?c5 ?_)
      case c3=>unfold maxLen;omega
      case c4=>omega
      case c5=>simp;omega
      intro v' wn hown' hgrow _
      have R:wn.ownsRow w.heap.size 5 1 v' (9+(j+1)) (u8s ((zs.map fun z=>48+z).take (9+(j+1)))):=by
       rw [HX.out]
       simpa [u8s,Nat.add_assoc] using hown'
      have bn:Below w.heap.size w wn:=(hbw.alloc hsz _).grown hgrow (by simp;omega) (fun k hk=>(hr.lt k hk).1)
      clear hown' hgrow hr hbw hc HX
      go_wp2
      go_roundw
      case rel=>exact ⟨j+1,by omega,by go_num,R,bn⟩
      case measure=>simp [intOf];omega
     obtain rfl:j=6:=by omega
     have hown:=hr
     have bw:=hbw
     clear hr hbw
     simp only [Nat.reduceAdd] at hown
     have hfull:(zs.map fun z=>48+z).take 15=zs.map fun z=>48+z:=List.take_of_length_le (by simp [HL.out])
     rw [hfull] at hown
     have hcv:=Qo hown
     rw [← HF.out] at hcv
     clear hown hfull
     go_wp2_with fail
     rw [rounds_succ]
     go_wp2
     go_ret2
     exact ⟨rfl,bw⟩

set_option linter.unusedVariables false
set_option linter.unusedSimpArgs false

theorem Jh {w:World} {g:Nat} {cs:Sl × Sl × Sl} {m:V4} (hM:Blk w g 98 (Zi cs.1.val cs.2.1.val cs.2.2.val m)) (hs:Zc m=true) (hV:ZN w) :
  Calls Tryz.prog 85 #[.pointer (some ⟨g,0,none⟩)] w fun e w'=>e=.returned (.string (Zt m))∧Below w.heap.size w w':=by
 have kS:=Dn (cs:=cs) hM hs
 have fz:=(YC hs).1
 go_enter Tryz.func85,Tryz.ntmps85
 go_wp2_with fail
 refine kS.mono ?_
 rintro e w1 ⟨⟨t,rfl,hO⟩,hb⟩
 have kK:=N7 t m w1 (hO.mem fz) hs (hV.below hb)
 clear hO kS
 obtain ⟨⟨t0a,t0n,t0c⟩,⟨t1a,t1n,t1c⟩,⟨t2a,t2n,t2c⟩,⟨t3a,t3n,t3c⟩⟩:=t
 unfold S4.val at kK ⊢
 simp only at kK ⊢
 go_wp2_with fail
 refine kK.mono ?_
 rintro e w2 ⟨rfl,hb2⟩
 go_wp2
 go_ret
 exact ⟨rfl,Zo hb hb2⟩


theorem N9:(Tryz.prog.info? 101).map (fun i=>(i.zero,i.size,i.bytes))=some (some (.agg #[.string ⟨#[]⟩,.slice none 0 0,.int .i64 0,.int .i64 0,.int .i64 0,.slice none 0 0,.int .i64 0,.int .i64 0,.int .i64 0,.slice none 0 0,.int .i64 0,.int .i64 0,.int .i64 0,.int .i64 0,.int .i64 0,.int .i64 0,.int .i64 0,.int .i64 0,.int .i64 0,.int .i64 0,.int .i64 0,.slice none 0 0]),22,248):=by kernel_rfl
def VW (i:Nat) (L:List (Zz V4 × Value)) (k:Int) (z:V4):List (Zz V4 × Value):=if RX (L.map (·.1)) z then L else L++[((z,i,k),.slice none 0 0)]
theorem Tj (i:Nat) (L:List (Zz V4 × Value)) (k:Int) (z:V4):(VW i L k z).map (·.1)=WW i (L.map (·.1)) (k,z):=by
 unfold VW WW
 split<;>simp_all
def Va (e:Ending) (w w':World) (B X nb:Nat) (vs:Value) (cs:Sl × Sl × Sl) (M:V4→List I4) (L:List (Zz V4 × Value)) (d:Nat) (z:V4) (i:Nat) (k:Int):Prop:=
 ∃ vs',e=.returned (.int .i64 (ixS ((VW i L k z).map (·.1)) z:Int))∧Xc w' B nb vs' cs M (VW i L k z) d∧Blk w' X 84 [vs',.map (some nb)]∧Yu w w' X nb vs∧XY w vs vs'
theorem Va.old {w w':World} {B X nb d:Nat} {vs:Value} {cs:Sl × Sl × Sl} {M:V4→List I4} {L:List (Zz V4 × Value)} {z:V4} {i:Nat} {k:Int} (hh:RX (L.map (·.1)) z=true) (h1:Xc w' B nb vs cs M L d) (h2:Blk w' X 84 [vs,.map (some nb)]) (h3:Yu w w' X nb vs):Va (.returned (.int .i64 (ixS (L.map (·.1)) z:Int))) w w' B X nb vs cs M L d z i k:=by
 have e:VW i L k z=L:=by unfold VW;rw [if_pos hh]
 unfold Va
 rw [e]
 exact ⟨vs,rfl,h1,h2,h3,XY.refl _ _⟩
theorem Va.new {w w':World} {B X nb d:Nat} {vs vs':Value} {cs:Sl × Sl × Sl} {M:V4→List I4} {L:List (Zz V4 × Value)} {z:V4} {i:Nat} {k:Int} (hm:z ∉ (L.map (·.1)).map (·.1)) (h1:Xc w' B nb vs' cs M (L++[((z,i,k),.slice none 0 0)]) d) (h2:Blk w' X 84 [vs',.map (some nb)]) (h3:Yu w w' X nb vs) (h4:XY w vs vs'):Va (.returned (.int .i64 (L.length:Int))) w w' B X nb vs cs M L d z i k:=by
 have hh:RX (L.map (·.1)) z=false:=by
  cases h9:RX (L.map (·.1)) z
  ·rfl
  exact absurd (Uc.1 h9) hm
 have e:VW i L k z=L++[((z,i,k),.slice none 0 0)]:=by unfold VW;rw [hh];rfl
 have hix:ixS ((L++[((z,i,k),Value.slice none 0 0)]).map (·.1)) z=L.length:=by
  rw [List.map_append]
  have:=R6 i k hm
  simpa using this
 unfold Va
 rw [e,hix]
 exact ⟨vs',rfl,h1,h2,h3,h4⟩
theorem J4 {z:Int} (h:0≤z) (h':z≤1000000000):(Lit.int .i64 z).wf=true:=by
 simp only [Lit.wf,Bool.and_eq_true,decide_eq_true_eq]
 have h1:IntKind.i64.min=-9223372036854775808:=by decide
 have h2:IntKind.i64.max=9223372036854775807:=by decide
 omega
theorem Lb (c0 c1 c2:Sl) (m:V4):(Zi c0.val c1.val c2.val m).all (·.oneCell')=true:=rfl
theorem TD {w:World} {g t:Nat} {cs:List Value} (h:Blk w g t cs):∀ j u,cs[j]?=some u→w.cell? ((⟨g,0,none⟩:Addr).add j)=some u:=by
 intro j u hj
 rw [Addr.add_mid,Nat.zero_add,h.cell]
 exact hj
theorem Jf {w:World} {B X nb d:Nat} {vs:Value} {cs:Sl × Sl × Sl} {M:V4→List I4} {L:List (Zz V4 × Value)} (hS:Xc w B nb vs cs M L d) (hX:Blk w X 84 [vs,.map (some nb)]) (hBw:B≤w.heap.size) (hd:d≤L.length) (hsh:Xl (L.map (·.1))) (hV:ZN w) {z:V4} (hz:Zc z=true) (hl:L.length≤100000) (i:Nat) (k:Int) :
  Calls Tryz.prog 80 #[.pointer (some ⟨X,0,none⟩),.agg (Zi cs.1.val cs.2.1.val cs.2.2.val z).toArray,.int .i64 i,.int .i64 k] w fun e w'=>Va e w w' B X nb vs cs M L d z i k:=by
 have kT:=fun (W:World) (g:Nat) (h:Blk W g 98 (Zi cs.1.val cs.2.1.val cs.2.2.val z)) (hV:ZN W)=>Jh (cs:=cs) h hz hV
 have HRC:Hid (rcC cs (z,i,k) (.slice none 0 0)=.string (Zt z)::(Zi cs.1.val cs.2.1.val cs.2.2.val z++[.int .i64 (i:Int),.int .i64 k,.slice none 0 0])):=rfl
 have hone:=Lb cs.1 cs.2.1 cs.2.2 z
 obtain ⟨x0,x1,x2,x3,x4,x5,x6,x7,x8,x9,x10,x11,x12,x13,x14,x15,x16,x17,hMC⟩:∃ x0 x1 x2 x3 x4 x5 x6 x7 x8 x9 x10 x11 x12 x13 x14 x15 x16 x17:Value,Zi cs.1.val cs.2.1.val cs.2.2.val z=[x0,x1,x2,x3,x4,x5,x6,x7,x8,x9,x10,x11,x12,x13,x14,x15,x16,x17]:=⟨_,_,_,_,_,_,_,_,_,_,_,_,_,_,_,_,_,_,rfl⟩
 rw [hMC] at kT HRC hone ⊢
 clear hMC
 simp only [List.all_cons,List.all_nil,Bool.and_true,Bool.and_eq_true] at hone
 obtain ⟨o0,o1,o2,o3,o4,o5,o6,o7,o8,o9,o10,o11,o12,o13,o14,o15,o16,o17⟩:=hone
 have hks:(Zt z).size≤maxLen:=by rw [X0 hz];unfold maxLen;omega
 have hkey:keyOf Tryz.prog 9 (.string (Zt z))=some (.string (Zt z).data.toList):=WideMaps.keyOf_string_mk Tryz.underlying9 hks
 have bw:Below w.heap.size w (w.alloc (.cells #[x0,x1,x2,x3,x4,x5,x6,x7,x8,x9,x10,x11,x12,x13,x14,x15,x16,x17] 98)):=by go_grown
 have pY:Blk (w.alloc (.cells #[x0,x1,x2,x3,x4,x5,x6,x7,x8,x9,x10,x11,x12,x13,x14,x15,x16,x17] 98)) w.heap.size 98 [x0,x1,x2,x3,x4,x5,x6,x7,x8,x9,x10,x11,x12,x13,x14,x15,x16,x17]:=Zj _ _ _ rfl
 obtain ⟨D,hm,hN⟩:=hS.map
 have hN2:Hid (∀ x,x ∈ (L.map (·.1)).map (·.1)→∀ zz,D.atKey (.string (Zt x).data.toList) zz=.lit (.int .i64 (ixS (L.map (·.1)) x))):=hN.at9
 have hhas:=hN.has (Zt z)
 have hiff:=DO hsh hz
 have HP:=fun (hn:z ∉ (L.map (·.1)).map (·.1))=>TY.put hN hm.isMap hsh hz hn i k
 go_enter Tryz.func80,Tryz.ntmps80
 go_wp2_with fail
 generalize w.alloc (.cells #[x0,x1,x2,x3,x4,x5,x6,x7,x8,x9,x10,x11,x12,x13,x14,x15,x16,x17] 98)=U at *
 refine (kT _ _ pY (hV.below bw)).mono ?_
 rintro e w2 ⟨rfl,hb⟩
 replace bw:=Zb bw hb
 replace pY:=pY.below hb
 clear hb kT hV
 have hS2:=hS.below bw
 have pX:=hX.below bw
 have hXY:X≠w.heap.size:=by have:=hX.lt;omega
 have hm2:w2.ownsMap Tryz.prog 9 (plainElem Tryz.prog 3) nb L.length D:=hm.kept (row:=none) ⟨bw.os,bw.tape,bw.output,bw.size,fun k hk _=>bw.block k hk⟩ (by simp)
 obtain ⟨Y,hY⟩:∃ Y,Y=w.heap.size:=⟨_,rfl⟩
 rw [← hY] at pY hXY ⊢
 have hYw:w.heap.size≤Y:=by omega
 clear hY
 have cX0:w2.cell? ⟨X,0,none⟩=some vs:=by simpa using pX.cell 0
 have cX1:w2.cell? ⟨X,1,none⟩=some (.map (some nb)):=by simpa using pX.cell 1
 by_cases hmem:z ∈ (L.map (·.1)).map (·.1)
 ·have hh:RX (L.map (·.1)) z=true:=Uc.2 hmem
  have hL:VW i L k z=L:=by unfold VW;rw [if_pos hh]
  have hhT:Maps.has D (.string (Zt z).data.toList)=true:=hhas.2 (hiff.1 hh)
  have hat9:=hN2.out z hmem (.lit (.int .i64 0))
  clear hhas hiff HP hN hN2 hL hS hm
  have HH:Hid (RX (L.map (·.1)) z=true):=hh
  clear hh
  go_wp2_with (at_lookup;refine wpList_lookup_own_ok_int _ rfl _ _ 82 rfl 9 3 .i64 QI Tryz.underlying82 Tryz.underlying3 (NH _) nb L.length D rfl hm2 _ _ rfl hkey ?_;intro c hat hwc)
  rw [hat9] at hat
  injection hat with hat
  injection hat with _ hat
  subst hat
  clear hat9 hwc
  go_wp2
  go_ret
  exact Va.old HH.out hS2 pX (Yu.of_below X nb vs bw)
 have hwZ0:=hYw
 have hh:RX (L.map (·.1)) z=false:=by
  cases h9:RX (L.map (·.1)) z
  ·rfl
  exact absurd (Uc.1 h9) hmem
 have hL:VW i L k z=L++[((z,i,k),.slice none 0 0)]:=by unfold VW;rw [hh];rfl
 have hhF:Maps.has D (.string (Zt z).data.toList)=false:=by
  rw [← Bool.not_eq_true,hhas]
  intro h9
  rw [hiff.2 h9] at hh
  cases hh
 have HNP:=HP hmem
 have hix:ixS ((L++[((z,i,k),Value.slice none 0 0)]).map (·.1)) z=L.length:=by
  rw [List.map_append]
  have:=R6 i k hmem
  simpa using this
 rw [List.length_map] at HNP
 have HMM:Hid (z ∉ (L.map (·.1)).map (·.1)):=hmem
 clear hhas hiff HP hN hN2 hL hh hm hix hmem
 have HM9:Hid (∀ W:World,W.ownsMap Tryz.prog 9 (plainElem Tryz.prog 3) nb (L.length+1) (D.put (.string (Zt z).data.toList) (.lit (.int .i64 L.length)))→∃ D:DataW Unit,W.ownsMap Tryz.prog 9 (plainElem Tryz.prog 3) nb (L++[((z,i,k),Value.slice none 0 0)]).length D∧TY D ((L++[((z,i,k),Value.slice none 0 0)]).map (·.1))):=fun W h=>⟨_,by simpa using h,by simpa using HNP⟩
 clear HNP
 obtain ⟨i0,hi9,hz0,hz1,hz2⟩:=info_parts N9
 obtain ⟨va,vc,rfl⟩:∃ va vc,vs=.slice va L.length vc:=by
  rcases hS2.row.2 with ⟨h1,h2⟩ | ⟨g,c,cur,h1,_⟩
  ·exact ⟨none,0,by rw [h1,h2]⟩
  exact ⟨_,_,h1⟩
 generalize Zt z=key at *
 go_wp2_with (first | (at_lookup;refine wpList_lookup_own_ok_int _ rfl _ _ 82 rfl 9 3 .i64 QI Tryz.underlying82 Tryz.underlying3 (NH _) nb L.length D rfl hm2 _ _ rfl hkey ?_;intro c hat hwc) | (at_mapUpdate;refine wpList_mapUpdate_own _ rfl _ _ _ 82 rfl 9 3 QI Tryz.underlying82 _ nb L.length D rfl hm2 (by unfold maxLen;omega) _ _ _ rfl rfl hkey _ [] (plainElem_int Tryz.underlying3 (J4 (by omega) (by omega))) ?_;intro w3 hm3 g3))
 clear hat hwc hhF hm2 cX1
 have hnX:nb≠X:=fun e=>Uy (hS2.map.choose_spec.1) pX e.symm
 have hnY:nb≠Y:=fun e=>Uy (hS2.map.choose_spec.1) pY e.symm
 replace pX:=pX.kept g3 (by simpa using hnX)
 replace pY:=pY.kept g3 (by simpa using hnY)
 have hr3:=hS2.row.kept g3 (.inr (Uz (hS2.map.choose_spec.1) hS2.row))
 have hv3:∀ q9 r mv,q9<d→L[q9]?=some (r,mv)→w3.ownsRow B 194 4 mv (M r.1).length (We (M r.1)):=fun i r mv h1 h2=>(hS2.mvs i r mv h1 h2).kept g3 (.inr (Uz (hS2.map.choose_spec.1) (hS2.mvs i r mv h1 h2)))
 have k3:Yu w w3 X nb (.slice va L.length vc):=⟨g3.os.trans bw.os,g3.tape.trans bw.tape,g3.output.trans bw.output,Nat.le_trans bw.size g3.size,fun q hq h1 h2 h3=>(g3.block q (Nat.lt_of_lt_of_le hq bw.size) (by simpa using h2)).trans (bw.block q hq)⟩
 have hm4:=HM9.out w3 hm3
 clear hm3 HM9 hX bw g3
 replace cX0:w3.cell? ⟨X,0,none⟩=some (.slice va L.length vc):=by simpa using pX.cell 0
 have cY:w3.rangeAt Y 0 [x0,x1,x2,x3,x4,x5,x6,x7,x8,x9,x10,x11,x12,x13,x14,x15,x16,x17]:=fun j v hj=>by rw [Nat.zero_add,pY.cell];exact hj
 clear cX0
 have hr2:=hr3
 clear hr3
 have hkeep:Hid (Xc w2 B nb (.slice va L.length vc) cs M L d):=hS2
 clear hS2 hS
 have hBU:B≤w3.heap.size:=Nat.le_trans hBw k3.size
 have hX9:∀ j,(Value.slice va L.length vc).ownBlock=some j→j≠X∧j≠Y:=fun j hj=>⟨fun e=>Zk hr2 pX (by decide) (by rw [hj,e]),fun e=>Zk hr2 pY (by decide) (by rw [hj,e])⟩
 go_wp2_with fail
 refine wp_region_held_drew (S:=(fun w'=>w'.rangeAt Y 0 [x0,x1,x2,x3,x4,x5,x6,x7,x8,x9,x10,x11,x12,x13,x14,x15,x16,x17])) (by kernel_rfl) cY (fun hS0=>?_)
 refine tkm 0 36 (.pointer (some ⟨X,0,none⟩)) ?_
 refine tkm 1 37 (.pointer (some ⟨X,0,none⟩)) ?_
 refine tkm 2 38 (.pointer (some ⟨X,0,none⟩)) ?_
 refine tkm 3 39 (.pointer (some ⟨X,0,none⟩)) ?_
 refine tkm 5 41 (.string key) ?_
 refine wpAnyH_take (i:=6) (oi:=⟨some 42,_,_,_,_,_⟩) (v:=.agg #[x0,x1,x2,x3,x4,x5,x6,x7,x8,x9,x10,x11,x12,x13,x14,x15,x16,x17]) rfl (by kernel_rfl) (by kernel_rfl) (by kernel_rfl) (fun _ _ _ h=>h) (yieldsIf_load_mid (by rfl) 98 _ rfl Y 0 rfl [x0,x1,x2,x3,x4,x5,x6,x7,x8,x9,x10,x11,x12,x13,x14,x15,x16,x17] _ (fun _ h=>h) Tryz.underlying98 rfl (by kernel_rfl)) (by assumption) ?_
 simp only [Act.put,tka,tkb,tkc]
 refine tkm 7 43 (.int .i64 (i:Int)) ?_
 refine tkm 8 44 (.int .i64 k) ?_
 refine tkm 9 45 (.agg #[.string key,x0,x1,x2,x3,x4,x5,x6,x7,x8,x9,x10,x11,x12,x13,x14,x15,x16,x17,.int .i64 (i:Int),.int .i64 k,.slice none 0 0]) ?_
 have pX9:=pX.lt
 have pY9:=pY.lt
 have hr9:∀ j,(Value.slice va L.length vc).ownBlock=some j→j<w3.heap.size:=fun j hj=>(Yc hr2 hj).2
 refine wpAnyH_ready (rs:=[4,10]) (by kernel_rfl) (by simp) ?_
 refine AllReadyH.cons (o:=⟨some 40,_,_,_,_,_⟩) rfl (fun K hK=>?_) (AllReadyH.cons (o:=⟨some 46,_,_,_,_,_⟩) rfl (fun K hK=>?_) AllReadyH.nil)
 focus
  have rF:w3.drew.cell? ⟨X,0,none⟩=some (.slice va L.length vc):=by simpa using pX.cell 0
  go_simp
  refine hK.out _ _ cY (fun hS1=>?_)
  clear hK rF
  try simp only [Act.put,tka,tkb,tkc]
  have hal:Below w3.heap.size w3 w3.drew:=by go_grown
  replace pX:=pX.below hal
  replace pY:=pY.below hal
  replace hr2:=Zs hr2 hal
  replace k3:=k3.belowR hal
  replace hm4:∃ D:DataW Unit,w3.drew.ownsMap Tryz.prog 9 (plainElem Tryz.prog 3) nb (L++[((z,i,k),Value.slice none 0 0)]).length D∧TY D ((L++[((z,i,k),Value.slice none 0 0)]).map (·.1)):=hm4
  replace hv3:∀ q9 r mv,q9<d→L[q9]?=some (r,mv)→w3.drew.ownsRow B 194 4 mv (M r.1).length (We (M r.1)):=fun i' r mv h1 h2=>Zs (hv3 i' r mv h1 h2) hal
  replace cY:w3.drew.rangeAt Y 0 [x0,x1,x2,x3,x4,x5,x6,x7,x8,x9,x10,x11,x12,x13,x14,x15,x16,x17]:=cY
  replace hBU:=Nat.le_trans hBU hal.size
  replace hr9:∀ j,(Value.slice va L.length vc).ownBlock=some j→j<w3.drew.heap.size:=hr9
  replace pX9:X<w3.drew.heap.size:=pX9
  replace pY9:Y<w3.drew.heap.size:=pY9
  clear hal
  generalize w3.drew=V1 at *
  refine tkr 10 46 (fun K hK=>?_)
  obtain ⟨Z,hZ⟩:∃ Z,Z=V1.heap.size:=⟨_,rfl⟩
  have pZ:Blk (V1.alloc (.cells #[.string key,x0,x1,x2,x3,x4,x5,x6,x7,x8,x9,x10,x11,x12,x13,x14,x15,x16,x17,.int .i64 (i:Int),.int .i64 k,.slice none 0 0] 101)) Z 101 [.string key,x0,x1,x2,x3,x4,x5,x6,x7,x8,x9,x10,x11,x12,x13,x14,x15,x16,x17,.int .i64 (i:Int),.int .i64 k,.slice none 0 0]:=by subst hZ;exact Blk.new _ _ _
  have hal:Below V1.heap.size V1 (V1.alloc (.cells #[.string key,x0,x1,x2,x3,x4,x5,x6,x7,x8,x9,x10,x11,x12,x13,x14,x15,x16,x17,.int .i64 (i:Int),.int .i64 k,.slice none 0 0] 101)):=by go_grown
  replace pX:=pX.below hal
  replace pY:=pY.below hal
  replace hr2:=Zs hr2 hal
  replace k3:=k3.belowR hal
  have hBs:B≤(V1.alloc (.cells #[.string key,x0,x1,x2,x3,x4,x5,x6,x7,x8,x9,x10,x11,x12,x13,x14,x15,x16,x17,.int .i64 (i:Int),.int .i64 k,.slice none 0 0] 101)).heap.size:=Nat.le_trans hBU hal.size
  replace hm4:∃ D:DataW Unit,(V1.alloc (.cells #[.string key,x0,x1,x2,x3,x4,x5,x6,x7,x8,x9,x10,x11,x12,x13,x14,x15,x16,x17,.int .i64 (i:Int),.int .i64 k,.slice none 0 0] 101)).ownsMap Tryz.prog 9 (plainElem Tryz.prog 3) nb (L++[((z,i,k),Value.slice none 0 0)]).length D∧TY D ((L++[((z,i,k),Value.slice none 0 0)]).map (·.1)):=by
   obtain ⟨D9,h1,h2⟩:=hm4
   exact ⟨D9,h1.kept (row:=none) ⟨hal.os,hal.tape,hal.output,hal.size,fun q hq _=>hal.block q hq⟩ (by simp),h2⟩
  replace hv3:∀ q9 r mv,q9<d→L[q9]?=some (r,mv)→(V1.alloc (.cells #[.string key,x0,x1,x2,x3,x4,x5,x6,x7,x8,x9,x10,x11,x12,x13,x14,x15,x16,x17,.int .i64 (i:Int),.int .i64 k,.slice none 0 0] 101)).ownsRow B 194 4 mv (M r.1).length (We (M r.1)):=fun i' r mv h1 h2=>Zs (hv3 i' r mv h1 h2) hal
  replace cY:(V1.alloc (.cells #[.string key,x0,x1,x2,x3,x4,x5,x6,x7,x8,x9,x10,x11,x12,x13,x14,x15,x16,x17,.int .i64 (i:Int),.int .i64 k,.slice none 0 0] 101)).rangeAt Y 0 [x0,x1,x2,x3,x4,x5,x6,x7,x8,x9,x10,x11,x12,x13,x14,x15,x16,x17]:=fun j v hj=>by rw [Nat.zero_add,pY.cell];exact hj
  have hZ9:X<Z∧Y<Z∧∀ j,(Value.slice va L.length vc).ownBlock=some j→j<Z:=⟨by rw [hZ];exact pX9,by rw [hZ];exact pY9,fun j hj=>by rw [hZ];exact hr9 j hj⟩
  go_simp
  rw [← hZ]
  refine hK.out _ _ cY (fun hS2=>?_)
  clear hK hal hZ
  generalize (V1.alloc (.cells #[.string key,x0,x1,x2,x3,x4,x5,x6,x7,x8,x9,x10,x11,x12,x13,x14,x15,x16,x17,.int .i64 (i:Int),.int .i64 k,.slice none 0 0] 101))=V2 at *
 rotate_left
 focus
  obtain ⟨Z,hZ⟩:∃ Z,Z=w3.heap.size:=⟨_,rfl⟩
  have pZ:Blk (w3.alloc (.cells #[.string key,x0,x1,x2,x3,x4,x5,x6,x7,x8,x9,x10,x11,x12,x13,x14,x15,x16,x17,.int .i64 (i:Int),.int .i64 k,.slice none 0 0] 101)).drew Z 101 [.string key,x0,x1,x2,x3,x4,x5,x6,x7,x8,x9,x10,x11,x12,x13,x14,x15,x16,x17,.int .i64 (i:Int),.int .i64 k,.slice none 0 0]:=by subst hZ;exact Blk.new _ _ _
  have hal:Below w3.heap.size w3 (w3.alloc (.cells #[.string key,x0,x1,x2,x3,x4,x5,x6,x7,x8,x9,x10,x11,x12,x13,x14,x15,x16,x17,.int .i64 (i:Int),.int .i64 k,.slice none 0 0] 101)).drew:=by go_grown
  replace pX:=pX.below hal
  replace pY:=pY.below hal
  replace hr2:=Zs hr2 hal
  replace k3:=k3.belowR hal
  have hBs:B≤(w3.alloc (.cells #[.string key,x0,x1,x2,x3,x4,x5,x6,x7,x8,x9,x10,x11,x12,x13,x14,x15,x16,x17,.int .i64 (i:Int),.int .i64 k,.slice none 0 0] 101)).drew.heap.size:=Nat.le_trans hBU hal.size
  replace hm4:∃ D:DataW Unit,(w3.alloc (.cells #[.string key,x0,x1,x2,x3,x4,x5,x6,x7,x8,x9,x10,x11,x12,x13,x14,x15,x16,x17,.int .i64 (i:Int),.int .i64 k,.slice none 0 0] 101)).drew.ownsMap Tryz.prog 9 (plainElem Tryz.prog 3) nb (L++[((z,i,k),Value.slice none 0 0)]).length D∧TY D ((L++[((z,i,k),Value.slice none 0 0)]).map (·.1)):=by
   obtain ⟨D9,h1,h2⟩:=hm4
   exact ⟨D9,h1.kept (row:=none) ⟨hal.os,hal.tape,hal.output,hal.size,fun q hq _=>hal.block q hq⟩ (by simp),h2⟩
  replace hv3:∀ q9 r mv,q9<d→L[q9]?=some (r,mv)→(w3.alloc (.cells #[.string key,x0,x1,x2,x3,x4,x5,x6,x7,x8,x9,x10,x11,x12,x13,x14,x15,x16,x17,.int .i64 (i:Int),.int .i64 k,.slice none 0 0] 101)).drew.ownsRow B 194 4 mv (M r.1).length (We (M r.1)):=fun i' r mv h1 h2=>Zs (hv3 i' r mv h1 h2) hal
  replace cY:(w3.alloc (.cells #[.string key,x0,x1,x2,x3,x4,x5,x6,x7,x8,x9,x10,x11,x12,x13,x14,x15,x16,x17,.int .i64 (i:Int),.int .i64 k,.slice none 0 0] 101)).drew.rangeAt Y 0 [x0,x1,x2,x3,x4,x5,x6,x7,x8,x9,x10,x11,x12,x13,x14,x15,x16,x17]:=fun j v hj=>by rw [Nat.zero_add,pY.cell];exact hj
  have hZ9:X<Z∧Y<Z∧∀ j,(Value.slice va L.length vc).ownBlock=some j→j<Z:=⟨by rw [hZ];exact pX9,by rw [hZ];exact pY9,fun j hj=>by rw [hZ];exact hr9 j hj⟩
  go_simp
  rw [← hZ]
  refine hK.out _ _ cY (fun hS1=>?_)
  clear hK hal hZ
  generalize (w3.alloc (.cells #[.string key,x0,x1,x2,x3,x4,x5,x6,x7,x8,x9,x10,x11,x12,x13,x14,x15,x16,x17,.int .i64 (i:Int),.int .i64 k,.slice none 0 0] 101)).drew=V2 at *
  try simp only [Act.put,tka,tkb,tkc]
  refine tkr 4 40 (fun K hK=>?_)
  have rF:V2.cell? ⟨X,0,none⟩=some (.slice va L.length vc):=by simpa using pX.cell 0
  go_simp
  refine hK.out _ _ cY (fun hS2=>?_)
  clear hK rF
 all_goals
  try simp only [Act.put,tka,tkb,tkc]
  have hwZ:w.heap.size≤V2.heap.size:=k3.size
  clear pX9 pY9 hr9
  refine tkr 11 47 (fun K hK=>?_)
  refine Xi rfl _ _ 81 rfl B 101 i0 _ 22 248 Tryz.underlying81 hi9 hz0 hz1 hz2 rfl (by decide) (.slice va L.length vc) L.length (rcF cs L) rfl hr2 ⟨Z,0,none⟩ 1 1 [.string key,x0,x1,x2,x3,x4,x5,x6,x7,x8,x9,x10,x11,x12,x13,x14,x15,x16,x17,.int .i64 (i:Int),.int .i64 k,.slice none 0 0] rfl rfl (TD pZ) (fun u hu=>by simp only [List.mem_cons,List.not_mem_nil,or_false] at hu;rcases hu with rfl | rfl | rfl | rfl | rfl | rfl | rfl | rfl | rfl | rfl | rfl | rfl | rfl | rfl | rfl | rfl | rfl | rfl | rfl | rfl | rfl | rfl<;>first | assumption | rfl) (by unfold maxLen;omega) (by omega) hBs ?_
  intro vn U2 q2 gr atn
  have nX:(Value.slice va L.length vc).ownBlock≠some X:=fun e=>(hX9 X e).1 rfl
  have nY:(Value.slice va L.length vc).ownBlock≠some Y:=fun e=>(hX9 Y e).2 rfl
  replace pX:=pX.kept gr nX
  replace pY:=pY.kept gr nY
  replace k3:Yu w U2 X nb (.slice va L.length vc):=⟨gr.os.trans k3.os,gr.tape.trans k3.tape,gr.output.trans k3.output,Nat.le_trans k3.size gr.size,fun q hq h1 h2 h3=>(gr.block q (Nat.lt_of_lt_of_le hq k3.size) (Ne.symm h3)).trans (k3.block q hq h1 h2 h3)⟩
  have hmv:XY w (.slice va L.length vc) vn:=by
   rcases atn with e9 | e9
   ·exact .inl e9
   exact .inr ⟨_,hwZ,e9⟩
  replace hm4:∃ D:DataW Unit,U2.ownsMap Tryz.prog 9 (plainElem Tryz.prog 3) nb (L++[((z,i,k),Value.slice none 0 0)]).length D∧TY D ((L++[((z,i,k),Value.slice none 0 0)]).map (·.1)):=by
   obtain ⟨D9,h1,h2⟩:=hm4
   exact ⟨D9,h1.kept gr (fun e=>Uz h1 hr2 e.symm),h2⟩
  replace hv3:∀ q9 r mv,q9<d→L[q9]?=some (r,mv)→U2.ownsRow B 194 4 mv (M r.1).length (We (M r.1)):=fun i r mv h1 h2=>(hv3 i r mv h1 h2).kept gr (Ap3.types (hv3 i r mv h1 h2) hr2 (by decide)).or
  replace cY:U2.rangeAt Y 0 [x0,x1,x2,x3,x4,x5,x6,x7,x8,x9,x10,x11,x12,x13,x14,x15,x16,x17]:=fun j v hj=>by rw [Nat.zero_add,pY.cell];exact hj
  have q3:U2.ownsRow B 101 22 vn (L++[((z,i,k),Value.slice none 0 0)]).length (rcF cs (L++[((z,i,k),Value.slice none 0 0)])):=by
   rw [Cg]
   show U2.ownsRow B 101 22 vn _ (rcF cs L++rcC cs (z,i,k) (.slice none 0 0))
   rw [HRC.out]
   simpa using q2
  refine hK.out _ _ cY (fun hS3=>?_)
  clear hK gr nX nY q2 atn hr2 pZ
  try simp only [Act.put,tka,tkb,tkc]
  refine tkm 12 48 (.pointer (some ⟨X,0,none⟩)) ?_
  refine tkm 13 49 (.pointer (some ⟨X,0,none⟩)) ?_
  have rF:U2.cell? ⟨X,0,none⟩=some (.slice va L.length vc):=by simpa using pX.cell 0
  have fF:=pX.frozen 0
  obtain ⟨ng,nc,rfl⟩:∃ ng nc,vn=.slice (some ⟨ng,0,none⟩) (L.length+1) nc:=by
   rcases q3.2 with ⟨_,h9⟩ | ⟨g,c,cur,h9,_⟩
   ·simp at h9
   exact ⟨g,c,by rw [h9];simp⟩
  refine tkz 14 (fun K hK=>?_)
  have gN:U2.grownBy (U2.setCell ⟨X,0,none⟩ (Value.slice (some ⟨ng,0,none⟩) (L.length+1) nc)) (some X):=Y3 U2 X 0 (Value.slice (some ⟨ng,0,none⟩) (L.length+1) nc)
  have pN:=pX.set 0 (Value.slice (some ⟨ng,0,none⟩) (L.length+1) nc)
  have q4:=q3.kept gN (.inr (Zk q3 pX (by decide)))
  have hv4:∀ q9 r mv,q9<d→L[q9]?=some (r,mv)→(U2.setCell ⟨X,0,none⟩ (Value.slice (some ⟨ng,0,none⟩) (L.length+1) nc)).ownsRow B 194 4 mv (M r.1).length (We (M r.1)):=fun i r mv h1 h2=>(hv3 i r mv h1 h2).kept gN (.inr (Zk (hv3 i r mv h1 h2) pX (by decide)))
  have hm5:∃ D:DataW Unit,(U2.setCell ⟨X,0,none⟩ (Value.slice (some ⟨ng,0,none⟩) (L.length+1) nc)).ownsMap Tryz.prog 9 (plainElem Tryz.prog 3) nb (L++[((z,i,k),Value.slice none 0 0)]).length D∧TY D ((L++[((z,i,k),Value.slice none 0 0)]).map (·.1)):=by
   obtain ⟨D9,h1,h2⟩:=hm4
   exact ⟨D9,h1.kept gN (fun e=>Uy h1 pX (by cases e;rfl)),h2⟩
  have k5:Yu w (U2.setCell ⟨X,0,none⟩ (Value.slice (some ⟨ng,0,none⟩) (L.length+1) nc)) X nb (.slice va L.length vc):=⟨gN.os.trans k3.os,gN.tape.trans k3.tape,gN.output.trans k3.output,Nat.le_trans k3.size gN.size,fun q hq h1 h2 h3=>(gN.block q (Nat.lt_of_lt_of_le hq k3.size) (by simpa using h1)).trans (k3.block q hq h1 h2 h3)⟩
  have cY5:(U2.setCell ⟨X,0,none⟩ (Value.slice (some ⟨ng,0,none⟩) (L.length+1) nc)).rangeAt Y 0 [x0,x1,x2,x3,x4,x5,x6,x7,x8,x9,x10,x11,x12,x13,x14,x15,x16,x17]:=fun j v hj=>by rw [Nat.zero_add,(pY.kept gN (by simpa using hXY)).cell];exact hj
  go_simp
  refine hK.out _ _ cY5 (fun hS4=>?_)
  clear hK
  try simp only [Act.put,tka,tkb,tkc]
  refine wpAnyH_done (by kernel_rfl) ?_ _
  generalize hvn:(Value.slice (some ⟨ng,0,none⟩) (L.length+1) nc)=vn at *
  have HSp:Hid (Xc (U2.setCell ⟨X,0,none⟩ vn) B nb vn cs M (L++[((z,i,k),Value.slice none 0 0)]) d):=by
   refine ⟨q4,hm5,fun i' r mv h1 h2=>?_,fun i' r mv h1 h2=>?_,hkeep.out.low⟩
   ·rw [List.getElem?_append_left (by omega)] at h2
    exact hv4 i' r mv h1 h2
   by_cases h9:i'<L.length
   ·rw [List.getElem?_append_left h9] at h2
    exact hkeep.out.nil i' r mv h1 h2
   rw [List.getElem?_append_right (by omega)] at h2
   have h8:=(List.getElem?_eq_some_iff.1 h2).1
   simp at h8
   rw [show i' - L.length=0 by omega] at h2
   simp at h2
   exact h2.2.symm
  have pN2:Blk (U2.setCell ⟨X,0,none⟩ vn) X 84 [vn,.map (some nb)]:=by simpa using pN
  clear cY cY5 rF fF gN k3 pX pY pN hm4 hv3 q3 q4 hv4 hm5 hS0 hS1 hS2 hS3 hS4 hkeep HRC
  generalize U2.setCell ⟨X,0,none⟩ vn=U3 at *
  clear hvn
  go_wp2
  go_ret
  exact Va.new HMM.out HSp.out pN2 k5 hmv
end Go.Proofs.YtgmhhegckcionaaGreatDoor
