/-
  Joined: KeyI, MkdI, Meet.
-/
import Derived.Test.YtgmhhegckcionaaGreatDoorP23

namespace Go.Proofs.YtgmhhegckcionaaGreatDoor
set_option maxRecDepth 100000
set_option maxHeartbeats 16000000
open Go.RowKit

theorem getD_mem9 {zs:List Int} {k:Nat} (h:k<zs.length):zs.getD k 0 ∈ zs:=by simp [List.getD,h]
theorem take_dig {zs:List Int} {k:Nat} (h:k<zs.length):(zs.map fun z=>48+z).take (k+1)=(zs.map fun z=>48+z).take k++[48+zs.getD k 0]:=by
 rw [List.take_succ_eq_append_getElem (by simpa using h)]
 simp [List.getD,h]
theorem part_of {zs pre xs suf:List Int} {o n:Nat} (h:zs=pre++(xs++suf)) (ho:pre.length=o) (hn:xs.length=n) {j:Nat} (hj:j<n):xs.getD j 0=zs.getD (o+j) 0:=by
 subst h ho hn
 simp [List.getD,List.getElem?_append_right,List.getElem?_append_left hj]

theorem implKeyOf_ok (s:S4) (m:V4) (w:World) (h:Vmem w s m) (hok:shapeOk m=true) (hV:VmShape w) :
  Calls Tryz.prog 130 #[s.val] w fun e w'=>e=.returned (.tuple #[.string (keyT m),.int .i64 0])∧Below w.heap.size w w':=by
 have kS:=fun w h=>right_is s m w h
 have kL:=fun w=>lists_is s w
 rw [hok] at kS
 have hM:=fun (W:World) (hb:Below w.heap.size w W)=>h.below hb
 obtain ⟨i8,hi8,hy0,hy1,hy2⟩:=info_parts info_u8
 obtain ⟨l0,l1,l2,l3,hdig⟩:=shape_parts hok
 have HD:Hid (∀ z ∈ allOf m,0≤z∧z≤9):=hdig
 obtain ⟨fin,hfin⟩:∃ fin,fin=keyT m:=⟨_,rfl⟩
 rw [← hfin]
 have HF:Hid (fin=strOfNums ((allOf m).map fun z=>48+z)):=hfin
 clear hdig hfin hok
 obtain ⟨⟨j0,_⟩,⟨j1,_⟩,⟨j2,_⟩,⟨j3,_⟩⟩:=h
 obtain ⟨⟨a0,n0,c0⟩,⟨a1,n1,c1⟩,⟨a2,n2,c2⟩,⟨a3,n3,c3⟩⟩:=s
 obtain ⟨zs,hzs⟩:∃ zs,zs=allOf m:=⟨_,rfl⟩
 rw [← hzs] at HD HF
 have hall:zs=((m.1++m.2.1)++m.2.2.1)++m.2.2.2:=hzs
 clear hzs
 have uA:S4.val ((a0,n0,c0),(a1,n1,c1),(a2,n2,c2),(a3,n3,c3))=.agg #[.slice a0 n0 c0,.slice a1 n1 c1,.slice a2 n2 c2,.slice a3 n3 c3]:=rfl
 rw [uA] at kS kL ⊢
 clear uA
 obtain ⟨m0,m1,m2,m3⟩:=m
 simp only at j0 j1 j2 j3 l0 l1 l2 l3 hall
 have HP0:Hid (∀ j,j<3→m0.getD j 0=zs.getD (0+j) 0):=fun j hj=>part_of (pre:=[]) (suf:=m1++m2++m3) (by rw [hall];simp [List.append_assoc]) rfl l0 hj
 have HP1:Hid (∀ j,j<4→m1.getD j 0=zs.getD (3+j) 0):=fun j hj=>part_of (pre:=m0) (suf:=m2++m3) (by rw [hall];simp [List.append_assoc]) l0 l1 hj
 have HP2:Hid (∀ j,j<2→m2.getD j 0=zs.getD (7+j) 0):=fun j hj=>part_of (pre:=m0++m1) (suf:=m3) (by rw [hall];simp [List.append_assoc]) (by simp;omega) l2 hj
 have HP3:Hid (∀ j,j<6→m3.getD j 0=zs.getD (9+j) 0):=fun j hj=>part_of (pre:=m0++m1++m2) (suf:=[]) (by rw [hall];simp [List.append_assoc]) (by simp;omega) l3 hj
 have HL:Hid (zs.length=15):=by rw [hall];simp [Hid];omega
 obtain ⟨rfl,b0,o0,rfl⟩:=some_of_ints j0 l0 (by omega)
 obtain ⟨rfl,b1,o1,rfl⟩:=some_of_ints j1 l1 (by omega)
 obtain ⟨rfl,b2,o2,rfl⟩:=some_of_ints j2 l2 (by omega)
 obtain ⟨rfl,b3,o3,rfl⟩:=some_of_ints j3 l3 (by omega)
 clear l0 l1 l2 l3 hall
 have y0:=idx4_0 (.slice (some ⟨b0,o0,none⟩) 3 c0) (.slice (some ⟨b1,o1,none⟩) 4 c1) (.slice (some ⟨b2,o2,none⟩) 2 c2) (.slice (some ⟨b3,o3,none⟩) 6 c3)
 have y1:=idx4_1 (.slice (some ⟨b0,o0,none⟩) 3 c0) (.slice (some ⟨b1,o1,none⟩) 4 c1) (.slice (some ⟨b2,o2,none⟩) 2 c2) (.slice (some ⟨b3,o3,none⟩) 6 c3)
 have y2:=idx4_2 (.slice (some ⟨b0,o0,none⟩) 3 c0) (.slice (some ⟨b1,o1,none⟩) 4 c1) (.slice (some ⟨b2,o2,none⟩) 2 c2) (.slice (some ⟨b3,o3,none⟩) 6 c3)
 have y3:=idx4_3 (.slice (some ⟨b0,o0,none⟩) 3 c0) (.slice (some ⟨b1,o1,none⟩) 4 c1) (.slice (some ⟨b2,o2,none⟩) 2 c2) (.slice (some ⟨b3,o3,none⟩) 6 c3)
 have bw:Below w.heap.size w (w.alloc (.cells #[.slice (some ⟨b0,o0,none⟩) 3 c0,.slice (some ⟨b1,o1,none⟩) 4 c1,.slice (some ⟨b2,o2,none⟩) 2 c2,.slice (some ⟨b3,o3,none⟩) 6 c3] 88)):=by go_grown
 have pA:=Blk.new w 88 [.slice (some ⟨b0,o0,none⟩) 3 c0,.slice (some ⟨b1,o1,none⟩) 4 c1,.slice (some ⟨b2,o2,none⟩) 2 c2,.slice (some ⟨b3,o3,none⟩) 6 c3]
 go_enter Tryz.func130,Tryz.ntmps130
 go_wp2_with fail
 refine (kS _ (hM _ bw) (hV.below bw)).mono ?_
 rintro e w1 ⟨rfl,hb⟩
 replace bw:=bel_trans bw hb
 replace pA:=pA.below hb
 have g0:=pA.cell 0
 have g1:=pA.cell 1
 have g2:=pA.cell 2
 have g3:=pA.cell 3
 simp at g0 g1 g2 g3
 clear hb kS hM
 go_wp2_with fail
 refine (kL _).mono ?_
 rintro e w2 ⟨rfl,hb⟩
 replace bw:=bel_trans bw hb
 clear hb kL g0 g1 g2 g3 pA hV
 have hown:w2.ownsRow w.heap.size 5 1 (.slice none 0 0) 0 (u8s ((zs.map fun z=>48+z).take 0)):=World.ownsRow_nil _ _ _ _
 go_wp2_with fail
 refine wp_loop_rounds 5 ?_
 rw [rounds_succ]
 go_wp2_with fail
 go_loopw [4,19] (fun so si wr=>∃ j:Nat,j≤3∧si=.int .i64 j∧wr.ownsRow w.heap.size 5 1 so (0+j) (u8s ((zs.map fun z=>48+z).take (0+j)))∧Below w.heap.size w wr) (fun _ si _=>3 - (intOf si).toNat)
 case atStart=>exact ⟨0,by omega,rfl,hown,bw⟩
 case round =>
  clear hown bw
  obtain ⟨j,hj,rfl,hr,hbw⟩:=hrel
  by_cases hlt:j<3
  ·have hjl:0+j<zs.length:=by rw [HL.out];omega
   have hc:wr.cell? ⟨b0,o0+j,none⟩=some (.int .i64 (zs.getD (0+j) 0)):=by
    rw [← HP0.out j hlt]
    rcases (j0.below hbw).2.2.2 with h9 | ⟨b9,off9,ha9,_,hc9⟩
    ·exact absurd h9 (by decide)
    ·cases ha9
     exact hc9 j hlt
   have hx:=HD.out (zs.getD (0+j) 0) (getD_mem9 hjl)
   have HX:Hid ((zs.map fun z=>48+z).take (0+(j+1))=(zs.map fun z=>48+z).take (0+j)++[48+zs.getD (0+j) 0]):=by
    exact take_dig hjl
   obtain ⟨d,hd⟩:∃ d:Nat,zs.getD (0+j) 0=(d:Int):=⟨(zs.getD (0+j) 0).toNat,by omega⟩
   rw [hd] at hc hx HX
   have hd9:d≤9:=by omega
   clear hx hd hjl
   have hsz:=hbw.size
   have hjI:(j:Int)<3:=by omega
   go_wp2_with (at_builtin;refine wpList_append_own _ rfl _ _ 22 rfl w.heap.size 5 i8 (.int .u8 0) 1 1 Tryz.underlying22 hi8 hy0 hy1 hy2 rfl (by decide) _ _ _ rfl (hr.alloc _) ⟨wr.heap.size,0,none⟩ 1 1 [.int .u8 (48+(d:Int))] rfl rfl (cell_one_new _ _ _) (one_u8 _) ?c3 ?c4 ?c5 ?_)
   case c3=>unfold maxLen;omega
   case c4=>omega
   case c5=>simp;omega
   intro v' wn hown' hgrow _
   have R:wn.ownsRow w.heap.size 5 1 v' (0+(j+1)) (u8s ((zs.map fun z=>48+z).take (0+(j+1)))):=by
    rw [HX.out]
    simpa [u8s,Nat.add_assoc] using hown'
   have bn:Below w.heap.size w wn:=(hbw.alloc hsz _).grown hgrow (by simp;omega) (fun k hk=>(hr.lt k hk).1)
   clear hown' hgrow hr hbw hc HX
   go_wp2
   go_roundw
   case rel=>exact ⟨j+1,by omega,by go_num,R,bn⟩
   case measure=>simp [intOf];omega
  ·obtain rfl:j=3:=by omega
   have hown:=hr
   have bw:=hbw
   clear hr hbw
   simp only [Nat.reduceAdd] at hown
   go_wp2_with fail
   rw [rounds_succ]
   replace hown:_:=(show wr.ownsRow w.heap.size 5 1 _ (3+0) (u8s ((zs.map fun z=>48+z).take (3+0))) from hown)
   go_wp2_with fail
   go_loopw [4,19] (fun so si wr=>∃ j:Nat,j≤4∧si=.int .i64 j∧wr.ownsRow w.heap.size 5 1 so (3+j) (u8s ((zs.map fun z=>48+z).take (3+j)))∧Below w.heap.size w wr) (fun _ si _=>4 - (intOf si).toNat)
   case atStart=>exact ⟨0,by omega,rfl,hown,bw⟩
   case round =>
    clear hown bw
    obtain ⟨j,hj,rfl,hr,hbw⟩:=hrel
    by_cases hlt:j<4
    ·have hjl:3+j<zs.length:=by rw [HL.out];omega
     have hc:wr.cell? ⟨b1,o1+j,none⟩=some (.int .i64 (zs.getD (3+j) 0)):=by
      rw [← HP1.out j hlt]
      rcases (j1.below hbw).2.2.2 with h9 | ⟨b9,off9,ha9,_,hc9⟩
      ·exact absurd h9 (by decide)
      ·cases ha9
       exact hc9 j hlt
     have hx:=HD.out (zs.getD (3+j) 0) (getD_mem9 hjl)
     have HX:Hid ((zs.map fun z=>48+z).take (3+(j+1))=(zs.map fun z=>48+z).take (3+j)++[48+zs.getD (3+j) 0]):=by
      exact take_dig hjl
     obtain ⟨d,hd⟩:∃ d:Nat,zs.getD (3+j) 0=(d:Int):=⟨(zs.getD (3+j) 0).toNat,by omega⟩
     rw [hd] at hc hx HX
     have hd9:d≤9:=by omega
     clear hx hd hjl
     have hsz:=hbw.size
     have hjI:(j:Int)<4:=by omega
     go_wp2_with (at_builtin;refine wpList_append_own _ rfl _ _ 22 rfl w.heap.size 5 i8 (.int .u8 0) 1 1 Tryz.underlying22 hi8 hy0 hy1 hy2 rfl (by decide) _ _ _ rfl (hr.alloc _) ⟨wr.heap.size,0,none⟩ 1 1 [.int .u8 (48+(d:Int))] rfl rfl (cell_one_new _ _ _) (one_u8 _) ?c3 ?c4 ?c5 ?_)
     case c3=>unfold maxLen;omega
     case c4=>omega
     case c5=>simp;omega
     intro v' wn hown' hgrow _
     have R:wn.ownsRow w.heap.size 5 1 v' (3+(j+1)) (u8s ((zs.map fun z=>48+z).take (3+(j+1)))):=by
      rw [HX.out]
      simpa [u8s,Nat.add_assoc] using hown'
     have bn:Below w.heap.size w wn:=(hbw.alloc hsz _).grown hgrow (by simp;omega) (fun k hk=>(hr.lt k hk).1)
     clear hown' hgrow hr hbw hc HX
     go_wp2
     go_roundw
     case rel=>exact ⟨j+1,by omega,by go_num,R,bn⟩
     case measure=>simp [intOf];omega
    ·obtain rfl:j=4:=by omega
     have hown:=hr
     have bw:=hbw
     clear hr hbw
     simp only [Nat.reduceAdd] at hown
     go_wp2_with fail
     rw [rounds_succ]
     replace hown:_:=(show wr.ownsRow w.heap.size 5 1 _ (7+0) (u8s ((zs.map fun z=>48+z).take (7+0))) from hown)
     go_wp2_with fail
     go_loopw [4,19] (fun so si wr=>∃ j:Nat,j≤2∧si=.int .i64 j∧wr.ownsRow w.heap.size 5 1 so (7+j) (u8s ((zs.map fun z=>48+z).take (7+j)))∧Below w.heap.size w wr) (fun _ si _=>2 - (intOf si).toNat)
     case atStart=>exact ⟨0,by omega,rfl,hown,bw⟩
     case round =>
      clear hown bw
      obtain ⟨j,hj,rfl,hr,hbw⟩:=hrel
      by_cases hlt:j<2
      ·have hjl:7+j<zs.length:=by rw [HL.out];omega
       have hc:wr.cell? ⟨b2,o2+j,none⟩=some (.int .i64 (zs.getD (7+j) 0)):=by
        rw [← HP2.out j hlt]
        rcases (j2.below hbw).2.2.2 with h9 | ⟨b9,off9,ha9,_,hc9⟩
        ·exact absurd h9 (by decide)
        ·cases ha9
         exact hc9 j hlt
       have hx:=HD.out (zs.getD (7+j) 0) (getD_mem9 hjl)
       have HX:Hid ((zs.map fun z=>48+z).take (7+(j+1))=(zs.map fun z=>48+z).take (7+j)++[48+zs.getD (7+j) 0]):=by
        exact take_dig hjl
       obtain ⟨d,hd⟩:∃ d:Nat,zs.getD (7+j) 0=(d:Int):=⟨(zs.getD (7+j) 0).toNat,by omega⟩
       rw [hd] at hc hx HX
       have hd9:d≤9:=by omega
       clear hx hd hjl
       have hsz:=hbw.size
       have hjI:(j:Int)<2:=by omega
       go_wp2_with (at_builtin;refine wpList_append_own _ rfl _ _ 22 rfl w.heap.size 5 i8 (.int .u8 0) 1 1 Tryz.underlying22 hi8 hy0 hy1 hy2 rfl (by decide) _ _ _ rfl (hr.alloc _) ⟨wr.heap.size,0,none⟩ 1 1 [.int .u8 (48+(d:Int))] rfl rfl (cell_one_new _ _ _) (one_u8 _) ?c3 ?c4 ?c5 ?_)
       case c3=>unfold maxLen;omega
       case c4=>omega
       case c5=>simp;omega
       intro v' wn hown' hgrow _
       have R:wn.ownsRow w.heap.size 5 1 v' (7+(j+1)) (u8s ((zs.map fun z=>48+z).take (7+(j+1)))):=by
        rw [HX.out]
        simpa [u8s,Nat.add_assoc] using hown'
       have bn:Below w.heap.size w wn:=(hbw.alloc hsz _).grown hgrow (by simp;omega) (fun k hk=>(hr.lt k hk).1)
       clear hown' hgrow hr hbw hc HX
       go_wp2
       go_roundw
       case rel=>exact ⟨j+1,by omega,by go_num,R,bn⟩
       case measure=>simp [intOf];omega
      ·obtain rfl:j=2:=by omega
       have hown:=hr
       have bw:=hbw
       clear hr hbw
       simp only [Nat.reduceAdd] at hown
       go_wp2_with fail
       rw [rounds_succ]
       replace hown:_:=(show wr.ownsRow w.heap.size 5 1 _ (9+0) (u8s ((zs.map fun z=>48+z).take (9+0))) from hown)
       go_wp2_with fail
       go_loopw [4,19] (fun so si wr=>∃ j:Nat,j≤6∧si=.int .i64 j∧wr.ownsRow w.heap.size 5 1 so (9+j) (u8s ((zs.map fun z=>48+z).take (9+j)))∧Below w.heap.size w wr) (fun _ si _=>6 - (intOf si).toNat)
       case atStart=>exact ⟨0,by omega,rfl,hown,bw⟩
       case round =>
        clear hown bw
        obtain ⟨j,hj,rfl,hr,hbw⟩:=hrel
        by_cases hlt:j<6
        ·have hjl:9+j<zs.length:=by rw [HL.out];omega
         have hc:wr.cell? ⟨b3,o3+j,none⟩=some (.int .i64 (zs.getD (9+j) 0)):=by
          rw [← HP3.out j hlt]
          rcases (j3.below hbw).2.2.2 with h9 | ⟨b9,off9,ha9,_,hc9⟩
          ·exact absurd h9 (by decide)
          ·cases ha9
           exact hc9 j hlt
         have hx:=HD.out (zs.getD (9+j) 0) (getD_mem9 hjl)
         have HX:Hid ((zs.map fun z=>48+z).take (9+(j+1))=(zs.map fun z=>48+z).take (9+j)++[48+zs.getD (9+j) 0]):=by
          exact take_dig hjl
         obtain ⟨d,hd⟩:∃ d:Nat,zs.getD (9+j) 0=(d:Int):=⟨(zs.getD (9+j) 0).toNat,by omega⟩
         rw [hd] at hc hx HX
         have hd9:d≤9:=by omega
         clear hx hd hjl
         have hsz:=hbw.size
         have hjI:(j:Int)<6:=by omega
         go_wp2_with (at_builtin;refine wpList_append_own _ rfl _ _ 22 rfl w.heap.size 5 i8 (.int .u8 0) 1 1 Tryz.underlying22 hi8 hy0 hy1 hy2 rfl (by decide) _ _ _ rfl (hr.alloc _) ⟨wr.heap.size,0,none⟩ 1 1 [.int .u8 (48+(d:Int))] rfl rfl (cell_one_new _ _ _) (one_u8 _) ?c3 ?c4 ?c5 ?_)
         case c3=>unfold maxLen;omega
         case c4=>omega
         case c5=>simp;omega
         intro v' wn hown' hgrow _
         have R:wn.ownsRow w.heap.size 5 1 v' (9+(j+1)) (u8s ((zs.map fun z=>48+z).take (9+(j+1)))):=by
          rw [HX.out]
          simpa [u8s,Nat.add_assoc] using hown'
         have bn:Below w.heap.size w wn:=(hbw.alloc hsz _).grown hgrow (by simp;omega) (fun k hk=>(hr.lt k hk).1)
         clear hown' hgrow hr hbw hc HX
         go_wp2
         go_roundw
         case rel=>exact ⟨j+1,by omega,by go_num,R,bn⟩
         case measure=>simp [intOf];omega
        ·obtain rfl:j=6:=by omega
         have hown:=hr
         have bw:=hbw
         clear hr hbw
         simp only [Nat.reduceAdd] at hown
         have hfull:(zs.map fun z=>48+z).take 15=zs.map fun z=>48+z:=List.take_of_length_le (by simp [HL.out])
         rw [hfull] at hown
         have hcv:=conv_owned hown
         rw [← HF.out] at hcv
         clear hown hfull
         go_wp2_with fail
         rw [rounds_succ]
         go_wp2
         go_ret2
         exact ⟨rfl,bw⟩

set_option linter.unusedVariables false
set_option linter.unusedSimpArgs false

theorem mkey_is {w:World} {g:Nat} {cs:Sl × Sl × Sl} {m:V4} (hM:Blk w g 98 (machCells cs.1.val cs.2.1.val cs.2.2.val m)) (hs:shapeOk m=true) (hV:VmShape w) :
  Calls Tryz.prog 85 #[.pointer (some ⟨g,0,none⟩)] w fun e w'=>e=.returned (.string (keyT m))∧Below w.heap.size w w':=by
 have kS:=state_is (cs:=cs) hM hs
 have fz:=(shape_fits9 hs).1
 go_enter Tryz.func85,Tryz.ntmps85
 go_wp2_with fail
 refine kS.mono ?_
 rintro e w1 ⟨⟨t,rfl,hO⟩,hb⟩
 have kK:=implKeyOf_ok t m w1 (hO.mem fz) hs (hV.below hb)
 clear hO kS
 obtain ⟨⟨t0a,t0n,t0c⟩,⟨t1a,t1n,t1c⟩,⟨t2a,t2n,t2c⟩,⟨t3a,t3n,t3c⟩⟩:=t
 unfold S4.val at kK ⊢
 simp only at kK ⊢
 go_wp2_with fail
 refine kK.mono ?_
 rintro e w2 ⟨rfl,hb2⟩
 go_wp2
 go_ret
 exact ⟨rfl,bel8 hb hb2⟩


theorem cells_new {w:World} {g t:Nat} {cs:List Value} (h:Blk w g t cs):∀ j u,cs[j]?=some u→w.cell? ((⟨g,0,none⟩:Addr).add j)=some u:=by
 intro j u hj
 rw [Addr.add_mid,Nat.zero_add,h.cell]
 exact hj
end Go.Proofs.YtgmhhegckcionaaGreatDoor
