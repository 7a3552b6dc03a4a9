/-
  Joined: EokW.
-/
import Derived.Test.YthmgampabhbpoaaDoorA25
import Derived.Test.YthmgampabhbpoaaDoorA29
import Derived.Test.YthmgampabhbpoaaDoorA33

namespace Go.Proofs.YthmgampabhbpoaaDoor
set_option maxRecDepth 100000
set_option maxHeartbeats 16000000
open Go.RowKit
set_option linter.unusedVariables false
set_option linter.unusedSimpArgs false

theorem fnExactEntryOK_of (e0:E3) (s0:Sl2) (x0:Bool) (w:World) (h0:Emem w s0 e0) (hG0:VmShape w)
  (kS:∀ (s0:Sl2) (w:World),Emem w s0 e0→Calls Tryd.prog 11 #[entV e0.1 s0] w fun e w'=>e=.returned (.bool x0)∧Below w.heap.size w w')
  (kI:∀ (s0:Sl2) (w:World),Emem w s0 e0→VmShape w→Calls Tryd.prog 13 #[entV e0.1 s0] w fun e w'=>e=.returned (.bool x0)∧Below w.heap.size w w') :
  Calls Tryd.prog 3 #[entV e0.1 s0] w fun e w'=>e=.returned (.bool true)∧Below w.heap.size w w':=by
 have f0:=h0.fits
 have kZ0:=fun left w h=>szEntry_any e0 s0 left w h
 have kT0:=fun w h l1 l2=>toEntry_own e0 s0 w h l1 l2
 have kE0:=fun s s' w h h'=>eqEntry_same e0 s s' w h h'
 have hc0:e0.2.1.length≤costE e0∧e0.2.2.length≤costE e0:=by unfold costE;omega
 generalize hK0:e0.1=k0 at *
 clear hK0
 obtain ⟨⟨a0,n0,c0⟩,⟨b0,m0,d0⟩⟩:=s0
 unfold entV at kZ0 kT0 kE0 kS kI ⊢
 simp only at kZ0 kT0 ⊢
 have bw:Below w.heap.size w (w.alloc (.cells #[.string k0,.slice a0 n0 c0,.slice b0 m0 d0] 25)):=by go_grown
 have p0:Blk (w.alloc (.cells #[.string k0,.slice a0 n0 c0,.slice b0 m0 d0] 25)) (w.heap.size) 25 [.string k0,.slice a0 n0 c0,.slice b0 m0 d0]:=blkAt _ _ _ rfl
 go_enter Tryd.func3,Tryd.ntmps3
 go_wp2_with fail
 generalize (w.alloc (.cells #[.string k0,.slice a0 n0 c0,.slice b0 m0 d0] 25))=W0 at *
 refine (kZ0 1048576 _ (h0.below bw) (by omega) (by omega)).mono ?_
 rintro e wz0 ⟨⟨r0,rfl,hz⟩,hb⟩
 replace bw:=bel8 bw hb
 replace p0:=p0.below hb
 clear hb kZ0
 rcases hz with rfl | ⟨hr0,hr1⟩
 ·go_wp2
  go_ret
  exact ⟨rfl,bw⟩
 have hn0:decide (r0<0)=false:=by simp;omega
 have hle0:r0≤1048576:=by omega
 replace kT0:=fun w h=>kT0 w h (by omega) (by omega)
 clear hr1 hc0
 have cc0:=p0.cell 0
 have cc1:=p0.cell 1
 have cc2:=p0.cell 2
 simp only [List.getElem?_cons_zero,List.getElem?_cons_succ] at cc0 cc1 cc2
 go_wp2_with fail
 clear cc0 cc1 cc2
 refine (kT0 _ (h0.below bw)).mono ?_
 rintro e wq ⟨⟨⟨⟨u0a,u0n,u0c⟩,⟨v0a,v0n,v0c⟩⟩,rfl,hO⟩,hb⟩
 simp only at hO ⊢
 have hM:=OwnE.mem (s:=((u0a,u0n,u0c),(v0a,v0n,v0c))) hO f0
 replace bw:=bel8 bw hb
 replace p0:=p0.below hb
 clear hb hO
 go_wp2_with fail
 refine (kS ((u0a,u0n,u0c),(v0a,v0n,v0c)) _ hM).mono ?_
 rintro e wr ⟨rfl,hb⟩
 replace bw:=bel8 bw hb
 replace p0:=p0.below hb
 clear hb hM kS
 have cc0:=p0.cell 0
 have cc1:=p0.cell 1
 have cc2:=p0.cell 2
 simp only [List.getElem?_cons_zero,List.getElem?_cons_succ] at cc0 cc1 cc2
 go_wp2_with fail
 clear cc0 cc1 cc2
 refine (kT0 _ (h0.below bw)).mono ?_
 rintro e wx0 ⟨⟨⟨⟨x0a,x0n,x0c⟩,⟨y0a,y0n,y0c⟩⟩,rfl,hO⟩,hb⟩
 simp only at hO ⊢
 have hX0:=OwnE.mem (s:=((x0a,x0n,x0c),(y0a,y0n,y0c))) hO f0
 clear hO
 skip
 have hbx:Below wx0.heap.size wx0 (wx0.alloc (.cells #[.string k0,.slice x0a x0n x0c,.slice y0a y0n y0c] 30)):=by go_grown
 have pX0:Blk (wx0.alloc (.cells #[.string k0,.slice x0a x0n x0c,.slice y0a y0n y0c] 30)) wx0.heap.size 30 [.string k0,.slice x0a x0n x0c,.slice y0a y0n y0c]:=blkAt _ _ _ rfl
 replace hX0:=hX0.below hbx
 have hbb:=bel8 hb hbx
 replace bw:=bel8 bw hbb
 replace p0:=p0.below hbb
 clear hb hbx hbb
 have cx0_0:=pX0.cell 0
 have cx0_1:=pX0.cell 1
 have cx0_2:=pX0.cell 2
 simp only [List.getElem?_cons_zero,List.getElem?_cons_succ] at cx0_0 cx0_1 cx0_2
 go_wp2_with fail
 clear cx0_0 cx0_1 cx0_2
 generalize (wx0.alloc (.cells #[.string k0,.slice x0a x0n x0c,.slice y0a y0n y0c] 30))=wi at *
 generalize wx0.heap.size=GX0 at *
 have hne:(x0 != x0)=false:=by simp
 refine (kI ((x0a,x0n,x0c),(y0a,y0n,y0c)) _ hX0 (hG0.below bw)).mono ?_
 rintro e wj ⟨rfl,hb⟩
 replace bw:=bel8 bw hb
 replace hX0:=hX0.below hb
 replace p0:=p0.below hb
 replace pX0:=pX0.below hb
 clear hb kI
 have cV0:=pX0.cell 0
 have cV1:=pX0.cell 1
 have cV2:=pX0.cell 2
 simp only [List.getElem?_cons_zero,List.getElem?_cons_succ] at cV0 cV1 cV2
 have cC0:=p0.cell 0
 have cC1:=p0.cell 1
 have cC2:=p0.cell 2
 simp only [List.getElem?_cons_zero,List.getElem?_cons_succ] at cC0 cC1 cC2
 go_wp2_with fail
 have hP:Emem wj.drew ((a0,n0,c0),(b0,m0,d0)) e0:=h0.below (bel8 bw (by go_grown))
 have hV:Emem wj.drew ((x0a,x0n,x0c),(y0a,y0n,y0c)) e0:=hX0.below (by go_grown)
 have c8:(fun w':World=>w'.cell? ⟨GX0,0,none⟩=some (.string k0)∧w'.cell? ⟨GX0,1,none⟩=some (.slice x0a x0n x0c)∧w'.cell? ⟨GX0,2,none⟩=some (.slice y0a y0n y0c)∧w'.cell? ⟨w.heap.size,0,none⟩=some (.string k0)∧w'.cell? ⟨w.heap.size,1,none⟩=some (.slice a0 n0 c0)∧w'.cell? ⟨w.heap.size,2,none⟩=some (.slice b0 m0 d0)) wj:=⟨cV0,cV1,cV2,cC0,cC1,cC2⟩
 clear cV0 cV1 cV2 cC0 cC1 cC2
 go_region_held3 (fun w'=>w'.cell? ⟨GX0,0,none⟩=some (.string k0)∧w'.cell? ⟨GX0,1,none⟩=some (.slice x0a x0n x0c)∧w'.cell? ⟨GX0,2,none⟩=some (.slice y0a y0n y0c)∧w'.cell? ⟨w.heap.size,0,none⟩=some (.string k0)∧w'.cell? ⟨w.heap.size,1,none⟩=some (.slice a0 n0 c0)∧w'.cell? ⟨w.heap.size,2,none⟩=some (.slice b0 m0 d0)) (first | (exact c8) | (exact c9) | (exact ⟨cells_kept hl _ _ c9.1,cells_kept hl _ _ c9.2.1,cells_kept hl _ _ c9.2.2.1,cells_kept hl _ _ c9.2.2.2.1,cells_kept hl _ _ c9.2.2.2.2.1,cells_kept hl _ _ c9.2.2.2.2.2⟩))
  (first | (go_at_call 12;refine (kT0 _ hP).mono ?_;rintro e wk0 ⟨⟨sk0,rfl,hOk⟩,hk⟩;have hD:=hV.below hk;have c9:=(show (fun w':World=>w'.cell? ⟨GX0,0,none⟩=some (.string k0)∧w'.cell? ⟨GX0,1,none⟩=some (.slice x0a x0n x0c)∧w'.cell? ⟨GX0,2,none⟩=some (.slice y0a y0n y0c)∧w'.cell? ⟨w.heap.size,0,none⟩=some (.string k0)∧w'.cell? ⟨w.heap.size,1,none⟩=some (.slice a0 n0 c0)∧w'.cell? ⟨w.heap.size,2,none⟩=some (.slice b0 m0 d0)) wk0 from ⟨cells_kept hk _ _ c8.1,cells_kept hk _ _ c8.2.1,cells_kept hk _ _ c8.2.2.1,cells_kept hk _ _ c8.2.2.2.1,cells_kept hk _ _ c8.2.2.2.2.1,cells_kept hk _ _ c8.2.2.2.2.2⟩)) | (go_at_call 14;refine (kE0 ((x0a,x0n,x0c),(y0a,y0n,y0c)) sk0 _ hD (hOk.mem f0)).mono ?_;rintro e wl0 ⟨rfl,hl⟩))
 have hbw:Below wj.heap.size wj wl0:=bel8 (by go_grown) (bel8 hk hl)
 replace bw:=bel8 bw hbw
 clear hbw hk hl hD hOk c8 c9 hP hV hX0 pX0 p0
 go_wp2
 go_ret
 exact ⟨rfl,bw⟩
end Go.Proofs.YthmgampabhbpoaaDoor
