/-
  Joined: FtoW.
-/
import Derived.Test.YtojcgajjnmjjpaaGreatDoorF47

namespace Go.Proofs.YtojcgajjnmjjpaaGreatDoor
set_option maxRecDepth 100000
open Go.RowKit
set_option linter.unusedVariables false
set_option linter.unusedSimpArgs false

set_option maxHeartbeats 16000000 in
theorem fnExactFootOf_of (a0:Option Addr) (n0 c0:Nat) (r0:List (List I3)) (s1:S4) (m1:V4) (z:List Int) (hlz:z.length≤1048576) (e0:Int) (w:World) (h0:Codes w a0 n0 c0 r0) (h1:Vmem w s1 m1) (hG0:VmShape w)
  (kS:∀ (a0:Option Addr) (n0 c0:Nat) (s1:S4) (w:World),Codes w a0 n0 c0 r0→Vmem w s1 m1→Calls Tryz.prog 12 #[.agg #[.slice a0 n0 c0],s1.val] w fun e w'=>(∃ (t:Sl),e=.returned (.tuple #[.slice t.1 t.2.1 t.2.2,.int .i64 e0])∧Ints .i64 w' t.1 t.2.1 t.2.2 z)∧Below w.heap.size w w')
  (kI:∀ (a0:Option Addr) (n0 c0:Nat) (s1:S4) (w:World),Codes w a0 n0 c0 r0→Vmem w s1 m1→VmShape w→Calls Tryz.prog 11 #[.agg #[.slice a0 n0 c0],s1.val] w fun e w'=>(∃ (t:Sl),e=.returned (.tuple #[.slice t.1 t.2.1 t.2.2,.int .i64 e0])∧OwnI w' w.heap.size t z)∧Below w.heap.size w w') :
  Calls Tryz.prog 5 #[.agg #[.slice a0 n0 c0],s1.val] w fun e w'=>e=.returned (.bool true)∧Below w.heap.size w w':=by
 have kT0:=fun w h=>toProgram_copy a0 n0 c0 r0 w h
 have kO0:=fun w h=>toProgram_own a0 n0 c0 r0 w h
 have f1:=h1.fits
 have kZ1:=fun left w h=>szVm_any s1 m1 left w h
 have kT1:=fun w h=>toVm_own s1 m1 w h
 have hlm:=h1
 obtain ⟨⟨⟨em0,_⟩,_⟩,⟨⟨em1,_⟩,_⟩,⟨⟨em2,_⟩,_⟩,⟨⟨em3,_⟩,_⟩⟩:=hlm
 obtain ⟨⟨a1_0,n1_0,c1_0⟩,⟨a1_1,n1_1,c1_1⟩,⟨a1_2,n1_2,c1_2⟩,⟨a1_3,n1_3,c1_3⟩⟩:=s1
 have u1:S4.val ((a1_0,n1_0,c1_0),(a1_1,n1_1,c1_1),(a1_2,n1_2,c1_2),(a1_3,n1_3,c1_3))=.agg #[.slice a1_0 n1_0 c1_0,.slice a1_1 n1_1 c1_1,.slice a1_2 n1_2 c1_2,.slice a1_3 n1_3 c1_3]:=rfl
 rw [u1] at kZ1 kT1
 rw [u1]
 clear u1
 simp only at em0 em1 em2 em3
 have bw:Below w.heap.size w ((w.alloc (.cells #[.slice a0 n0 c0] 48)).alloc (.cells #[.slice a1_0 n1_0 c1_0,.slice a1_1 n1_1 c1_1,.slice a1_2 n1_2 c1_2,.slice a1_3 n1_3 c1_3] 49)):=by go_grown
 have p0:Blk ((w.alloc (.cells #[.slice a0 n0 c0] 48)).alloc (.cells #[.slice a1_0 n1_0 c1_0,.slice a1_1 n1_1 c1_1,.slice a1_2 n1_2 c1_2,.slice a1_3 n1_3 c1_3] 49)) w.heap.size 48 [.slice a0 n0 c0]:=blkOld _ (blkAt _ _ _ rfl)
 have p1:Blk ((w.alloc (.cells #[.slice a0 n0 c0] 48)).alloc (.cells #[.slice a1_0 n1_0 c1_0,.slice a1_1 n1_1 c1_1,.slice a1_2 n1_2 c1_2,.slice a1_3 n1_3 c1_3] 49)) (w.heap.size+1) 49 [.slice a1_0 n1_0 c1_0,.slice a1_1 n1_1 c1_1,.slice a1_2 n1_2 c1_2,.slice a1_3 n1_3 c1_3]:=blkAt _ _ _ (by simp)
 go_enter Tryz.func5,Tryz.ntmps5
 go_wp2_with fail
 generalize ((w.alloc (.cells #[.slice a0 n0 c0] 48)).alloc (.cells #[.slice a1_0 n1_0 c1_0,.slice a1_1 n1_1 c1_1,.slice a1_2 n1_2 c1_2,.slice a1_3 n1_3 c1_3] 49))=W0 at *
 have hz:=sizeLeft_or r0 1048576 (by omega)
 have hbd:=size_bounds (rows:=r0) (left:=1048576) (by omega)
 have hcb:=fun h=>sizeLeft_cnt (rows:=r0) (left:=1048576) h
 refine (szProgram_less a0 n0 c0 r0 1048576 _ (h0.below bw) (by omega) (by omega)).mono ?_
 rintro e wz0 ⟨rfl,hb⟩
 generalize sizeLeft 1048576 r0=z0 at hz hbd hcb
 replace bw:=bel_trans bw hb
 replace p0:=p0.below hb
 replace p1:=p1.below hb
 clear hb
 rcases hz with rfl | ⟨y0,x0'⟩
 ·clear hbd hcb
  go_wp2
  go_ret
  exact ⟨rfl,bw⟩
 obtain ⟨hr,hr'⟩:=hbd y0 (by omega)
 have hcnt:=hcb y0
 have hlen:n0≤1048576:=by rw [← h0.1];exact hr
 replace kT0:=fun w h=>kT0 w h hlen (fun t _=>hr' t)
 replace kO0:=fun w h=>kO0 w h hlen (fun t _=>hr' t)
 have hcl:cntP r0 r0.length≤10000000:=by omega
 have hcj:∀ j,j≤r0.length→cntP r0 j≤10000000:=fun j hj=>by have:=cntP_mono r0 j;omega
 have HRJ:Hid (∀ j,j<r0.length→(r0.getD j []).length≤1048576):=fun j _=>hr' j
 clear hbd hr hr' hlen hcb hcnt
 have hn0:decide (z0<0)=false:=by simp;omega
 have cc0:=p1.cell 0
 have cc1:=p1.cell 1
 have cc2:=p1.cell 2
 have cc3:=p1.cell 3
 simp only [List.getElem?_cons_zero,List.getElem?_cons_succ] at cc0 cc1 cc2 cc3
 go_wp2_with fail
 refine (kZ1 z0 _ (h1.below bw) (by omega) (by omega)).mono ?_
 rintro e wz1 ⟨⟨z1,rfl,hz⟩,hb⟩
 replace bw:=bel_trans bw hb
 replace p0:=p0.below hb
 replace p1:=p1.below hb
 clear hb kZ1 cc0 cc1 cc2 cc3
 rcases hz with rfl | ⟨y1,x1',l0,l1,l2,l3⟩
 ·go_wp2
  go_ret
  exact ⟨rfl,bw⟩
 simp only at l0 l1 l2 l3
 replace kT1:=fun w h=>kT1 w h (by omega) (by omega) (by omega) (by omega)
 have lm0:m1.1.length≤1048576:=by omega
 have lm1:m1.2.1.length≤1048576:=by omega
 have lm2:m1.2.2.1.length≤1048576:=by omega
 have lm3:m1.2.2.2.length≤1048576:=by omega
 clear l0 l1 l2 l3 em0 em1 em2 em3
 have hn1:decide (z1<0)=false:=by simp;omega
 clear y0 x0' y1 x1'
 have g0_0:=p0.cell 0
 have g1_0:=p1.cell 0
 have g1_1:=p1.cell 1
 have g1_2:=p1.cell 2
 have g1_3:=p1.cell 3
 simp only [List.getElem?_cons_zero,List.getElem?_cons_succ] at g0_0 g1_0 g1_1 g1_2 g1_3
 go_wp2_with fail
 have bd:Below w.heap.size w wz1.drew:=bel_trans bw (by go_grown)
 refine wp_region_held_drew (S:=(fun w'=>w'.cell? ⟨w.heap.size,0,none⟩=some (.slice a0 n0 c0)∧w'.cell? ⟨w.heap.size+1,0,none⟩=some (.slice a1_0 n1_0 c1_0)∧w'.cell? ⟨w.heap.size+1,1,none⟩=some (.slice a1_1 n1_1 c1_1)∧w'.cell? ⟨w.heap.size+1,2,none⟩=some (.slice a1_2 n1_2 c1_2)∧w'.cell? ⟨w.heap.size+1,3,none⟩=some (.slice a1_3 n1_3 c1_3))) (by kernel_rfl) ⟨g0_0,g1_0,g1_1,g1_2,g1_3⟩ (fun hS0=>?_)
 refine tkm 0 28 (.agg #[.slice a0 n0 c0]) ?_
 refine tkm 2 30 (.agg #[.slice a1_0 n1_0 c1_0,.slice a1_1 n1_1 c1_1,.slice a1_2 n1_2 c1_2,.slice a1_3 n1_3 c1_3]) ?_
 refine tkr 1 29 (fun K hK=>?_)
 go_simp
 refine (kT0 _ (h0.below bd)).mono ?_
 rintro e wq0 ⟨rfl,hO0,hq0⟩
 
 go_wp2_with fail
 refine hK.out _ _ ?_ (fun hS1=>?_)
 ·exact ⟨cells_kept hq0 _ _ hS0.1,cells_kept hq0 _ _ hS0.2.1,cells_kept hq0 _ _ hS0.2.2.1,cells_kept hq0 _ _ hS0.2.2.2.1,cells_kept hq0 _ _ hS0.2.2.2.2⟩
 clear hK
 refine tkr 3 31 (fun K hK=>?_)
 go_simp
 refine (kT1 _ (h1.below (bel_trans bd hq0))).mono ?_
 rintro e wq1 ⟨⟨t1,rfl,hO1⟩,hq1⟩
 
 go_wp2_with fail
 refine hK.out _ _ ?_ (fun hS2=>?_)
 ·exact ⟨cells_kept hq1 _ _ hS1.1,cells_kept hq1 _ _ hS1.2.1,cells_kept hq1 _ _ hS1.2.2.1,cells_kept hq1 _ _ hS1.2.2.2.1,cells_kept hq1 _ _ hS1.2.2.2.2⟩
 clear hK
 skip
 refine tkr 4 32 (fun K hK=>?_)
 go_simp
 refine (kS _ _ _ t1 _ (hO0.codes.below hq1) (hO1.mem f1)).mono ?_
 rintro e wr ⟨⟨tr,rfl,hR0⟩,hr⟩
 obtain ⟨sra,srn,src⟩:=tr
 skip
 simp only at hR0 ⊢
 go_wp2_with fail
 refine hK.out _ _ ?_ (fun hSr=>?_)
 ·exact ⟨cells_kept hr _ _ hS2.1,cells_kept hr _ _ hS2.2.1,cells_kept hr _ _ hS2.2.2.1,cells_kept hr _ _ hS2.2.2.2.1,cells_kept hr _ _ hS2.2.2.2.2⟩
 clear hK
 refine tkm 5 27 (.tuple #[.slice sra srn src,.int .i64 e0]) ?_
 refine tkm 6 33 (.slice sra srn src) ?_
 refine tkm 7 34 (.int .i64 e0) ?_
 refine tkm 8 6 (.slice sra srn src) ?_
 refine tkm 9 7 (.int .i64 e0) ?_
 refine wpAnyH_done (by kernel_rfl) ?_ _
 have hbr:Below wz1.heap.size wz1 wr:=bel_trans (by go_grown) (bel_trans hq0 (bel_trans hq1 hr))
 clear hS0 hS1 hS2 hSr hq0 hq1 hr hO0 hO1 bd g0_0 g1_0 g1_1 g1_2 g1_3
 replace bw:=bel_trans bw hbr
 replace p0:=p0.below hbr
 replace p1:=p1.below hbr
 clear hbr kS
 have cc:=p0.cell 0
 simp only [List.getElem?_cons_zero] at cc
 go_wp2_with fail
 have bo:Below wr.heap.size wr wr:=Below.refl _ _
 have hsz0:=bw.size
 refine (kO0 _ (h0.below bw)).mono ?_
 rintro e wx0 ⟨rfl,hX0,hb⟩
 replace bo:=bel_trans bo hb
 have hB0:wr.heap.size≤wr.heap.size+3:=by omega
 generalize wr.heap.size+3=gg at *
 have hc1:Below wr.heap.size wr (wx0.alloc (.cells #[.slice (some ⟨gg,0,none⟩) n0 n0] 25)):=bel_trans bo (by go_grown)
 have bA:Below wx0.heap.size wx0 (wx0.alloc (.cells #[.slice (some ⟨gg,0,none⟩) n0 n0] 25)):=by go_grown
 have pX0:=Blk.new wx0 25 [.slice (some ⟨gg,0,none⟩) n0 n0]
 replace hX0:=hX0.below bA
 clear hb bA bo cc
 have bo:=hc1
 clear hc1
 have q1:=(p1.below bo).cell 0
 have q2:=(p1.below bo).cell 1
 have q3:=(p1.below bo).cell 2
 have q4:=(p1.below bo).cell 3
 simp only [List.getElem?_cons_zero,List.getElem?_cons_succ] at q1 q2 q3 q4
 go_wp2_with fail
 generalize (wx0.alloc (.cells #[.slice (some ⟨gg,0,none⟩) n0 n0] 25))=wy0 at *
 generalize wx0.heap.size=GX0 at *
 refine (kT1 _ (h1.below (bel_trans bw bo))).mono ?_
 rintro e wx1 ⟨⟨⟨⟨e0a,e0n,e0c⟩,⟨e1a,e1n,e1c⟩,⟨e2a,e2n,e2c⟩,⟨e3a,e3n,e3c⟩⟩,rfl,hX1⟩,hb⟩
 have uX:S4.val ((e0a,e0n,e0c),(e1a,e1n,e1c),(e2a,e2n,e2c),(e3a,e3n,e3c))=.agg #[.slice e0a e0n e0c,.slice e1a e1n e1c,.slice e2a e2n e2c,.slice e3a e3n e3c]:=rfl
 rw [uX]
 clear uX
 have hB1:wr.heap.size≤wy0.heap.size:=bo.size
 replace hX1:=OwnV.lower9 hX1 hB1
 have hy1:=hb.size
 have bA:Below wx1.heap.size wx1 (wx1.alloc (.cells #[.slice e0a e0n e0c,.slice e1a e1n e1c,.slice e2a e2n e2c,.slice e3a e3n e3c] 37)):=by go_grown
 have pX1:=Blk.new wx1 37 [.slice e0a e0n e0c,.slice e1a e1n e1c,.slice e2a e2n e2c,.slice e3a e3n e3c]
 replace bo:=bel_trans bo (bel_trans hb bA)
 replace hX0:=hX0.below (bel_trans hb bA)
 replace pX0:=pX0.below (bel_trans hb bA)
 have hX1lt:=hX1.blocks
 replace hX1:=hX1.below bA
 clear hb bA q1 q2 q3 q4
 have hXc:=hX0.codes9 h0
 have hXv:=hX1.mem f1
 have t0:=pX0.cell 0
 simp only [List.getElem?_cons_zero] at t0
 go_wp2_with fail
 generalize hWi:(wx1.alloc (.cells #[.slice e0a e0n e0c,.slice e1a e1n e1c,.slice e2a e2n e2c,.slice e3a e3n e3c] 37))=wi at *
 have hlt1:wx1.heap.size≤wi.heap.size:=by rw [← hWi];simp
 clear hWi
 generalize wx1.heap.size=GX1 at *
 refine (kI _ _ _ ((e0a,e0n,e0c),(e1a,e1n,e1c),(e2a,e2n,e2c),(e3a,e3n,e3c)) _ hXc hXv (hG0.below (bel_trans bw bo))).mono ?_
 rintro e wj ⟨⟨tr,rfl,hD⟩,hb⟩
 obtain ⟨gra,grn,grc⟩:=tr
 skip
 simp only at hD ⊢
 have hBj:wr.heap.size≤wi.heap.size:=bo.size
 replace bo:=bel_trans bo hb
 replace hX0:=hX0.below hb
 replace hX1:=hX1.below hb
 replace pX0:=pX0.below hb
 replace pX1:=pX1.below hb
 clear hb hXc hXv t0
 generalize wi.heap.size=BJ at *
 have hne0:(e0 != e0)=false:=by simp
 go_wp2_with fail
 have hDi:=hD.ints
 simp only at hDi
 obtain rfl:grn=srn:=hDi.1.symm.trans hR0.1
 refine (eqIntS_same _ _ _ _ _ z _ hDi (hR0.below bo)).mono ?_
 rintro e wk0 ⟨rfl,d0,rfl⟩
 clear hDi
 have hb:Below wj.heap.size wj (wj.drewN d0):=⟨rfl,rfl,rfl,Nat.le_refl _,fun _ _=>rfl⟩
 replace bo:=bel_trans bo hb
 replace hX0:=hX0.below hb
 replace hX1:=hX1.below hb
 replace pX0:=pX0.below hb
 replace pX1:=pX1.below hb
 replace hD:=hD.below hb
 clear hb
 generalize wj.drewN d0=wk0 at *
 have cV0:=pX0.cell 0
 have cC0:=(p0.below bo).cell 0
 simp only [List.getElem?_cons_zero,List.getElem?_cons_succ] at cV0 cC0
 go_wp2_with fail
 have hP:Codes wk0.drew a0 n0 c0 r0:=h0.below (bel_trans (bel_trans bw bo) (by go_grown))
 have hV:Codes wk0.drew (some ⟨gg,0,none⟩) n0 n0 r0:=(hX0.codes9 h0).below (by go_grown)
 have c8:(fun w':World=>w'.cell? ⟨GX0,0,none⟩=some (.slice (some ⟨gg,0,none⟩) n0 n0)∧w'.cell? ⟨w.heap.size,0,none⟩=some (.slice a0 n0 c0)) wk0:=⟨cV0,cC0⟩
 clear cV0 cC0
 go_region_held3 (fun w'=>w'.cell? ⟨GX0,0,none⟩=some (.slice (some ⟨gg,0,none⟩) n0 n0)∧w'.cell? ⟨w.heap.size,0,none⟩=some (.slice a0 n0 c0)) (first | (exact c8) | (exact c9) | (exact ⟨cells_kept hl0 _ _ c9.1,cells_kept hl0 _ _ c9.2⟩))
  (first | (go_at_call 20;refine (kT0 _ hP).mono ?_;rintro e wk0' ⟨rfl,hOk,hk0⟩;have hD9:=hV.below hk0;have c9:=(show (fun w':World=>w'.cell? ⟨GX0,0,none⟩=some (.slice (some ⟨gg,0,none⟩) n0 n0)∧w'.cell? ⟨w.heap.size,0,none⟩=some (.slice a0 n0 c0)) wk0' from ⟨cells_kept hk0 _ _ c8.1,cells_kept hk0 _ _ c8.2⟩)) | (go_at_call 23;refine (eqProgram_same _ _ _ _ _ r0 _ hD9 hOk.codes).mono ?_;rintro e wl0 ⟨rfl,hl0⟩))
 have hb:Below wk0.heap.size wk0 wl0:=bel_trans (by go_grown) (bel_trans hk0 hl0)
 replace bo:=bel_trans bo hb
 replace hX0:=hX0.below hb
 replace hX1:=hX1.below hb
 replace pX0:=pX0.below hb
 replace pX1:=pX1.below hb
 replace hD:=hD.below hb
 clear hb hk0 hl0 hD9 hOk c8 c9 hP hV
 have cV0:=pX1.cell 0
 have cC0:=(p1.below bo).cell 0
 have cV1:=pX1.cell 1
 have cC1:=(p1.below bo).cell 1
 have cV2:=pX1.cell 2
 have cC2:=(p1.below bo).cell 2
 have cV3:=pX1.cell 3
 have cC3:=(p1.below bo).cell 3
 simp only [List.getElem?_cons_zero,List.getElem?_cons_succ] at cV0 cC0 cV1 cC1 cV2 cC2 cV3 cC3
 go_wp2_with fail
 have hP:Vmem wl0.drew ((a1_0,n1_0,c1_0),(a1_1,n1_1,c1_1),(a1_2,n1_2,c1_2),(a1_3,n1_3,c1_3)) m1:=h1.below (bel_trans (bel_trans bw bo) (by go_grown))
 have hV:Vmem wl0.drew ((e0a,e0n,e0c),(e1a,e1n,e1c),(e2a,e2n,e2c),(e3a,e3n,e3c)) m1:=(hX1.mem f1).below (by go_grown)
 have c8:(fun w':World=>w'.cell? ⟨GX1,0,none⟩=some (.slice e0a e0n e0c)∧w'.cell? ⟨GX1,1,none⟩=some (.slice e1a e1n e1c)∧w'.cell? ⟨GX1,2,none⟩=some (.slice e2a e2n e2c)∧w'.cell? ⟨GX1,3,none⟩=some (.slice e3a e3n e3c)∧w'.cell? ⟨w.heap.size+1,0,none⟩=some (.slice a1_0 n1_0 c1_0)∧w'.cell? ⟨w.heap.size+1,1,none⟩=some (.slice a1_1 n1_1 c1_1)∧w'.cell? ⟨w.heap.size+1,2,none⟩=some (.slice a1_2 n1_2 c1_2)∧w'.cell? ⟨w.heap.size+1,3,none⟩=some (.slice a1_3 n1_3 c1_3)) wl0:=⟨cV0,cV1,cV2,cV3,cC0,cC1,cC2,cC3⟩
 clear cV0 cC0 cV1 cC1 cV2 cC2 cV3 cC3
 go_region_held3 (fun w'=>w'.cell? ⟨GX1,0,none⟩=some (.slice e0a e0n e0c)∧w'.cell? ⟨GX1,1,none⟩=some (.slice e1a e1n e1c)∧w'.cell? ⟨GX1,2,none⟩=some (.slice e2a e2n e2c)∧w'.cell? ⟨GX1,3,none⟩=some (.slice e3a e3n e3c)∧w'.cell? ⟨w.heap.size+1,0,none⟩=some (.slice a1_0 n1_0 c1_0)∧w'.cell? ⟨w.heap.size+1,1,none⟩=some (.slice a1_1 n1_1 c1_1)∧w'.cell? ⟨w.heap.size+1,2,none⟩=some (.slice a1_2 n1_2 c1_2)∧w'.cell? ⟨w.heap.size+1,3,none⟩=some (.slice a1_3 n1_3 c1_3)) (first | (exact c8) | (exact c9) | (exact ⟨cells_kept hl1 _ _ c9.1,cells_kept hl1 _ _ c9.2.1,cells_kept hl1 _ _ c9.2.2.1,cells_kept hl1 _ _ c9.2.2.2.1,cells_kept hl1 _ _ c9.2.2.2.2.1,cells_kept hl1 _ _ c9.2.2.2.2.2.1,cells_kept hl1 _ _ c9.2.2.2.2.2.2.1,cells_kept hl1 _ _ c9.2.2.2.2.2.2.2⟩))
  (first | (go_at_call 21;refine (kT1 _ hP).mono ?_;rintro e wk1' ⟨⟨sk1,rfl,hOk⟩,hk1⟩;have hD9:=hV.below hk1;have c9:=(show (fun w':World=>w'.cell? ⟨GX1,0,none⟩=some (.slice e0a e0n e0c)∧w'.cell? ⟨GX1,1,none⟩=some (.slice e1a e1n e1c)∧w'.cell? ⟨GX1,2,none⟩=some (.slice e2a e2n e2c)∧w'.cell? ⟨GX1,3,none⟩=some (.slice e3a e3n e3c)∧w'.cell? ⟨w.heap.size+1,0,none⟩=some (.slice a1_0 n1_0 c1_0)∧w'.cell? ⟨w.heap.size+1,1,none⟩=some (.slice a1_1 n1_1 c1_1)∧w'.cell? ⟨w.heap.size+1,2,none⟩=some (.slice a1_2 n1_2 c1_2)∧w'.cell? ⟨w.heap.size+1,3,none⟩=some (.slice a1_3 n1_3 c1_3)) wk1' from ⟨cells_kept hk1 _ _ c8.1,cells_kept hk1 _ _ c8.2.1,cells_kept hk1 _ _ c8.2.2.1,cells_kept hk1 _ _ c8.2.2.2.1,cells_kept hk1 _ _ c8.2.2.2.2.1,cells_kept hk1 _ _ c8.2.2.2.2.2.1,cells_kept hk1 _ _ c8.2.2.2.2.2.2.1,cells_kept hk1 _ _ c8.2.2.2.2.2.2.2⟩)) | (go_at_call 24;refine (eqVm_same ((e0a,e0n,e0c),(e1a,e1n,e1c),(e2a,e2n,e2c),(e3a,e3n,e3c)) sk1 m1 _ hD9 (hOk.mem f1)).mono ?_;rintro e wl1 ⟨rfl,hl1⟩))
 have hb:Below wl0.heap.size wl0 wl1:=bel_trans (by go_grown) (bel_trans hk1 hl1)
 replace bo:=bel_trans bo hb
 replace hX0:=hX0.below hb
 replace hX1:=hX1.below hb
 replace pX0:=pX0.below hb
 replace pX1:=pX1.below hb
 replace hD:=hD.below hb
 clear hb hk1 hl1 hD9 hOk c8 c9 hP hV
 have hggs:gg≤wl1.heap.size:=by
  obtain ⟨vs,h1,_⟩:=hX0
  exact Nat.le_of_lt (h1.lt gg rfl).2
 have KM:=markProgram_own gg (.slice (some ⟨gg,0,none⟩) n0 n0) 1 r0 wl1 (by omega) (by omega) hcl hcj HRJ.out hggs hX0
 generalize hcn:cntP r0 r0.length=cn at KM hcl
 clear hcn
 have t0:=pX0.cell 0
 simp only [List.getElem?_cons_zero] at t0
 go_wp2_with fail
 refine KM.mono ?_
 rintro e wm0 ⟨rfl,_,hK9,hb⟩
 replace bo:=bo.trans (hb.mono hB0)
 replace hX1:=hX1.but9 hK9 (by decide)
 replace hD:=hD.but9 hK9 (by decide)
 replace pX1:=hK9.blk9 pX1 (by decide)
 skip
 clear hK9 KM hX0 pX0 t0 hb hcj
 have hz0':wr.heap.size≤wm0.heap.size:=bo.size
 have KV:=markVm_own wr.heap.size ((e0a,e0n,e0c),(e1a,e1n,e1c),(e2a,e2n,e2c),(e3a,e3n,e3c)) (1+cn) m1 wm0 (by omega) (by omega) hX1 hz0' lm0 lm1 lm2 lm3
 have hcv:0≤cntV m1:=by unfold cntV;omega
 have hcv2:cntV m1≤4194304:=by unfold cntV;omega
 generalize cntV m1=cv at KV hcv hcv2
 have uX:S4.val ((e0a,e0n,e0c),(e1a,e1n,e1c),(e2a,e2n,e2c),(e3a,e3n,e3c))=.agg #[.slice e0a e0n e0c,.slice e1a e1n e1c,.slice e2a e2n e2c,.slice e3a e3n e3c]:=rfl
 rw [uX] at KV
 clear uX
 have t0:=pX1.cell 0
 have t1:=pX1.cell 1
 have t2:=pX1.cell 2
 have t3:=pX1.cell 3
 simp only [List.getElem?_cons_zero,List.getElem?_cons_succ] at t0 t1 t2 t3
 go_wp2_with fail
 refine KV.mono ?_
 rintro e wm1 ⟨rfl,_,hK9,hb⟩
 replace bo:=bo.trans hb
 skip
 replace hD:=hD.off9 hK9 (hX1lt.lt9 hlt1) (Nat.le_refl _)
 clear hK9 KV hX1 pX1 t0 t1 t2 t3 hb hX1lt
 have hkn:decide (1+(cn:Int)+cv<0)=false:=by simp;omega
 have hDi:=hD.ints
 simp only at hDi
 go_wp2_with fail
 refine (eqIntS_same _ _ _ _ _ z _ hDi (hR0.below bo)).mono ?_
 rintro e wn0 ⟨rfl,d1,rfl⟩
 have hb:Below wm1.heap.size wm1 (wm1.drewN d1):=⟨rfl,rfl,rfl,Nat.le_refl _,fun _ _=>rfl⟩
 replace bo:=bel_trans bo hb
 replace hD:=hD.below hb
 clear hb hDi
 generalize wm1.drewN d1=wn0 at *
 have hlz':grn=z.length:=hD.len.symm
 have HLZ:Hid (grn=z.length):=hlz'
 have hgn:grn≤1048576:=by omega
 clear hlz'
 go_wp2_with fail
 refine (markIntS_grown BJ (gra,grn,grc) 1 z _ (by omega) (by omega) hgn hD).mono ?_
 rintro e wo0 ⟨rfl,hD2,hgr⟩
 replace bo:=bo.grown hgr bo.size (fun x hx=>Nat.le_trans hBj (hD.lt x hx).1)
 clear hgr hD
 simp only
 have hDi:=hD2.ints
 simp only at hDi
 have hq:¬ ((1:Int)+(grn:Int)<0):=by omega
 have hq':(((1:Int)+(grn:Int)) != ((1:Int)+(grn:Int)))=false:=by simp
 have HH:=fun (W:World) (hI:Ints .i64 W gra grn grc (mkTo 1 z grn))=>heldIntS_yes gra grn grc 1 (mkTo 1 z grn) W (by omega) (by omega) hgn hI (fun i hi=>mkTo_get 1 z grn i hi (by rw [← HLZ.out];exact Nat.le_refl _))
 go_wp2_with fail
 refine (HH _ hDi).mono ?_
 rintro e wo1 ⟨rfl,rfl⟩
 have bwo:Below w.heap.size w wo0:=bel_trans bw bo
 have g0_0:=(p0.below bo).cell 0
 have g1_0:=(p1.below bo).cell 0
 have g1_1:=(p1.below bo).cell 1
 have g1_2:=(p1.below bo).cell 2
 have g1_3:=(p1.below bo).cell 3
 simp only [List.getElem?_cons_zero,List.getElem?_cons_succ] at g0_0 g1_0 g1_1 g1_2 g1_3
 go_wp2_with fail
 have bd:Below w.heap.size w wo0.drew:=bel_trans bwo (by go_grown)
 refine wp_region_held_drew (S:=(fun w'=>w'.cell? ⟨w.heap.size,0,none⟩=some (.slice a0 n0 c0)∧w'.cell? ⟨w.heap.size+1,0,none⟩=some (.slice a1_0 n1_0 c1_0)∧w'.cell? ⟨w.heap.size+1,1,none⟩=some (.slice a1_1 n1_1 c1_1)∧w'.cell? ⟨w.heap.size+1,2,none⟩=some (.slice a1_2 n1_2 c1_2)∧w'.cell? ⟨w.heap.size+1,3,none⟩=some (.slice a1_3 n1_3 c1_3))) (by kernel_rfl) ⟨g0_0,g1_0,g1_1,g1_2,g1_3⟩ (fun hS0=>?_)
 refine tkm 0 95 (.agg #[.slice a0 n0 c0]) ?_
 refine tkm 2 97 (.agg #[.slice a1_0 n1_0 c1_0,.slice a1_1 n1_1 c1_1,.slice a1_2 n1_2 c1_2,.slice a1_3 n1_3 c1_3]) ?_
 refine tkr 1 96 (fun K hK=>?_)
 go_simp
 refine (kT0 _ (h0.below bd)).mono ?_
 rintro e wq0 ⟨rfl,hO0,hq0⟩
 
 go_wp2_with fail
 refine hK.out _ _ ?_ (fun hS1=>?_)
 ·exact ⟨cells_kept hq0 _ _ hS0.1,cells_kept hq0 _ _ hS0.2.1,cells_kept hq0 _ _ hS0.2.2.1,cells_kept hq0 _ _ hS0.2.2.2.1,cells_kept hq0 _ _ hS0.2.2.2.2⟩
 clear hK
 refine tkr 3 98 (fun K hK=>?_)
 go_simp
 refine (kT1 _ (h1.below (bel_trans bd hq0))).mono ?_
 rintro e wq1 ⟨⟨t1,rfl,hO1⟩,hq1⟩
 
 go_wp2_with fail
 refine hK.out _ _ ?_ (fun hS2=>?_)
 ·exact ⟨cells_kept hq1 _ _ hS1.1,cells_kept hq1 _ _ hS1.2.1,cells_kept hq1 _ _ hS1.2.2.1,cells_kept hq1 _ _ hS1.2.2.2.1,cells_kept hq1 _ _ hS1.2.2.2.2⟩
 clear hK
 skip
 refine tkr 4 99 (fun K hK=>?_)
 go_simp
 refine (kI _ _ _ t1 _ (hO0.codes.below hq1) (hO1.mem f1) (hG0.below (bel_trans (bel_trans bd hq0) hq1))).mono ?_
 rintro e wp ⟨⟨tr,rfl,hE⟩,hr⟩
 obtain ⟨hra,hrn,hrc⟩:=tr
 skip
 simp only at hE ⊢
 go_wp2_with fail
 refine hK.out _ _ ?_ (fun hSr=>?_)
 ·exact ⟨cells_kept hr _ _ hS2.1,cells_kept hr _ _ hS2.2.1,cells_kept hr _ _ hS2.2.2.1,cells_kept hr _ _ hS2.2.2.2.1,cells_kept hr _ _ hS2.2.2.2.2⟩
 clear hK
 refine tkm 5 94 (.tuple #[.slice hra hrn hrc,.int .i64 e0]) ?_
 refine tkm 6 100 (.slice hra hrn hrc) ?_
 refine tkm 7 101 (.int .i64 e0) ?_
 refine tkm 8 15 (.slice hra hrn hrc) ?_
 refine tkm 9 16 (.int .i64 e0) ?_
 refine wpAnyH_done (by kernel_rfl) ?_ _
 have hbr:Below wo0.heap.size wo0 wp:=bel_trans (by go_grown) (bel_trans hq0 (bel_trans hq1 hr))
 clear hS0 hS1 hS2 hSr hq0 hq1 hr hO0 hO1 bd g0_0 g1_0 g1_1 g1_2 g1_3
 replace bo:=bel_trans bo hbr
 replace hD2:=hD2.below hbr
 clear hbr
 have hEi:=hE.ints
 simp only at hEi
 go_wp2_with fail
 obtain rfl:hrn=grn:=hEi.1.symm.trans hR0.1
 refine (eqIntS_same _ _ _ _ _ z _ hEi (hR0.below bo)).mono ?_
 rintro e wp1 ⟨rfl,d2,rfl⟩
 have hb:Below wp.heap.size wp (wp.drewN d2):=⟨rfl,rfl,rfl,Nat.le_refl _,fun _ _=>rfl⟩
 replace bo:=bel_trans bo hb
 replace hD2:=hD2.below hb
 clear hb hEi hE
 generalize wp.drewN d2=wp1 at *
 have hDi:=hD2.ints
 simp only at hDi
 go_wp2_with fail
 refine (HH _ hDi).mono ?_
 rintro e wp2 ⟨rfl,rfl⟩
 have bz:=bel_trans bw bo
 go_wp2
 go_ret
 exact ⟨rfl,bz⟩
end Go.Proofs.YtojcgajjnmjjpaaGreatDoor
