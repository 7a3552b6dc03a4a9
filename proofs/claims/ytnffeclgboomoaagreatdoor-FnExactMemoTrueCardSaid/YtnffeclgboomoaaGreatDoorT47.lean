/-
  Joined: EttW, EtrS.
-/
import Derived.Test.YtnffeclgboomoaaGreatDoorT45

namespace Go.Proofs.YtnffeclgboomoaaGreatDoor
set_option maxRecDepth 100000
set_option maxHeartbeats 16000000
open Go.RowKit
set_option linter.unusedVariables false
set_option linter.unusedSimpArgs false

theorem UF (a0:Option Addr) (n0 c0:Nat) (z0:List (List I3)) (e1:E3) (s1:Sl2) (x0:Bool) (x1:Int) (w:World) (h0:ZZ w a0 n0 c0 z0) (h1:Z1 w s1 e1) (hG0:ZL w)
  (kS:∀ (a0:Option Addr) (n0 c0:Nat) (s1:Sl2) (w:World),ZZ w a0 n0 c0 z0→Z1 w s1 e1→Calls Tryz.prog 40 #[.agg #[.slice a0 n0 c0],ZR e1.1 s1] w fun e w'=>e=.returned (.tuple #[.bool x0,.int .i64 x1])∧Below w.heap.size w w')
  (kI:∀ (a0:Option Addr) (n0 c0:Nat) (s1:Sl2) (w:World),ZZ w a0 n0 c0 z0→Z1 w s1 e1→ZL w→Calls Tryz.prog 17 #[.agg #[.slice a0 n0 c0],ZR e1.1 s1] w fun e w'=>e=.returned (.tuple #[.bool x0,.int .i64 x1])∧Below w.heap.size w w') :
  Calls Tryz.prog 8 #[.agg #[.slice a0 n0 c0],ZR e1.1 s1] w fun e w'=>e=.returned (.bool true)∧Below w.heap.size w w':=by
 have kT0:=fun w h=>Um a0 n0 c0 z0 w h
 have f1:=h1.fits
 have kZ1:=fun left w h=>SI e1 s1 left w h
 have kT1:=fun w h l1 l2=>SK e1 s1 w h l1 l2
 have kE1:=fun s s' w h h'=>Th e1 s s' w h h'
 have hc1:e1.2.1.length≤VN e1∧e1.2.2.length≤VN e1:=by unfold VN;omega
 generalize hK1:e1.1=k1 at *
 clear hK1
 obtain ⟨⟨a1,n1,c1⟩,⟨b1,m1,d1⟩⟩:=s1
 unfold ZR at kZ1 kT1 kE1 kS kI ⊢
 simp only at kZ1 kT1 ⊢
 have bw:Below w.heap.size w ((w.alloc (.cells #[.slice a0 n0 c0] 59)).alloc (.cells #[.string k1,.slice a1 n1 c1,.slice b1 m1 d1] 76)):=by go_grown
 have p0:Blk ((w.alloc (.cells #[.slice a0 n0 c0] 59)).alloc (.cells #[.string k1,.slice a1 n1 c1,.slice b1 m1 d1] 76)) (w.heap.size) 59 [.slice a0 n0 c0]:=Zg _ (Zi _ _ _ rfl)
 have p1:Blk ((w.alloc (.cells #[.slice a0 n0 c0] 59)).alloc (.cells #[.string k1,.slice a1 n1 c1,.slice b1 m1 d1] 76)) (w.heap.size+1) 76 [.string k1,.slice a1 n1 c1,.slice b1 m1 d1]:=Zi _ _ _ (by simp)
 go_enter Tryz.func8,Tryz.ntmps8
 go_wp2_with fail
 generalize ((w.alloc (.cells #[.slice a0 n0 c0] 59)).alloc (.cells #[.string k1,.slice a1 n1 c1,.slice b1 m1 d1] 76))=W0 at *
 have hz:=Ui z0 1048576 (by omega)
 have hbd:=SE (rows:=z0) (left:=1048576) (by omega)
 refine (Ul a0 n0 c0 z0 1048576 _ (h0.below bw) (by omega) (by omega)).mono ?_
 rintro e wz0 ⟨rfl,hb⟩
 generalize Y2 1048576 z0=r0 at hz hbd
 replace bw:=Zh bw hb
 replace p0:=p0.below hb
 replace p1:=p1.below hb
 clear hb
 rcases hz with rfl | ⟨hr0,hr1⟩
 ·clear hbd
  go_wp2
  go_ret
  exact ⟨rfl,bw⟩
 obtain ⟨hr8,hr9⟩:=hbd hr0 (by omega)
 have hn0:decide (r0<0)=false:=by simp;omega
 have hle0:r0≤1048576:=by omega
 replace kT0:=fun w h=>kT0 w h (by rw [← h0.1];exact hr8) (fun t _=>hr9 t)
 clear hr1 hbd hr8 hr9
 have cc0:=p1.cell 0
 have cc1:=p1.cell 1
 have cc2:=p1.cell 2
 simp only [List.getElem?_cons_zero,List.getElem?_cons_succ] at cc0 cc1 cc2
 go_wp2_with fail
 clear cc0 cc1 cc2
 refine (kZ1 r0 _ (h1.below bw) (by omega) (by omega)).mono ?_
 rintro e wz1 ⟨⟨r1,rfl,hz⟩,hb⟩
 replace bw:=Zh bw hb
 replace p0:=p0.below hb
 replace p1:=p1.below hb
 clear hb kZ1
 rcases hz with rfl | ⟨hr0,hr1⟩
 ·go_wp2
  go_ret
  exact ⟨rfl,bw⟩
 have hn1:decide (r1<0)=false:=by simp;omega
 have hle1:r1≤1048576:=by omega
 replace kT1:=fun w h=>kT1 w h (by omega) (by omega)
 clear hr1 hc1
 have g0_0:=p0.cell 0
 simp only [List.getElem?_cons_zero,List.getElem?_cons_succ] at g0_0
 have g1_0:=p1.cell 0
 have g1_1:=p1.cell 1
 have g1_2:=p1.cell 2
 simp only [List.getElem?_cons_zero,List.getElem?_cons_succ] at g1_0 g1_1 g1_2
 go_wp2_with fail
 have bd:Below w.heap.size w wz1.drew:=Zh bw (by go_grown)
 refine wp_region_held_drew (S:=(fun w'=>w'.cell? ⟨w.heap.size,0,none⟩=some (.slice a0 n0 c0)∧w'.cell? ⟨w.heap.size+1,0,none⟩=some (.string k1)∧w'.cell? ⟨w.heap.size+1,1,none⟩=some (.slice a1 n1 c1)∧w'.cell? ⟨w.heap.size+1,2,none⟩=some (.slice b1 m1 d1))) (by kernel_rfl) ⟨g0_0,g1_0,g1_1,g1_2⟩ (fun hS0=>?_)
 refine tkm 0 23 (.agg #[.slice a0 n0 c0]) ?_
 refine tkm 2 25 (.agg #[.string k1,.slice a1 n1 c1,.slice b1 m1 d1]) ?_
 refine tkr 1 24 (fun K hK=>?_)
 go_simp
 refine (kT0 _ (h0.below bd)).mono ?_
 rintro e wq0 ⟨rfl,hO0,hq0⟩
 go_wp2_with fail
 refine hK.out _ _ ?_ (fun hS1=>?_)
 ·exact ⟨Za hq0 _ _ hS0.1,Za hq0 _ _ hS0.2.1,Za hq0 _ _ hS0.2.2.1,Za hq0 _ _ hS0.2.2.2⟩
 clear hK
 refine tkr 3 26 (fun K hK=>?_)
 go_simp
 refine (kT1 _ (h1.below (Zh bd hq0))).mono ?_
 rintro e wq1 ⟨⟨⟨⟨u1a,u1n,u1c⟩,⟨v1a,v1n,v1c⟩⟩,rfl,hO1⟩,hq1⟩
 go_wp2_with fail
 refine hK.out _ _ ?_ (fun hS2=>?_)
 ·exact ⟨Za hq1 _ _ hS1.1,Za hq1 _ _ hS1.2.1,Za hq1 _ _ hS1.2.2.1,Za hq1 _ _ hS1.2.2.2⟩
 clear hK
 refine tkr 4 27 (fun K hK=>?_)
 go_simp
 refine (kS _ _ _ ((u1a,u1n,u1c),(v1a,v1n,v1c)) _ ((hO0.codes).below hq1) (XH.mem (s:=((u1a,u1n,u1c),(v1a,v1n,v1c))) hO1 f1)).mono ?_
 rintro e wr ⟨rfl,hr⟩
 go_wp2_with fail
 refine hK.out _ _ ?_ (fun hSr=>?_)
 ·exact ⟨Za hr _ _ hS2.1,Za hr _ _ hS2.2.1,Za hr _ _ hS2.2.2.1,Za hr _ _ hS2.2.2.2⟩
 clear hK
 refine tkm 5 22 (.tuple #[.bool x0,.int .i64 x1]) ?_
 refine tkm 6 28 (.bool x0) ?_
 refine tkm 7 29 (.int .i64 x1) ?_
 refine tkm 8 6 (.bool x0) ?_
 refine tkm 9 7 (.int .i64 x1) ?_
 refine wpAnyH_done (by kernel_rfl) ?_ _
 have hbr:Below wz1.heap.size wz1 wr:=Zh (by go_grown) (Zh hq0 (Zh hq1 hr))
 replace bw:=Zh bw hbr
 replace p0:=p0.below hbr
 replace p1:=p1.below hbr
 clear hbr hS0 hSr hr bd kS hS1 hq0 hO0 hS2 hq1 hO1 g0_0 g1_0 g1_1 g1_2
 have cc0:=p0.cell 0
 simp only [List.getElem?_cons_zero,List.getElem?_cons_succ] at cc0
 go_wp2_with fail
 clear cc0
 refine (kT0 _ (h0.below bw)).mono ?_
 rintro e wx0 ⟨rfl,hO,hb⟩
 skip
 have hX0:=hO.codes
 clear hO
 generalize wr.heap.size+3=gg0 at *
 have hbx:Below wx0.heap.size wx0 (wx0.alloc (.cells #[.slice (some ⟨gg0,0,none⟩) n0 n0] 25)):=by go_grown
 have pX0:Blk (wx0.alloc (.cells #[.slice (some ⟨gg0,0,none⟩) n0 n0] 25)) wx0.heap.size 25 [.slice (some ⟨gg0,0,none⟩) n0 n0]:=Zi _ _ _ rfl
 replace hX0:=hX0.below hbx
 have hbb:=Zh hb hbx
 replace bw:=Zh bw hbb
 replace p0:=p0.below hbb
 replace p1:=p1.below hbb
 clear hb hbx hbb
 have cc0:=p1.cell 0
 have cc1:=p1.cell 1
 have cc2:=p1.cell 2
 simp only [List.getElem?_cons_zero,List.getElem?_cons_succ] at cc0 cc1 cc2
 go_wp2_with fail
 clear cc0 cc1 cc2
 generalize (wx0.alloc (.cells #[.slice (some ⟨gg0,0,none⟩) n0 n0] 25))=wy0 at *
 generalize wx0.heap.size=GX0 at *
 refine (kT1 _ (h1.below bw)).mono ?_
 rintro e wx1 ⟨⟨⟨⟨x1a,x1n,x1c⟩,⟨y1a,y1n,y1c⟩⟩,rfl,hO⟩,hb⟩
 simp only at hO ⊢
 have hX1:=XH.mem (s:=((x1a,x1n,x1c),(y1a,y1n,y1c))) hO f1
 clear hO
 skip
 have hbx:Below wx1.heap.size wx1 (wx1.alloc (.cells #[.string k1,.slice x1a x1n x1c,.slice y1a y1n y1c] 45)):=by go_grown
 have pX1:Blk (wx1.alloc (.cells #[.string k1,.slice x1a x1n x1c,.slice y1a y1n y1c] 45)) wx1.heap.size 45 [.string k1,.slice x1a x1n x1c,.slice y1a y1n y1c]:=Zi _ _ _ rfl
 replace hX1:=hX1.below hbx
 have hbb:=Zh hb hbx
 replace bw:=Zh bw hbb
 replace p0:=p0.below hbb
 replace p1:=p1.below hbb
 replace hX0:=hX0.below hbb
 replace pX0:=pX0.below hbb
 clear hb hbx hbb
 have cx0_0:=pX0.cell 0
 simp only [List.getElem?_cons_zero,List.getElem?_cons_succ] at cx0_0
 have cx1_0:=pX1.cell 0
 have cx1_1:=pX1.cell 1
 have cx1_2:=pX1.cell 2
 simp only [List.getElem?_cons_zero,List.getElem?_cons_succ] at cx1_0 cx1_1 cx1_2
 go_wp2_with fail
 clear cx0_0 cx1_0 cx1_1 cx1_2
 generalize (wx1.alloc (.cells #[.string k1,.slice x1a x1n x1c,.slice y1a y1n y1c] 45))=wi at *
 generalize wx1.heap.size=GX1 at *
 have hne0:(x0 != x0)=false:=by simp
 have hne1:(x1 != x1)=false:=by simp
 refine (kI _ _ _ ((x1a,x1n,x1c),(y1a,y1n,y1c)) _ hX0 hX1 (hG0.below bw)).mono ?_
 rintro e wj ⟨rfl,hb⟩
 replace bw:=Zh bw hb
 replace hX0:=hX0.below hb
 replace p0:=p0.below hb
 replace pX0:=pX0.below hb
 replace hX1:=hX1.below hb
 replace p1:=p1.below hb
 replace pX1:=pX1.below hb
 clear hb kI
 have cV0:=pX0.cell 0
 simp only [List.getElem?_cons_zero,List.getElem?_cons_succ] at cV0
 have cC0:=p0.cell 0
 simp only [List.getElem?_cons_zero,List.getElem?_cons_succ] at cC0
 go_wp2_with fail
 have hP:ZZ wj.drew a0 n0 c0 z0:=h0.below (Zh bw (by go_grown))
 have hV:ZZ wj.drew (some ⟨gg0,0,none⟩) n0 n0 z0:=hX0.below (by go_grown)
 have c8:(fun w':World=>w'.cell? ⟨GX0,0,none⟩=some (.slice (some ⟨gg0,0,none⟩) n0 n0)∧w'.cell? ⟨w.heap.size,0,none⟩=some (.slice a0 n0 c0)) wj:=⟨cV0,cC0⟩
 clear cV0 cC0
 go_region_held3 (fun w'=>w'.cell? ⟨GX0,0,none⟩=some (.slice (some ⟨gg0,0,none⟩) n0 n0)∧w'.cell? ⟨w.heap.size,0,none⟩=some (.slice a0 n0 c0)) (first | (exact c8) | (exact c9) | (exact ⟨Za hl _ _ c9.1,Za hl _ _ c9.2⟩))
  (first | (go_at_call 28;refine (kT0 _ hP).mono ?_;rintro e wk0 ⟨rfl,hOk,hk⟩;have hD:=hV.below hk;have c9:=(show (fun w':World=>w'.cell? ⟨GX0,0,none⟩=some (.slice (some ⟨gg0,0,none⟩) n0 n0)∧w'.cell? ⟨w.heap.size,0,none⟩=some (.slice a0 n0 c0)) wk0 from ⟨Za hk _ _ c8.1,Za hk _ _ c8.2⟩)) | (go_at_call 31;refine (VQ _ _ _ _ _ z0 _ hD hOk.codes).mono ?_;rintro e wl0 ⟨rfl,hl⟩))
 have hbw:Below wj.heap.size wj wl0:=Zh (by go_grown) (Zh hk hl)
 replace bw:=Zh bw hbw
 replace hX1:=hX1.below hbw
 replace p1:=p1.below hbw
 replace pX1:=pX1.below hbw
 clear hbw hk hl hD hOk c8 c9 hP hV hX0 pX0 p0
 have cV0:=pX1.cell 0
 have cV1:=pX1.cell 1
 have cV2:=pX1.cell 2
 simp only [List.getElem?_cons_zero,List.getElem?_cons_succ] at cV0 cV1 cV2
 have cC0:=p1.cell 0
 have cC1:=p1.cell 1
 have cC2:=p1.cell 2
 simp only [List.getElem?_cons_zero,List.getElem?_cons_succ] at cC0 cC1 cC2
 go_wp2_with fail
 have hP:Z1 wl0.drew ((a1,n1,c1),(b1,m1,d1)) e1:=h1.below (Zh bw (by go_grown))
 have hV:Z1 wl0.drew ((x1a,x1n,x1c),(y1a,y1n,y1c)) e1:=hX1.below (by go_grown)
 have c8:(fun w':World=>w'.cell? ⟨GX1,0,none⟩=some (.string k1)∧w'.cell? ⟨GX1,1,none⟩=some (.slice x1a x1n x1c)∧w'.cell? ⟨GX1,2,none⟩=some (.slice y1a y1n y1c)∧w'.cell? ⟨w.heap.size+1,0,none⟩=some (.string k1)∧w'.cell? ⟨w.heap.size+1,1,none⟩=some (.slice a1 n1 c1)∧w'.cell? ⟨w.heap.size+1,2,none⟩=some (.slice b1 m1 d1)) wl0:=⟨cV0,cV1,cV2,cC0,cC1,cC2⟩
 clear cV0 cV1 cV2 cC0 cC1 cC2
 go_region_held3 (fun w'=>w'.cell? ⟨GX1,0,none⟩=some (.string k1)∧w'.cell? ⟨GX1,1,none⟩=some (.slice x1a x1n x1c)∧w'.cell? ⟨GX1,2,none⟩=some (.slice y1a y1n y1c)∧w'.cell? ⟨w.heap.size+1,0,none⟩=some (.string k1)∧w'.cell? ⟨w.heap.size+1,1,none⟩=some (.slice a1 n1 c1)∧w'.cell? ⟨w.heap.size+1,2,none⟩=some (.slice b1 m1 d1)) (first | (exact c8) | (exact c9) | (exact ⟨Za hl _ _ c9.1,Za hl _ _ c9.2.1,Za hl _ _ c9.2.2.1,Za hl _ _ c9.2.2.2.1,Za hl _ _ c9.2.2.2.2.1,Za hl _ _ c9.2.2.2.2.2⟩))
  (first | (go_at_call 41;refine (kT1 _ hP).mono ?_;rintro e wk1 ⟨⟨sk1,rfl,hOk⟩,hk⟩;have hD:=hV.below hk;have c9:=(show (fun w':World=>w'.cell? ⟨GX1,0,none⟩=some (.string k1)∧w'.cell? ⟨GX1,1,none⟩=some (.slice x1a x1n x1c)∧w'.cell? ⟨GX1,2,none⟩=some (.slice y1a y1n y1c)∧w'.cell? ⟨w.heap.size+1,0,none⟩=some (.string k1)∧w'.cell? ⟨w.heap.size+1,1,none⟩=some (.slice a1 n1 c1)∧w'.cell? ⟨w.heap.size+1,2,none⟩=some (.slice b1 m1 d1)) wk1 from ⟨Za hk _ _ c8.1,Za hk _ _ c8.2.1,Za hk _ _ c8.2.2.1,Za hk _ _ c8.2.2.2.1,Za hk _ _ c8.2.2.2.2.1,Za hk _ _ c8.2.2.2.2.2⟩)) | (go_at_call 42;refine (kE1 ((x1a,x1n,x1c),(y1a,y1n,y1c)) sk1 _ hD (hOk.mem f1)).mono ?_;rintro e wl1 ⟨rfl,hl⟩))
 have hbw:Below wl0.heap.size wl0 wl1:=Zh (by go_grown) (Zh hk hl)
 replace bw:=Zh bw hbw
 clear hbw hk hl hD hOk c8 c9 hP hV hX1 pX1 p1
 go_wp2
 go_ret
 exact ⟨rfl,bw⟩


def etB (rows:List (List I3)) (e:E3):Bool:=Zj rows && (ZS e && YB rows e)
def etC (rows:List (List I3)) (e:E3):Int:=if (Zj rows && ZS e)=true then 0 else 1
theorem Sh (a:Option Addr) (len cap:Nat) (rows:List (List I3)) (e:E3) (s:Sl2) (w:World) (hC:ZZ w a len cap rows) (hE:Z1 w s e) :
  Calls Tryz.prog 40 #[.agg #[.slice a len cap],ZR e.1 s] w fun x w'=>x=.returned (.tuple #[.bool (etB rows e),.int .i64 (etC rows e)])∧Below w.heap.size w w':=by
 have kO:=fun (W:World) (b:Below w.heap.size w W)=>XT a len cap rows W (hC.below b)
 have kE:=fun (W:World) (b:Below w.heap.size w W)=>Xe e s W (hE.below b)
 have kT:∀ (hp:Zj rows=true) (heo:ZS e=true) (W:World) (b:Below w.heap.size w W),Calls Tryz.prog 91 #[.agg #[.slice a len cap],ZR e.1 s] W fun x w'=>x=.returned (.bool (YB rows e))∧Below W.heap.size W w':=fun hp heo W b=>by
  obtain ⟨hl3,cs,hR⟩:=hC.rowsAt hp
  subst hl3
  exact Rz (cap:=cap) hp e s W a cs (hC.below b) (hR.below b) (hE.below b) heo
 obtain ⟨rb,hrb⟩:∃ rb,rb=etB rows e:=⟨_,rfl⟩
 obtain ⟨rc,hrc⟩:∃ rc,rc=etC rows e:=⟨_,rfl⟩
 rw [← hrb,← hrc]
 have HB:Hid (rb=(Zj rows && (ZS e && YB rows e))):=hrb
 have HC:Hid (rc=if (Zj rows && ZS e)=true then 0 else 1):=hrc
 clear hrb hrc
 generalize YB rows e=te at *
 generalize hoe:ZS e=oe at *
 generalize hop:Zj rows=op at *
 clear hoe
 obtain ⟨ek,eb,ez⟩:=e
 obtain ⟨⟨e1,m1,d1⟩,⟨e2,m2,d2⟩⟩:=s
 unfold ZR at kE kT ⊢
 simp only at kE kT ⊢
 have bw:Below w.heap.size w ((w.alloc (.cells #[.slice a len cap] 25)).alloc (.cells #[.string ek,.slice e1 m1 d1,.slice e2 m2 d2] 45)):=by go_grown
 have pP:Blk ((w.alloc (.cells #[.slice a len cap] 25)).alloc (.cells #[.string ek,.slice e1 m1 d1,.slice e2 m2 d2] 45)) w.heap.size 25 [.slice a len cap]:=Zg _ (Zi _ _ _ rfl)
 have pE:Blk ((w.alloc (.cells #[.slice a len cap] 25)).alloc (.cells #[.string ek,.slice e1 m1 d1,.slice e2 m2 d2] 45)) (w.heap.size+1) 45 [.string ek,.slice e1 m1 d1,.slice e2 m2 d2]:=Zi _ _ _ (by simp)
 have c0:=pP.cell 0
 have x0:=pE.cell 0
 have x1:=pE.cell 1
 have x2:=pE.cell 2
 simp only [List.getElem?_cons_zero,List.getElem?_cons_succ] at c0 x0 x1 x2
 go_enter Tryz.func40,Tryz.ntmps40
 go_wp2_with fail
 generalize ((w.alloc (.cells #[.slice a len cap] 25)).alloc (.cells #[.string ek,.slice e1 m1 d1,.slice e2 m2 d2] 45))=U at *
 refine (kO U bw).mono ?_
 rintro x w1 ⟨rfl,hb⟩
 clear c0 x0 x1 x2
 replace bw:=Zh bw hb
 replace pP:=pP.below hb
 replace pE:=pE.below hb
 clear hb
 have c0:=pP.cell 0
 have x0:=pE.cell 0
 have x1:=pE.cell 1
 have x2:=pE.cell 2
 simp only [List.getElem?_cons_zero,List.getElem?_cons_succ] at c0 x0 x1 x2
 cases op
 ·have HR:Hid (rb=false∧rc=1):=⟨by rw [HB.out];rfl,by rw [HC.out];rfl⟩
  clear HB HC kE kT kO
  go_wp2
  go_ret2
  exact ⟨by rw [HR.out.1,HR.out.2];rfl,bw⟩
 go_wp2_with fail
 refine (kE w1 bw).mono ?_
 rintro x w2 ⟨rfl,hb⟩
 clear c0 x0 x1 x2
 replace bw:=Zh bw hb
 replace pP:=pP.below hb
 replace pE:=pE.below hb
 clear hb
 have c0:=pP.cell 0
 have x0:=pE.cell 0
 have x1:=pE.cell 1
 have x2:=pE.cell 2
 simp only [List.getElem?_cons_zero,List.getElem?_cons_succ] at c0 x0 x1 x2
 cases oe
 ·have HR:Hid (rb=false∧rc=1):=⟨by rw [HB.out];rfl,by rw [HC.out];rfl⟩
  clear HB HC kE kT kO
  go_wp2
  go_ret2
  exact ⟨by rw [HR.out.1,HR.out.2];rfl,bw⟩
 have HR:Hid (rb=te∧rc=0):=⟨by rw [HB.out];rfl,by rw [HC.out];rfl⟩
 have kx:=kT (by first | rfl | trivial) (by first | rfl | trivial) w2 bw
 clear HB HC kE kT kO
 go_wp2_with fail
 refine kx.mono ?_
 rintro x w3 ⟨rfl,hb⟩
 replace bw:=Zh bw hb
 clear hb c0 x0 x1 x2 pP pE kx
 go_wp2
 go_ret2
 exact ⟨by rw [HR.out.1,HR.out.2];rfl,bw⟩
end Go.Proofs.YtnffeclgboomoaaGreatDoor
