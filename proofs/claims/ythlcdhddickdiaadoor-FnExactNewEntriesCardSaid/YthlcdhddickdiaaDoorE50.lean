/-
  Joined: NweW.
-/
import Derived.Test.YthlcdhddickdiaaDoorE17
import Derived.Test.YthlcdhddickdiaaDoorE18

namespace Go.Proofs.YthlcdhddickdiaaDoor
set_option maxRecDepth 100000
set_option maxHeartbeats 16000000
open Go.RowKit
set_option linter.unusedVariables false
set_option linter.unusedSimpArgs false

theorem fnExactNewEntries_of (a0:Option Addr) (n0 c0:Nat) (z0:List E3) (a1:Option Addr) (n1 c1:Nat) (z1:List E3) (re:List E3) (hre:∀ e ∈ re,e.fits) (hrc:∀ j,j≤re.length→cntM re j≤10000000) (hrl:∀ t,t<re.length→(re.getD t e3d).2.1.length≤1048576∧(re.getD t e3d).2.2.length≤1048576) (e0:Int) (w:World) (h0:Ents w a0 n0 c0 z0) (h1:Ents w a1 n1 c1 z1) (hTb0:VmShape w)
  (kS:∀ (a0:Option Addr) (n0 c0:Nat) (a1:Option Addr) (n1 c1:Nat) (w:World),Ents w a0 n0 c0 z0→Ents w a1 n1 c1 z1→Calls Tryd.prog 20 #[.agg #[.slice a0 n0 c0],.agg #[.slice a1 n1 c1]] w fun e w'=>(∃ v,e=.returned (.tuple #[v,.int .i64 e0])∧OwnM w' w.heap.size v re)∧Below w.heap.size w w')
  (kI:∀ (a0:Option Addr) (n0 c0:Nat) (a1:Option Addr) (n1 c1:Nat) (w:World),Ents w a0 n0 c0 z0→Ents w a1 n1 c1 z1→VmShape w→Calls Tryd.prog 21 #[.agg #[.slice a0 n0 c0],.agg #[.slice a1 n1 c1]] w fun e w'=>(∃ v,e=.returned (.tuple #[v,.int .i64 e0])∧OwnM w' w.heap.size v re)∧Below w.heap.size w w') :
  Calls Tryd.prog 5 #[.agg #[.slice a0 n0 c0],.agg #[.slice a1 n1 c1]] w fun e w'=>e=.returned (.bool true)∧Below w.heap.size w w':=by
 have hne:(e0 != e0)=false:=by simp
 have bw:Below w.heap.size w ((w.alloc (.cells #[.slice a0 n0 c0] 24)).alloc (.cells #[.slice a1 n1 c1] 24)):=by go_grown
 have p0:Blk ((w.alloc (.cells #[.slice a0 n0 c0] 24)).alloc (.cells #[.slice a1 n1 c1] 24)) w.heap.size 24 [.slice a0 n0 c0]:=blkOld _ (blkAt _ _ _ rfl)
 have p1:Blk ((w.alloc (.cells #[.slice a0 n0 c0] 24)).alloc (.cells #[.slice a1 n1 c1] 24)) (w.heap.size+1) 24 [.slice a1 n1 c1]:=blkAt _ _ _ (by simp)
 have f0:=h0.fits
 have kZ0:=fun left w h=>szMemo_any a0 n0 c0 z0 left w h
 have kT0:=fun w h l1 l2=>toMemo_own a0 n0 c0 z0 w h l1 l2
 have hc0:n0≤n0+costT z0∧∀ t,t<n0→(z0.getD t e3d).2.1.length≤n0+costT z0∧(z0.getD t e3d).2.2.length≤n0+costT z0:=⟨by omega,fun t ht=>by
  have:=cost_at (es:=z0) (t:=t) (by rw [h0.1];exact ht)
  unfold costE at this
  omega⟩
 have hcm0:=cntM_cost z0
 have hl0:=h0.1
 have f1:=h1.fits
 have kZ1:=fun left w h=>szMemo_any a1 n1 c1 z1 left w h
 have kT1:=fun w h l1 l2=>toMemo_own a1 n1 c1 z1 w h l1 l2
 have hc1:n1≤n1+costT z1∧∀ t,t<n1→(z1.getD t e3d).2.1.length≤n1+costT z1∧(z1.getD t e3d).2.2.length≤n1+costT z1:=⟨by omega,fun t ht=>by
  have:=cost_at (es:=z1) (t:=t) (by rw [h1.1];exact ht)
  unfold costE at this
  omega⟩
 have hcm1:=cntM_cost z1
 have hl1:=h1.1
 go_enter Tryd.func5,Tryd.ntmps5
 go_wp2_with fail
 generalize ((w.alloc (.cells #[.slice a0 n0 c0] 24)).alloc (.cells #[.slice a1 n1 c1] 24))=U0 at *
 refine (kZ0 1048576 _ (h0.below bw) (by omega) (by omega)).mono ?_
 rintro e wz0 ⟨⟨r0,rfl,hz⟩,hb⟩
 replace bw:=bel8 bw hb
 replace p0:=p0.below hb
 replace p1:=p1.below hb
 clear hb kZ0
 rcases hz with rfl | ⟨hr0,hr1⟩
 ·go_wp2
  go_ret
  exact ⟨rfl,bw⟩
 have hn0:decide (r0<0)=false:=by simp;omega
 have hle0:r0≤1048576:=by omega
 have hge0:0≤r0:=by omega
 replace kT0:=fun w h=>kT0 w h (by omega) (fun t ht=>by have:=hc0.2 t ht;omega)
 have hcj0:∀ j,j≤z0.length→cntM z0 j≤10000000:=fun j hj=>by have:=cntM_mono z0 j;omega
 have HRL0:Hid (∀ t,t<z0.length→(z0.getD t e3d).2.1.length≤1048576∧(z0.getD t e3d).2.2.length≤1048576):=fun t ht=>by have:=hc0.2 t (by omega);omega
 clear hr1 hr0 hc0 hcm0
 have q1:=p1.cell 0
 simp only [List.getElem?_cons_zero] at q1
 go_wp2_with fail
 clear q1
 refine (kZ1 r0 _ (h1.below bw) (by omega) (by omega)).mono ?_
 rintro e wz1 ⟨⟨r1,rfl,hz⟩,hb⟩
 replace bw:=bel8 bw hb
 replace p0:=p0.below hb
 replace p1:=p1.below hb
 clear hb kZ1
 rcases hz with rfl | ⟨hr0,hr1⟩
 ·go_wp2
  go_ret
  exact ⟨rfl,bw⟩
 have hn1:decide (r1<0)=false:=by simp;omega
 have hle1:r1≤1048576:=by omega
 have hge1:0≤r1:=by omega
 replace kT1:=fun w h=>kT1 w h (by omega) (fun t ht=>by have:=hc1.2 t ht;omega)
 have hcj1:∀ j,j≤z1.length→cntM z1 j≤10000000:=fun j hj=>by have:=cntM_mono z1 j;omega
 have HRL1:Hid (∀ t,t<z1.length→(z1.getD t e3d).2.1.length≤1048576∧(z1.getD t e3d).2.2.length≤1048576):=fun t ht=>by have:=hc1.2 t (by omega);omega
 clear hr1 hr0 hc1 hcm1
 have g0:=p0.cell 0
 simp only [List.getElem?_cons_zero] at g0
 have g1:=p1.cell 0
 simp only [List.getElem?_cons_zero] at g1
 go_wp2_with fail
 have bd:Below w.heap.size w wz1.drew:=bel8 bw (by go_grown)
 refine wp_region_held_drew (S:=(fun w'=>w'.cell? ⟨w.heap.size,0,none⟩=some (.slice a0 n0 c0)∧w'.cell? ⟨w.heap.size+1,0,none⟩=some (.slice a1 n1 c1))) (by kernel_rfl) ⟨g0,g1⟩ (fun hS0=>?_)
 refine tkm 0 28 (.agg #[.slice a0 n0 c0]) ?_
 refine tkm 2 30 (.agg #[.slice a1 n1 c1]) ?_
 refine tkr 1 29 (fun K hK=>?_)
 go_simp
 refine (kT0 _ (h0.below bd)).mono ?_
 rintro e wq0 ⟨rfl,hO0,hq0⟩
 go_wp2_with fail
 refine hK.out _ _ ?_ (fun hS1=>?_)
 ·exact ⟨cells_kept hq0 _ _ hS0.1,cells_kept hq0 _ _ hS0.2⟩
 clear hK
 refine tkr 3 31 (fun K hK=>?_)
 go_simp
 refine (kT1 _ (h1.below (bel8 bd hq0))).mono ?_
 rintro e wq1 ⟨rfl,hO1,hq1⟩
 go_wp2_with fail
 refine hK.out _ _ ?_ (fun hS2=>?_)
 ·exact ⟨cells_kept hq1 _ _ hS1.1,cells_kept hq1 _ _ hS1.2⟩
 clear hK
 have hA0:=(hO0.ents f0).below hq1
 have hA1:=hO1.ents f1
 clear hO0 hO1
 refine tkr 4 32 (fun K hK=>?_)
 go_simp
 refine (kS _ _ _ _ _ _ _ hA0 hA1).mono ?_
 rintro e ws ⟨⟨v,rfl,hO⟩,hqr⟩
 obtain ⟨sa,sc,rfl⟩:=hO.slice9
 go_wp2_with fail
 refine hK.out _ _ ?_ (fun hS3=>?_)
 ·exact ⟨cells_kept hqr _ _ hS2.1,cells_kept hqr _ _ hS2.2⟩
 clear hK
 refine tkm 5 27 (.tuple #[.slice sa re.length sc,.int .i64 e0]) ?_
 refine tkm 6 33 (.slice sa re.length sc) ?_
 refine tkm 7 34 (.int .i64 e0) ?_
 refine tkm 8 6 (.slice sa re.length sc) ?_
 refine tkm 9 7 (.int .i64 e0) ?_
 refine wpAnyH_done (by kernel_rfl) ?_ _
 have hbr:Below wz1.heap.size wz1 ws:=bel8 (bel8 (bel8 (show Below wz1.heap.size wz1 wz1.drew by go_grown) hq0) hq1) hqr
 replace bw:=bel8 bw hbr
 replace p0:=p0.below hbr
 replace p1:=p1.below hbr
 clear hbr hq0 hq1 hqr hA0 hA1 hS0 hS1 hS2 hS3 bd g0 g1
 have hS:=hO.top9
 clear hO kS
 have cc:=p0.cell 0
 simp only [List.getElem?_cons_zero] at cc
 go_wp2_with fail
 clear cc
 refine (kT0 _ (h0.below bw)).mono ?_
 rintro e wx0 ⟨rfl,hX,hb⟩
 have hgw:w.heap.size+1<ws.heap.size+3:=by have:=p1.lt;omega
 have hgT:ws.heap.size≤ws.heap.size+3:=by omega
 generalize ws.heap.size+3=gx0 at *
 obtain ⟨tS,htS⟩:∃ t,t=ws.heap.size:=⟨_,rfl⟩
 rw [← htS] at hS hgT
 have hXt0:=hX.top9
 have hbx:Below wx0.heap.size wx0 (wx0.alloc (.cells #[.slice (some ⟨gx0,0,none⟩) n0 n0] 33)):=by go_grown
 have pX0:Blk (wx0.alloc (.cells #[.slice (some ⟨gx0,0,none⟩) n0 n0] 33)) wx0.heap.size 33 [.slice (some ⟨gx0,0,none⟩) n0 n0]:=blkAt _ _ _ rfl
 have hxle0:gx0≤wx0.heap.size:=by
  obtain ⟨cs9,hc9,_⟩:=hX
  have:=(hc9.lt gx0 rfl).2
  omega
 replace hXt0:=hXt0.below hbx
 have hbb:=bel8 hb hbx
 clear hX
 replace bw:=bel8 bw hbb
 replace p0:=p0.below hbb
 replace p1:=p1.below hbb
 replace hS:=hS.below hbb
 clear hb hbx hbb
 have cc:=p1.cell 0
 simp only [List.getElem?_cons_zero] at cc
 go_wp2_with fail
 clear cc
 generalize hWy:(wx0.alloc (.cells #[.slice (some ⟨gx0,0,none⟩) n0 n0] 33))=wy0 at *
 clear hWy
 generalize wx0.heap.size=TX0 at *
 have hTX0:TX0<wy0.heap.size:=pX0.lt
 refine (kT1 _ (h1.below bw)).mono ?_
 rintro e wx1 ⟨rfl,hX,hb⟩
 have hg01:TX0<wy0.heap.size+3:=by omega
 generalize wy0.heap.size+3=gx1 at *
 have hXt1:=hX.top9
 have hbx:Below wx1.heap.size wx1 (wx1.alloc (.cells #[.slice (some ⟨gx1,0,none⟩) n1 n1] 33)):=by go_grown
 have pX1:Blk (wx1.alloc (.cells #[.slice (some ⟨gx1,0,none⟩) n1 n1] 33)) wx1.heap.size 33 [.slice (some ⟨gx1,0,none⟩) n1 n1]:=blkAt _ _ _ rfl
 have hxle1:gx1≤wx1.heap.size:=by
  obtain ⟨cs9,hc9,_⟩:=hX
  have:=(hc9.lt gx1 rfl).2
  omega
 replace hXt1:=hXt1.below hbx
 have hbb:=bel8 hb hbx
 clear hX
 replace bw:=bel8 bw hbb
 replace p0:=p0.below hbb
 replace p1:=p1.below hbb
 replace hS:=hS.below hbb
 replace pX0:=pX0.below hbb
 replace hXt0:=hXt0.below hbb
 clear hb hbx hbb
 have cc:=pX0.cell 0
 simp only [List.getElem?_cons_zero] at cc
 have cy:=pX1.cell 0
 simp only [List.getElem?_cons_zero] at cy
 go_wp2_with fail
 clear cc cy
 generalize hWy:(wx1.alloc (.cells #[.slice (some ⟨gx1,0,none⟩) n1 n1] 33))=wi at *
 clear hWy
 generalize wx1.heap.size=TX1 at *
 have hTX1:TX1<wi.heap.size:=pX1.lt
 have hE0:=hXt0.own.ents f0
 have hE1:=hXt1.own.ents f1
 refine (kI _ _ _ _ _ _ _ hE0 hE1 (hTb0.below bw)).mono ?_
 rintro e wg ⟨⟨v,rfl,hO⟩,hb⟩
 obtain ⟨ga,gc,rfl⟩:=hO.slice9
 have hG:=hO.top9
 have hSzG:=hb.size
 clear hO
 replace bw:=bel8 bw hb
 replace p0:=p0.below hb
 replace p1:=p1.below hb
 replace hS:=hS.below hb
 replace pX0:=pX0.below hb
 replace hXt0:=hXt0.below hb
 replace pX1:=pX1.below hb
 replace hXt1:=hXt1.below hb
 replace hE0:=hE0.below hb
 replace hE1:=hE1.below hb
 clear hb
 obtain ⟨TG,hTG⟩:∃ t,t=wg.heap.size:=⟨_,rfl⟩
 rw [← hTG] at hG hSzG
 generalize hBi:wi.heap.size=Bi at *
 clear hBi
 go_wp2_with fail
 refine (eqEntryS_same _ _ _ _ _ re _ (hG.own.ents hre) (hS.own.ents hre)).mono ?_
 rintro e wk ⟨rfl,hb⟩
 have hTk:=hb.size
 rw [← hTG] at hTk
 replace bw:=bel8 bw hb
 replace p0:=p0.below hb
 replace p1:=p1.below hb
 replace hS:=hS.below hb
 replace pX0:=pX0.below hb
 replace hXt0:=hXt0.below hb
 replace pX1:=pX1.below hb
 replace hXt1:=hXt1.below hb
 replace hE0:=hE0.below hb
 replace hE1:=hE1.below hb
 replace hG:=hG.below hb
 clear hb hTG
 have cV0:=pX0.cell 0
 simp only [List.getElem?_cons_zero] at cV0
 have cC0:=p0.cell 0
 simp only [List.getElem?_cons_zero] at cC0
 go_wp2_with fail
 have hP:Ents wk.drew a0 n0 c0 z0:=h0.below (bel8 bw (by go_grown))
 have hV:Ents wk.drew (some ⟨gx0,0,none⟩) n0 n0 z0:=hE0.below (by go_grown)
 have c8:(fun w':World=>w'.cell? ⟨TX0,0,none⟩=some (.slice (some ⟨gx0,0,none⟩) n0 n0)∧w'.cell? ⟨w.heap.size,0,none⟩=some (.slice a0 n0 c0)) wk:=⟨cV0,cC0⟩
 clear cV0 cC0
 go_region_held3 (fun w'=>w'.cell? ⟨TX0,0,none⟩=some (.slice (some ⟨gx0,0,none⟩) n0 n0)∧w'.cell? ⟨w.heap.size,0,none⟩=some (.slice a0 n0 c0)) (first | (exact c8) | (exact c9) | (exact ⟨cells_kept hl _ _ c9.1,cells_kept hl _ _ c9.2⟩))
  (first | (go_at_call 9;refine (kT0 _ hP).mono ?_;rintro e wu ⟨rfl,hOk,hk⟩;have hD:=hV.below hk;have c9:=(show (fun w':World=>w'.cell? ⟨TX0,0,none⟩=some (.slice (some ⟨gx0,0,none⟩) n0 n0)∧w'.cell? ⟨w.heap.size,0,none⟩=some (.slice a0 n0 c0)) wu from ⟨cells_kept hk _ _ c8.1,cells_kept hk _ _ c8.2⟩)) | (go_at_call 12;refine (eqMemo_same _ _ _ _ _ z0 _ hD (hOk.ents f0)).mono ?_;rintro e wl0 ⟨rfl,hl⟩))
 have hbw:Below wk.heap.size wk wl0:=bel8 (by go_grown) (bel8 hk hl)
 replace hTk:=Nat.le_trans hTk hbw.size
 replace bw:=bel8 bw hbw
 replace p0:=p0.below hbw
 replace p1:=p1.below hbw
 replace hS:=hS.below hbw
 replace pX0:=pX0.below hbw
 replace hXt0:=hXt0.below hbw
 replace pX1:=pX1.below hbw
 replace hXt1:=hXt1.below hbw
 replace hE0:=hE0.below hbw
 replace hE1:=hE1.below hbw
 replace hG:=hG.below hbw
 clear hbw hk hl hD hOk c8 c9 hP hV hE0
 have cV0:=pX1.cell 0
 simp only [List.getElem?_cons_zero] at cV0
 have cC0:=p1.cell 0
 simp only [List.getElem?_cons_zero] at cC0
 go_wp2_with fail
 have hP:Ents wl0.drew a1 n1 c1 z1:=h1.below (bel8 bw (by go_grown))
 have hV:Ents wl0.drew (some ⟨gx1,0,none⟩) n1 n1 z1:=hE1.below (by go_grown)
 have c8:(fun w':World=>w'.cell? ⟨TX1,0,none⟩=some (.slice (some ⟨gx1,0,none⟩) n1 n1)∧w'.cell? ⟨w.heap.size+1,0,none⟩=some (.slice a1 n1 c1)) wl0:=⟨cV0,cC0⟩
 clear cV0 cC0
 go_region_held3 (fun w'=>w'.cell? ⟨TX1,0,none⟩=some (.slice (some ⟨gx1,0,none⟩) n1 n1)∧w'.cell? ⟨w.heap.size+1,0,none⟩=some (.slice a1 n1 c1)) (first | (exact c8) | (exact c9) | (exact ⟨cells_kept hl _ _ c9.1,cells_kept hl _ _ c9.2⟩))
  (first | (go_at_call 9;refine (kT1 _ hP).mono ?_;rintro e wu ⟨rfl,hOk,hk⟩;have hD:=hV.below hk;have c9:=(show (fun w':World=>w'.cell? ⟨TX1,0,none⟩=some (.slice (some ⟨gx1,0,none⟩) n1 n1)∧w'.cell? ⟨w.heap.size+1,0,none⟩=some (.slice a1 n1 c1)) wu from ⟨cells_kept hk _ _ c8.1,cells_kept hk _ _ c8.2⟩)) | (go_at_call 12;refine (eqMemo_same _ _ _ _ _ z1 _ hD (hOk.ents f1)).mono ?_;rintro e wl1 ⟨rfl,hl⟩))
 have hbw:Below wl0.heap.size wl0 wl1:=bel8 (by go_grown) (bel8 hk hl)
 replace hTk:=Nat.le_trans hTk hbw.size
 replace bw:=bel8 bw hbw
 replace p0:=p0.below hbw
 replace p1:=p1.below hbw
 replace hS:=hS.below hbw
 replace pX0:=pX0.below hbw
 replace hXt0:=hXt0.below hbw
 replace pX1:=pX1.below hbw
 replace hXt1:=hXt1.below hbw
 replace hE1:=hE1.below hbw
 replace hG:=hG.below hbw
 clear hbw hk hl hD hOk c8 c9 hP hV hE1
 have cc:=pX0.cell 0
 simp only [List.getElem?_cons_zero] at cc
 have hsz:gx0≤wl1.heap.size:=by have:=pX0.lt;omega
 go_wp2_with fail
 clear cc
 refine (markMemo_own gx0 TX0 _ 1 z0 _ (by omega) (by omega) hcj0 HRL0.out hsz hXt0).mono ?_
 rintro e m0 ⟨rfl,_,hm⟩
 have hmz:=hm.1.size
 replace bw:Below w.heap.size w m0:=bw.trans (hm.1.mono (by omega))
 replace p0:=p0.belowB hm.1 (by omega)
 replace p1:=p1.belowB hm.1 (by omega)
 replace hS:=hS.under hm.1 (by omega)
 replace pX1:=hm.blk pX1 (by omega)
 replace hXt1:=hXt1.mid hm (by omega)
 replace hG:=hG.mid hm (by omega)
 replace hTk:=Nat.le_trans hTk hmz
 clear hXt0 pX0 hsz hm hmz
 have hck:=hcj0 z0.length (Nat.le_refl _)
 obtain ⟨kc,hkc,hkb,hk1⟩:∃ kc:Nat,((1:Nat):Int)+(cntM z0 z0.length:Int)=(kc:Int)∧kc≤10000001∧0<kc:=⟨1+cntM z0 z0.length,by omega,by omega,by omega⟩
 rw [hkc]
 clear hck hcj0 HRL0 hkc
 have cc:=pX1.cell 0
 simp only [List.getElem?_cons_zero] at cc
 have hsz:gx1≤m0.heap.size:=by have:=pX1.lt;omega
 go_wp2_with fail
 clear cc
 refine (markMemo_own gx1 TX1 _ kc z1 _ (by omega) (by omega) hcj1 HRL1.out hsz hXt1).mono ?_
 rintro e m1 ⟨rfl,_,hm⟩
 have hmz:=hm.1.size
 replace bw:Below w.heap.size w m1:=bw.trans (hm.1.mono (by omega))
 replace p0:=p0.belowB hm.1 (by omega)
 replace p1:=p1.belowB hm.1 (by omega)
 replace hS:=hS.under hm.1 (by omega)
 replace hG:=hG.mid hm (by omega)
 replace hTk:=Nat.le_trans hTk hmz
 clear hXt1 pX1 hsz hm hmz
 have hck:=hcj1 z1.length (Nat.le_refl _)
 have hkk:decide ((kc:Int)+(cntM z1 z1.length:Nat)<0)=false:=by simp;omega
 go_wp2_with fail
 refine (eqEntryS_same _ _ _ _ _ re _ (hG.own.ents hre) (hS.own.ents hre)).mono ?_
 rintro e m2 ⟨rfl,hb⟩
 replace hTk:=Nat.le_trans hTk hb.size
 replace bw:=bel8 bw hb
 replace p0:=p0.below hb
 replace p1:=p1.below hb
 replace hS:=hS.below hb
 replace hG:=hG.below hb
 clear hb hkk
 go_wp2_with fail
 refine (markEntryS_own Bi TG _ 1 re _ (by omega) (by omega) hrc hrl hG).mono ?_
 rintro e m3 ⟨rfl,hH,hm⟩
 have hmz:=hm.1.size
 replace bw:Below w.heap.size w m3:=bw.trans (hm.1.mono (by omega))
 replace p0:=p0.belowB hm.1 (by omega)
 replace p1:=p1.belowB hm.1 (by omega)
 replace hS:=hS.under hm.1 (by omega)
 clear hm hG hmz
 have hcr:=hrc re.length (Nat.le_refl _)
 have hh0:decide (((1:Nat):Int)+cntM re re.length<0)=false:=by simp;omega
 have hhn:(((1:Nat):Int)+cntM re re.length != ((1:Nat):Int)+cntM re re.length)=false:=by simp
 go_wp2_with fail
 refine (heldEntryS_own Bi _ 1 re _ (by omega) (by omega) hrc hrl hH.own).mono ?_
 rintro e m4 ⟨rfl,hb⟩
 replace bw:=bel8 bw hb
 replace p0:=p0.below hb
 replace p1:=p1.below hb
 replace hS:=hS.below hb
 replace hH:=hH.below hb
 clear hb
 have g0:=p0.cell 0
 simp only [List.getElem?_cons_zero] at g0
 have g1:=p1.cell 0
 simp only [List.getElem?_cons_zero] at g1
 go_wp2_with fail
 have bd:Below w.heap.size w m4.drew:=bel8 bw (by go_grown)
 refine wp_region_held_drew (S:=(fun w'=>w'.cell? ⟨w.heap.size,0,none⟩=some (.slice a0 n0 c0)∧w'.cell? ⟨w.heap.size+1,0,none⟩=some (.slice a1 n1 c1))) (by kernel_rfl) ⟨g0,g1⟩ (fun hS0=>?_)
 refine tkm 0 95 (.agg #[.slice a0 n0 c0]) ?_
 refine tkm 2 97 (.agg #[.slice a1 n1 c1]) ?_
 refine tkr 1 96 (fun K hK=>?_)
 go_simp
 refine (kT0 _ (h0.below bd)).mono ?_
 rintro e wq0 ⟨rfl,hO0,hq0⟩
 go_wp2_with fail
 refine hK.out _ _ ?_ (fun hS1=>?_)
 ·exact ⟨cells_kept hq0 _ _ hS0.1,cells_kept hq0 _ _ hS0.2⟩
 clear hK
 refine tkr 3 98 (fun K hK=>?_)
 go_simp
 refine (kT1 _ (h1.below (bel8 bd hq0))).mono ?_
 rintro e wq1 ⟨rfl,hO1,hq1⟩
 go_wp2_with fail
 refine hK.out _ _ ?_ (fun hS2=>?_)
 ·exact ⟨cells_kept hq1 _ _ hS1.1,cells_kept hq1 _ _ hS1.2⟩
 clear hK
 have hA0:=(hO0.ents f0).below hq1
 have hA1:=hO1.ents f1
 clear hO0 hO1
 refine tkr 4 99 (fun K hK=>?_)
 go_simp
 refine (kI _ _ _ _ _ _ _ hA0 hA1 (hTb0.below (bel8 (bel8 bd hq0) hq1))).mono ?_
 rintro e wu2 ⟨⟨v,rfl,hO⟩,hqr⟩
 obtain ⟨ta,tc,rfl⟩:=hO.slice9
 go_wp2_with fail
 refine hK.out _ _ ?_ (fun hS3=>?_)
 ·exact ⟨cells_kept hqr _ _ hS2.1,cells_kept hqr _ _ hS2.2⟩
 clear hK
 refine tkm 5 94 (.tuple #[.slice ta re.length tc,.int .i64 e0]) ?_
 refine tkm 6 100 (.slice ta re.length tc) ?_
 refine tkm 7 101 (.int .i64 e0) ?_
 refine tkm 8 15 (.slice ta re.length tc) ?_
 refine tkm 9 16 (.int .i64 e0) ?_
 refine wpAnyH_done (by kernel_rfl) ?_ _
 have hbr:Below m4.heap.size m4 wu2:=bel8 (bel8 (bel8 (show Below m4.heap.size m4 m4.drew by go_grown) hq0) hq1) hqr
 replace bw:=bel8 bw hbr
 replace p0:=p0.below hbr
 replace p1:=p1.below hbr
 replace hS:=hS.below hbr
 replace hH:=hH.below hbr
 clear hbr hq0 hq1 hqr hA0 hA1 hS0 hS1 hS2 hS3 bd g0 g1
 have hQ:=hO
 clear hO kI
 go_wp2_with fail
 refine (eqEntryS_same _ _ _ _ _ re _ (hQ.ents hre) (hS.own.ents hre)).mono ?_
 rintro e m5 ⟨rfl,hb⟩
 replace bw:=bel8 bw hb
 replace p0:=p0.below hb
 replace p1:=p1.below hb
 replace hS:=hS.below hb
 replace hH:=hH.below hb
 clear hb hQ hS
 go_wp2_with fail
 refine (heldEntryS_own Bi _ 1 re _ (by omega) (by omega) hrc hrl hH.own).mono ?_
 rintro e m6 ⟨rfl,hb⟩
 replace bw:=bel8 bw hb
 go_wp2
 go_ret
 exact ⟨rfl,bw⟩
end Go.Proofs.YthlcdhddickdiaaDoor
