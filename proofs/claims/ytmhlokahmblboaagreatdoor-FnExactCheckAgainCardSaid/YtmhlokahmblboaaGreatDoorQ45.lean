/-
  Joined: CkwW.
-/
import Derived.Test.YtmhlokahmblboaaGreatDoorQ44

namespace Go.Proofs.YtmhlokahmblboaaGreatDoor
set_option maxRecDepth 100000
set_option maxHeartbeats 16000000
open Go.RowKit
set_option linter.unusedVariables false
set_option linter.unusedSimpArgs false

theorem ZV {P:Program} {ops:Array Oper} {Q:Exit→Act→World→Prop} {md:Region.Mode} {S:World→Prop} (rs:List Nat) {fuel:Nat} {listed:Array Bool} {a:Act} {w:World} (hr:Region.ready md ops listed=rs) (h:AllReadyH P md ops Q S fuel listed a w rs) (hn:rs≠[]:=by simp):wpAnyH P md ops Q S (fuel+1) listed a w:=wpAnyH_ready hr hn h
def JF (w0:World) (bz:List I3) (nz:Nat) (re:List E3) (cz:Int) (sA sB sC:Value) (W:World):Prop:=∃ (X Y:Nat) (a:Option Addr) (c:Nat) (m:Option Addr) (d:Nat),sA=.pointer (some ⟨X,0,none⟩)∧sB=.pointer (some ⟨Y,0,none⟩)∧sC=.int .i64 cz∧Blk W X 44 [.slice a bz.length c,.int .i64 (nz:Int)]∧Blk W Y 47 [.slice m re.length d]∧W.ownsRow 0 90 3 (.slice a bz.length c) bz.length (Zk bz)∧Yo W 0 (.slice m re.length d) re∧Below w0.heap.size w0 W∧w0.heap.size≤X∧w0.heap.size≤Y∧X≠Y
theorem VS (a0:Option Addr) (n0 c0:Nat) (r0:List (List I3)) (a1:Option Addr) (n1 c1:Nat) (z1:List E3) (bz:List I3) (hfit:∀ x ∈ bz,I3.fits x) (hlf:bz.length≤100000) (nz:Nat) (re:List E3) (hre:∀ e ∈ re,e.fits) (hrc:∀ j,j≤re.length→ZA re j≤10000000) (hrl:∀ t,t<re.length→(re.getD t e3d).2.1.length≤1048576∧(re.getD t e3d).2.2.length≤1048576) (cz:Int) (w:World) (h0:Z1 w a0 n0 c0 r0) (h1:XF w a1 n1 c1 z1) (hG:ZQ w)
  (kS:∀ (a0:Option Addr) (n0 c0:Nat) (am:Option Addr) (w:World),Z1 w a0 n0 c0 r0→Yo w 0 (.slice am n1 n1) z1→Calls Tryz.prog 11 #[.agg #[.slice a0 n0 c0],.agg #[.slice am n1 n1]] w fun e w'=>W6 e w' w.heap.size bz nz re cz∧Below w.heap.size w w')
  (kI:∀ (a0:Option Addr) (n0 c0:Nat) (am:Option Addr) (w:World),Z1 w a0 n0 c0 r0→Yo w 0 (.slice am n1 n1) z1→ZQ w→Calls Tryz.prog 14 #[.agg #[.slice a0 n0 c0],.agg #[.slice am n1 n1]] w fun e w'=>X1 e w' w.heap.size bz nz re cz∧Below w.heap.size w w') :
  Calls Tryz.prog 4 #[.agg #[.slice a0 n0 c0],.agg #[.slice a1 n1 c1]] w fun e w'=>e=.returned (.bool true)∧Below w.heap.size w w':=by
 have kT:=fun W h=>Qc a0 n0 c0 r0 W h
 have kO:=fun W h=>QG a0 n0 c0 r0 W h
 have f1:=h1.fits
 have kZ1:=fun left w h=>Lj a1 n1 c1 z1 left w h
 have kU:=fun w h l1 l2=>Ln a1 n1 c1 z1 w h l1 l2
 have hc1:n1≤n1+Xo z1∧∀ t,t<n1→(z1.getD t e3d).2.1.length≤n1+Xo z1∧(z1.getD t e3d).2.2.length≤n1+Xo z1:=⟨by omega,fun t ht=>by
  have:=Gu (es:=z1) (t:=t) (by rw [h1.1];exact ht)
  unfold UM at this
  omega⟩
 have hcm1:=Re z1
 have hl1:=h1.1
 have hne:(cz != cz)=false:=by simp
 have bw:Below w.heap.size w ((w.alloc (.cells #[.slice a0 n0 c0] 37)).alloc (.cells #[.slice a1 n1 c1] 40)):=by go_grown
 have p0:Blk ((w.alloc (.cells #[.slice a0 n0 c0] 37)).alloc (.cells #[.slice a1 n1 c1] 40)) w.heap.size 37 [.slice a0 n0 c0]:=Zf _ (Zh _ _ _ rfl)
 have p1:Blk ((w.alloc (.cells #[.slice a0 n0 c0] 37)).alloc (.cells #[.slice a1 n1 c1] 40)) (w.heap.size+1) 40 [.slice a1 n1 c1]:=Zh _ _ _ (by simp)
 go_enter Tryz.func4,Tryz.ntmps4
 go_wp2_with fail
 generalize ((w.alloc (.cells #[.slice a0 n0 c0] 37)).alloc (.cells #[.slice a1 n1 c1] 40))=W0 at *
 have cc:=p0.cell 0
 simp only [List.getElem?_cons_zero] at cc
 have hz:=SA r0 1048576 (by omega)
 have hbd:=Mf (rows:=r0) (left:=1048576) (by omega)
 have hcb:=fun h=>P5 (rows:=r0) (left:=1048576) h
 go_wp2_with fail
 clear cc
 refine (R5 a0 n0 c0 r0 1048576 _ (h0.below bw) (by omega) (by omega)).mono ?_
 rintro e wz ⟨rfl,hb⟩
 generalize YU 1048576 r0=zl at hz hbd hcb
 replace bw:=Zb bw hb
 replace p0:=p0.below hb
 replace p1:=p1.below hb
 clear hb
 rcases hz with rfl | ⟨yl,xl⟩
 ·clear hbd hcb
  go_wp2
  go_ret
  exact ⟨rfl,bw⟩
 obtain ⟨hr,hr'⟩:=hbd yl (by omega)
 have hcnt:=hcb yl
 have hlen:n0≤1048576:=by rw [← h0.1];exact hr
 replace kT:=fun W h=>kT W h hlen (fun t _=>hr' t)
 replace kO:=fun W h=>kO W h hlen (fun t _=>hr' t)
 have hcl:Y4 r0 r0.length≤10000000:=by omega
 have hcj:∀ j,j≤r0.length→Y4 r0 j≤10000000:=fun j hj=>by have:=QM r0 j;omega
 have HRJ:Hid (∀ j,j<r0.length→(r0.getD j []).length≤1048576):=fun j _=>hr' j
 clear hbd hcb hr hr' hlen hcnt
 have hn0:decide (zl<0)=false:=by simp;omega
 have cc:=p1.cell 0
 simp only [List.getElem?_cons_zero] at cc
 go_wp2_with fail
 clear cc
 refine (kZ1 zl _ (h1.below bw) (by omega) (by omega)).mono ?_
 rintro e wz1 ⟨⟨zm,rfl,hz⟩,hb⟩
 replace bw:=Zb bw hb
 replace p0:=p0.below hb
 replace p1:=p1.below hb
 clear hb kZ1
 rcases hz with rfl | ⟨hr0,hr1⟩
 ·go_wp2
  go_ret
  exact ⟨rfl,bw⟩
 have hn1:decide (zm<0)=false:=by simp;omega
 have hle1:zm≤1048576:=by omega
 replace kU:=fun w h=>kU w h (by omega) (fun t ht=>by have:=hc1.2 t ht;omega)
 have hcj1:∀ j,j≤z1.length→ZA z1 j≤10000000:=fun j hj=>by have:=Rf z1 j;omega
 have HRL1:Hid (∀ t,t<z1.length→(z1.getD t e3d).2.1.length≤1048576∧(z1.getD t e3d).2.2.length≤1048576):=fun t ht=>by have:=hc1.2 t (by omega);omega
 clear hr1 hr0 hc1 hcm1 yl xl hn0
 have g0:=p0.cell 0
 simp only [List.getElem?_cons_zero] at g0
 have g1:=p1.cell 0
 simp only [List.getElem?_cons_zero] at g1
 go_wp2_with fail
 go_cut [6,7,8] from 20 (fun sA sB sC W=>JF wz1 bz nz re cz sA sB sC W)
 case first =>
  rename_i K9 hK9 J9 K8 hJ8 hM8
  clear hK9
  as_aux_lemma =>
   refine wp_region_held_drew (S:=(fun w'=>w'.cell? ⟨w.heap.size,0,none⟩=some (.slice a0 n0 c0)∧w'.cell? ⟨w.heap.size+1,0,none⟩=some (.slice a1 n1 c1))) (by kernel_rfl) ⟨g0,g1⟩ (fun hS0=>?_)
   have bq:Below wz1.heap.size wz1 wz1.drew:=by go_grown
   generalize wz1.drew=V at *
   refine tkm 0 31 (.agg #[.slice a0 n0 c0]) ?_
   refine tkm 2 33 (.agg #[.slice a1 n1 c1]) ?_
   iterate 5
    all_goals first
     | refine ZV [1] (by decide +kernel) ?_
     | refine ZV [3] (by decide +kernel) ?_
     | refine ZV [4] (by decide +kernel) ?_
     | refine ZV [9] (by decide +kernel) ?_
     | refine ZV [10] (by decide +kernel) ?_
     | refine ZV [1,9] (by decide +kernel) ?_
     | refine ZV [1,10] (by decide +kernel) ?_
     | refine ZV [3,9] (by decide +kernel) ?_
     | refine ZV [3,10] (by decide +kernel) ?_
     | refine ZV [4,9] (by decide +kernel) ?_
     | refine ZV [4,10] (by decide +kernel) ?_
     | refine ZV [9,10] (by decide +kernel) ?_
     | refine ZV [1,9,10] (by decide +kernel) ?_
     | refine ZV [3,9,10] (by decide +kernel) ?_
     | refine ZV [4,9,10] (by decide +kernel) ?_
    all_goals repeat' first
     | exact AllReadyH.nil
     | refine AllReadyH.cons (o:=⟨some 32,_,_,_,_,_⟩) rfl (fun K hK=>?_) ?_
     | refine AllReadyH.cons (o:=⟨some 34,_,_,_,_,_⟩) rfl (fun K hK=>?_) ?_
     | refine AllReadyH.cons (o:=⟨some 35,_,_,_,_,_⟩) rfl (fun K hK=>?_) ?_
     | refine AllReadyH.cons (o:=⟨some 6,_,_,_,_,_⟩) rfl (fun K hK=>?_) ?_
     | refine AllReadyH.cons (o:=⟨some 7,_,_,_,_,_⟩) rfl (fun K hK=>?_) ?_
    all_goals first
     | (
       go_simp
       refine (kT _ (h0.below (Zb bw bq))).mono ?_
       rintro e V ⟨rfl,hO,hq⟩
       have hc:=hO.codes
       clear hO
       (try replace pX:=pX.below hq)
       (try replace pY:=pY.below hq)
       replace bq:=Zb bq hq
       go_wp2_with fail
       refine hK.out _ _ ⟨Za hq _ _ hS0.1,Za hq _ _ hS0.2⟩ (fun hS0=>?_)
       clear hK hq)
     | (
       go_simp
       refine (kU _ (h1.below (Zb bw bq))).mono ?_
       rintro e V ⟨rfl,hO,hq⟩
       have hm9:=Yo.lower hO (Nat.zero_le _)
       clear hO
       replace hc:=hc.below hq
       (try replace pX:=pX.below hq)
       (try replace pY:=pY.below hq)
       replace bq:=Zb bq hq
       go_wp2_with fail
       refine hK.out _ _ ⟨Za hq _ _ hS0.1,Za hq _ _ hS0.2⟩ (fun hS0=>?_)
       clear hK hq)
     | (
       go_simp
       refine (kS _ _ _ _ _ hc hm9).mono ?_
       rintro e V ⟨⟨vb,vm,rfl,q9,h9⟩,hq⟩
       skip
       obtain ⟨xa,xc,rfl⟩:=ZH q9
       obtain ⟨xm,xd,rfl⟩:=h9.slice9
       replace q9:=ZT q9 (Nat.zero_le _)
       replace h9:=Yo.lower h9 (Nat.zero_le _)
       clear hc hm9
       (try replace pX:=pX.below hq)
       (try replace pY:=pY.below hq)
       replace bq:=Zb bq hq
       go_wp2_with fail
       refine hK.out _ _ ⟨Za hq _ _ hS0.1,Za hq _ _ hS0.2⟩ (fun hS0=>?_)
       clear hK hq
       refine tkm 5 30 (.tuple #[.agg #[.slice xa bz.length xc,.int .i64 (nz:Int)],.agg #[.slice xm re.length xd],.int .i64 cz]) ?_
       refine tkm 6 36 (.agg #[.slice xa bz.length xc,.int .i64 (nz:Int)]) ?_
       refine tkm 7 37 (.agg #[.slice xm re.length xd]) ?_
       refine tky 8 38 (.int .i64 cz) ?_
       simp only [Act.put,tka,tkb,tkc])
     | (
       go_simp
       have hq:Below V.heap.size V (V.alloc (.cells #[.slice none 0 0,.int .i64 0] 44)):=by go_grown
       have pX:=Blk.new V 44 [.slice none 0 0,.int .i64 0]
       obtain ⟨X,hX⟩:∃ X,X=V.heap.size:=⟨_,rfl⟩
       (try have hXY:X≠Y:=by have:=pY.lt;omega)
       have lX:wz1.heap.size≤X:=by rw [hX];exact bq.size
       rw [← hX] at pX
       (try replace pY:=pY.below hq)
       (try replace hc:=hc.below hq)
       (try replace hm9:=hm9.below hq)
       (try replace q9:=Zp q9 hq)
       (try replace h9:=h9.below hq)
       replace bq:=Zb bq hq
       refine hK.out _ (V.alloc (.cells #[.slice none 0 0,.int .i64 0] 44)) ⟨Za hq _ _ hS0.1,Za hq _ _ hS0.2⟩ (fun hS0=>?_)
       rw [← hX]
       clear hK hq hX
       try simp only [Act.put,tka,tkb,tkc]
       generalize (V.alloc (.cells #[.slice none 0 0,.int .i64 0] 44))=V at *)
     | (
       go_simp
       have hq:Below V.heap.size V (V.alloc (.cells #[.slice none 0 0] 47)):=by go_grown
       have pY:=Blk.new V 47 [.slice none 0 0]
       obtain ⟨Y,hY⟩:∃ Y,Y=V.heap.size:=⟨_,rfl⟩
       (try have hXY:X≠Y:=by have:=pX.lt;omega)
       have lY:wz1.heap.size≤Y:=by rw [hY];exact bq.size
       rw [← hY] at pY
       (try replace pX:=pX.below hq)
       (try replace hc:=hc.below hq)
       (try replace hm9:=hm9.below hq)
       (try replace q9:=Zp q9 hq)
       (try replace h9:=h9.below hq)
       replace bq:=Zb bq hq
       refine hK.out _ (V.alloc (.cells #[.slice none 0 0] 47)) ⟨Za hq _ _ hS0.1,Za hq _ _ hS0.2⟩ (fun hS0=>?_)
       rw [← hY]
       clear hK hq hY
       try simp only [Act.put,tka,tkb,tkc]
       generalize (V.alloc (.cells #[.slice none 0 0] 47))=V at *)
   all_goals
    refine tkz 11 (fun K hK=>?_)
    refine Zl rfl 44 _ _ rfl X [.slice xa bz.length xc,.int .i64 (nz:Int)] rfl rfl pX (by kernel_rfl) rfl rfl ?_
    intro V8 p8 g8
    have hw:w.heap.size+1<X:=by have:=p1.lt;omega
    have hy:w.heap.size+1<Y:=by have:=p1.lt;omega
    refine hK.out _ _ ⟨Zn g8 hS0.1 (fun e=>by injection e with e9;dsimp only at e9;omega),Zn g8 hS0.2 (fun e=>by injection e with e9;dsimp only at e9;omega)⟩ (fun hS0=>?_)
    clear hK
    try simp only [Act.put,tka,tkb,tkc]
    replace q9:=q9.kept g8 (.inr (Zo q9 pX (by decide)))
    replace h9:=h9.keptV g8 pX (by decide) (by decide) (by decide)
    replace pY:=pY.kept g8 (by simpa using hXY)
    replace bq:=bq.grown g8 bq.size (fun k hk=>by cases hk;exact lX)
    replace pX:=p8.out
    clear p8 g8
    refine tkz 12 (fun K hK=>?_)
    refine Zl rfl 47 _ _ rfl Y [.slice xm re.length xd] rfl rfl pY (by kernel_rfl) rfl rfl ?_
    intro V9 p9 g9
    refine hK.out _ _ ⟨Zn g9 hS0.1 (fun e=>by injection e with e9;dsimp only at e9;omega),Zn g9 hS0.2 (fun e=>by injection e with e9;dsimp only at e9;omega)⟩ (fun hS0=>?_)
    clear hK
    try simp only [Act.put,tka,tkb,tkc]
    replace q9:=q9.kept g9 (.inr (Zo q9 pY (by decide)))
    replace h9:=h9.keptV g9 pY (by decide) (by decide) (by decide)
    replace pX:=pX.kept g9 (by simpa using fun e:Y=X=>hXY e.symm)
    replace bq:=bq.grown g9 bq.size (fun k hk=>by cases hk;exact lY)
    replace pY:=p9.out
    clear p9 g9
    refine tkm 13 8 (.int .i64 cz) ?_
    refine wpAnyH_done (by kernel_rfl) ?_ _
    go_wp2_with fail
    go_meet
    case rel=>exact ⟨X,Y,xa,xc,xm,xd,rfl,rfl,rfl,pX,pY,q9,h9,bq,lX,lY,hXY⟩
 obtain ⟨XS,YS,Sa,Sc,Sm,Sd,rfl,rfl,rfl,pSR,pSM,qS,hS,hbr,lXS,lYS,hXYS⟩:=hcut
 rename World=>wSx
 clear kS g0 g1
 replace bw:=Zb bw hbr
 replace p0:=p0.below hbr
 replace p1:=p1.below hbr
 clear hbr
 have hwN:=bw.size
 have hp0N:w.heap.size+1<wSx.heap.size:=p1.lt
 have hXSN:XS<wSx.heap.size:=pSR.lt
 have hYSN:YS<wSx.heap.size:=pSM.lt
 have tS:=hS.top9
 have bS:∀ j,(Value.slice Sa bz.length Sc).ownBlock=some j→j<wSx.heap.size:=fun j hj=>(Yf qS hj).2
 clear hS
 generalize hNS:wSx.heap.size=NS at *
 have cc:=p0.cell 0
 simp only [List.getElem?_cons_zero] at cc
 go_wp2_with fail
 clear cc
 refine (kO _ (h0.below bw)).mono ?_
 rintro e wx ⟨rfl,hX,hb⟩
 rw [hNS] at hb hX ⊢
 have hXs:NS+3≤wx.heap.size:=by
  obtain ⟨vs9,hv9,_⟩:=hX
  have h9:NS+3<wx.heap.size:=(hv9.lt _ rfl).2
  omega
 have hbq:Below wSx.heap.size wSx wx:=by rw [hNS];exact hb
 clear hb
 replace bw:=Zb bw hbq
 replace p0:=p0.below hbq
 replace p1:=p1.below hbq
 replace pSR:=pSR.below hbq
 replace pSM:=pSM.below hbq
 replace qS:=Zp qS hbq
 replace tS:=tS.below hbq
 clear hbq
 have hXt:=hX.top9
 clear hX
 generalize hgx:NS+3=gx at *
 have hNg:NS≤gx:=by omega
 clear hgx
 have bA:Below wx.heap.size wx (wx.alloc (.cells #[.slice (some ⟨gx,0,none⟩) n0 n0] 25)):=by go_grown
 have pX:Blk (wx.alloc (.cells #[.slice (some ⟨gx,0,none⟩) n0 n0] 25)) wx.heap.size 25 [.slice (some ⟨gx,0,none⟩) n0 n0]:=Zh _ _ _ rfl
 replace hXt:=hXt.below bA
 replace bw:=Zb bw bA
 replace p0:=p0.below bA
 replace p1:=p1.below bA
 replace pSR:=pSR.below bA
 replace pSM:=pSM.below bA
 replace qS:=Zp qS bA
 replace tS:=tS.below bA
 clear bA
 have hc0:=hXt.own.codes (Fk h0)
 have cc:=p1.cell 0
 simp only [List.getElem?_cons_zero] at cc
 go_wp2_with fail
 clear cc
 generalize hWy:(wx.alloc (.cells #[.slice (some ⟨gx,0,none⟩) n0 n0] 25))=wy at *
 clear hWy
 generalize wx.heap.size=TX at *
 have hTXy:TX<wy.heap.size:=pX.lt
 refine (kU _ (h1.below bw)).mono ?_
 rintro e wv ⟨rfl,hM,hb⟩
 have hMs:wy.heap.size+3≤wv.heap.size:=by
  obtain ⟨vs9,hv9,_⟩:=hM
  have h9:wy.heap.size+3<wv.heap.size:=(hv9.lt _ rfl).2
  omega
 replace bw:=Zb bw hb
 replace p0:=p0.below hb
 replace p1:=p1.below hb
 replace pSR:=pSR.below hb
 replace pSM:=pSM.below hb
 replace qS:=Zp qS hb
 replace tS:=tS.below hb
 replace pX:=pX.below hb
 replace hXt:=hXt.below hb
 replace hc0:=hc0.below hb
 clear hb
 have hMt:=hM.top9
 clear hM
 generalize hgm:wy.heap.size+3=gm at *
 have hTXm:TX<gm:=by omega
 clear hgm
 have bA:Below wv.heap.size wv (wv.alloc (.cells #[.slice (some ⟨gm,0,none⟩) n1 n1] 47)):=by go_grown
 have pY:Blk (wv.alloc (.cells #[.slice (some ⟨gm,0,none⟩) n1 n1] 47)) wv.heap.size 47 [.slice (some ⟨gm,0,none⟩) n1 n1]:=Zh _ _ _ rfl
 replace hMt:=hMt.below bA
 replace bw:=Zb bw bA
 replace p0:=p0.below bA
 replace p1:=p1.below bA
 replace pSR:=pSR.below bA
 replace pSM:=pSM.below bA
 replace qS:=Zp qS bA
 replace tS:=tS.below bA
 replace pX:=pX.below bA
 replace hXt:=hXt.below bA
 replace hc0:=hc0.below bA
 clear bA
 have u0:=pX.cell 0
 have u1:=pY.cell 0
 simp only [List.getElem?_cons_zero] at u0 u1
 go_upto_region 11 with fail
 generalize hWy:(wv.alloc (.cells #[.slice (some ⟨gm,0,none⟩) n1 n1] 47))=wu at *
 clear hWy
 generalize wv.heap.size=TM at *
 have hTMu:TM<wu.heap.size:=pY.lt
 go_wp2_with fail
 refine (kI _ _ _ _ _ hc0 (Yo.lower hMt.own (Nat.zero_le _)) (hG.below bw)).mono ?_
 rintro e wI ⟨⟨vb,vm,TG,rfl,qG,tbG,hG9,tlG⟩,hb⟩
 obtain ⟨Ga,Gc,rfl⟩:=ZH qG
 obtain ⟨Gm,Gd,rfl⟩:=hG9.slice9
 obtain ⟨T,hTdef⟩:∃ T,T=min TG wI.heap.size:=⟨_,rfl⟩
 have hbs9:=hb.size
 have hT1:T≤TG:=by omega
 have hbG:wu.heap.size≤T:=by omega
 have hTw:T≤wI.heap.size:=by omega
 have tbT:∀ j,(Value.slice Ga bz.length Gc).ownBlock=some j→j<T:=fun j hj=>by
  have h1:=tbG j hj
  have h2:=(Yf qG hj).2
  omega
 have tG:=(hG9.lower hT1).top9
 clear hG9 tbG tlG hTdef hT1 hbs9
 replace bw:=Zb bw hb
 replace p0:=p0.below hb
 replace p1:=p1.below hb
 replace pSR:=pSR.below hb
 replace pSM:=pSM.below hb
 replace qS:=Zp qS hb
 replace tS:=tS.below hb
 replace pX:=pX.below hb
 replace hXt:=hXt.below hb
 replace hc0:=hc0.below hb
 replace pY:=pY.below hb
 replace hMt:=hMt.below hb
 clear hb
 have pN4:Blk ((wI.alloc (.cells #[.slice none 0 0,.int .i64 0] 44)).alloc (.cells #[.slice none 0 0] 47)) wI.heap.size 44 [.slice none 0 0,.int .i64 0]:=Zf _ (Zh _ _ _ rfl)
 have pN5:Blk ((wI.alloc (.cells #[.slice none 0 0,.int .i64 0] 44)).alloc (.cells #[.slice none 0 0] 47)) (wI.heap.size+1) 47 [.slice none 0 0]:=Zh _ _ _ (by simp)
 have hbN:Below wI.heap.size wI ((wI.alloc (.cells #[.slice none 0 0,.int .i64 0] 44)).alloc (.cells #[.slice none 0 0] 47)):=by go_grown
 go_wp2_with (refine Zd rfl 44 _ _ rfl wI.heap.size [.slice Ga bz.length Gc,.int .i64 (nz:Int)] rfl rfl pN4 (by kernel_rfl) rfl rfl ?_)
 intro wIr pr gr
 have pGR:=pr.out
 have pGM:=pN5.kept gr (by simp)
 have hbb:=hbN.grown gr hbN.size (fun q e=>by cases e;exact Nat.le_refl _)
 clear pr gr hbN pN4 pN5
 obtain ⟨XG,hXG⟩:∃ X,X=wI.heap.size:=⟨_,rfl⟩
 obtain ⟨YG,hYG⟩:∃ Y,Y=wI.heap.size+1:=⟨_,rfl⟩
 rw [← hYG] at pGM ⊢
 rw [← hXG] at pGR ⊢
 have hXYG:XG≠YG:=by omega
 have lXG:wI.heap.size≤XG:=by omega
 have lYG:wI.heap.size≤YG:=by omega
 clear hXG hYG
 have s0:=pGM.cell 0
 have fs:=pGM.frozen 0
 simp only [List.getElem?_cons_zero] at s0
 replace hbb:=hbb.grown (Vw wIr YG 0 (.slice Gm re.length Gd)) hbb.size (fun q e=>by cases e;exact lYG)
 replace pGR:=pGR.off ⟨YG,0,none⟩ (.slice Gm re.length Gd) hXYG
 replace pGM:=pGM.set 0 (.slice Gm re.length Gd)
 simp only [List.set_cons_zero] at pGM
 replace bw:=Zb bw hbb
 replace p0:=p0.below hbb
 replace p1:=p1.below hbb
 replace pSR:=pSR.below hbb
 replace pSM:=pSM.below hbb
 replace qS:=Zp qS hbb
 replace tS:=tS.below hbb
 replace pX:=pX.below hbb
 replace hXt:=hXt.below hbb
 replace hc0:=hc0.below hbb
 replace pY:=pY.below hbb
 replace hMt:=hMt.below hbb
 replace qG:=Zp qG hbb
 replace tG:=tG.below hbb
 go_upto_region 12 with fail
 clear s0 fs hbb
 generalize (wIr.setCell ⟨YG,0,none⟩ (.slice Gm re.length Gd))=wIx at *
 clear u0 u1
 have lT:T≤XG:=by omega
 have lT':T≤YG:=by omega
 generalize hTGe:wI.heap.size=TGG at *
 generalize hBGe:wu.heap.size=BG at *
 clear hTGe hBGe
 have hNT:NS≤BG:=by omega
 have hk3:∃ km:Nat,(1:Int)+(bz.length:Int)*3=(km:Int)∧0<km∧km≤1000000:=⟨1+bz.length*3,by omega,by omega,by omega⟩
 obtain ⟨km,hk3,hk4,hk5⟩:=hk3
 have HK3:Hid ((1:Int)+(bz.length:Int)*3=(km:Int)):=hk3
 clear hk3
 have e0:=pGR.cell 0
 have e1:=pGR.cell 1
 have e2:=pSR.cell 0
 have e3:=pSR.cell 1
 simp only [List.getElem?_cons_zero,List.getElem?_cons_succ] at e0 e1 e2 e3
 go_wp2_with fail
 clear e0 e1 e2 e3
 refine (Vb Ga Sa bz.length Gc Sc (nz:Int) bz _ (Xy qG hfit) (Xy qS hfit)).mono ?_
 rintro e vv1 ⟨rfl,hb⟩
 replace bw:=Zb bw hb
 replace p0:=p0.below hb
 replace p1:=p1.below hb
 replace pSR:=pSR.below hb
 replace pSM:=pSM.below hb
 replace qS:=Zp qS hb
 replace tS:=tS.below hb
 replace pX:=pX.below hb
 replace hXt:=hXt.below hb
 replace hc0:=hc0.below hb
 replace pY:=pY.below hb
 replace hMt:=hMt.below hb
 replace qG:=Zp qG hb
 replace tG:=tG.below hb
 replace pGR:=pGR.below hb
 replace pGM:=pGM.below hb
 clear hb
 have e4:=pGM.cell 0
 have e5:=pSM.cell 0
 simp only [List.getElem?_cons_zero] at e4 e5
 go_wp2_with fail
 clear e4 e5
 refine (WW _ _ _ _ _ re _ (tG.own.ents hre) (tS.own.ents hre)).mono ?_
 rintro e uu1 ⟨rfl,hb⟩
 replace bw:=Zb bw hb
 replace p0:=p0.below hb
 replace p1:=p1.below hb
 replace pSR:=pSR.below hb
 replace pSM:=pSM.below hb
 replace qS:=Zp qS hb
 replace tS:=tS.below hb
 replace pX:=pX.below hb
 replace hXt:=hXt.below hb
 replace hc0:=hc0.below hb
 replace pY:=pY.below hb
 replace hMt:=hMt.below hb
 replace qG:=Zp qG hb
 replace tG:=tG.below hb
 replace pGR:=pGR.below hb
 replace pGM:=pGM.below hb
 clear hb
 have u0:=pX.cell 0
 have u1:=p0.cell 0
 simp only [List.getElem?_cons_zero] at u0 u1
 go_wp2_with fail
 have hP:Z1 uu1.drew a0 n0 c0 r0:=h0.below (Zb bw (by go_grown))
 have hV9:Z1 uu1.drew (some ⟨gx,0,none⟩) n0 n0 r0:=hc0.below (by go_grown)
 have c8:(fun w':World=>w'.cell? ⟨TX,0,none⟩=some (.slice (some ⟨gx,0,none⟩) n0 n0)∧w'.cell? ⟨w.heap.size,0,none⟩=some (.slice a0 n0 c0)) uu1:=⟨u0,u1⟩
 clear u0 u1
 go_region_held3 (fun w'=>w'.cell? ⟨TX,0,none⟩=some (.slice (some ⟨gx,0,none⟩) n0 n0)∧w'.cell? ⟨w.heap.size,0,none⟩=some (.slice a0 n0 c0)) (first | (exact c8) | (exact c9) | (exact ⟨Za hl _ _ c9.1,Za hl _ _ c9.2⟩))
  (first | (go_at_call 12;refine (kT _ hP).mono ?_;rintro e wu9 ⟨rfl,hOk,hk⟩;have hD:=hV9.below hk;have c9:=(show (fun w':World=>w'.cell? ⟨TX,0,none⟩=some (.slice (some ⟨gx,0,none⟩) n0 n0)∧w'.cell? ⟨w.heap.size,0,none⟩=some (.slice a0 n0 c0)) wu9 from ⟨Za hk _ _ c8.1,Za hk _ _ c8.2⟩)) | (go_at_call 17;refine (Rp _ _ _ _ _ r0 _ hD hOk.codes).mono ?_;rintro e wl ⟨rfl,hl⟩))
 have hb:Below uu1.heap.size uu1 wl:=Zb (by go_grown) (Zb hk hl)
 replace bw:=Zb bw hb
 replace p0:=p0.below hb
 replace p1:=p1.below hb
 replace pSR:=pSR.below hb
 replace pSM:=pSM.below hb
 replace qS:=Zp qS hb
 replace tS:=tS.below hb
 replace pX:=pX.below hb
 replace hXt:=hXt.below hb
 replace hc0:=hc0.below hb
 replace pY:=pY.below hb
 replace hMt:=hMt.below hb
 replace qG:=Zp qG hb
 replace tG:=tG.below hb
 replace pGR:=pGR.below hb
 replace pGM:=pGM.below hb
 clear hb hk hl hD hOk c8 c9 hP hV9 hc0
 have u0:=pY.cell 0
 have u1:=p1.cell 0
 simp only [List.getElem?_cons_zero] at u0 u1
 go_wp2_with fail
 have hP:XF wl.drew a1 n1 c1 z1:=h1.below (Zb bw (by go_grown))
 have hV9:XF wl.drew (some ⟨gm,0,none⟩) n1 n1 z1:=(hMt.own.ents f1).below (by go_grown)
 have c8:(fun w':World=>w'.cell? ⟨TM,0,none⟩=some (.slice (some ⟨gm,0,none⟩) n1 n1)∧w'.cell? ⟨w.heap.size+1,0,none⟩=some (.slice a1 n1 c1)) wl:=⟨u0,u1⟩
 clear u0 u1
 go_region_held3 (fun w'=>w'.cell? ⟨TM,0,none⟩=some (.slice (some ⟨gm,0,none⟩) n1 n1)∧w'.cell? ⟨w.heap.size+1,0,none⟩=some (.slice a1 n1 c1)) (first | (exact c8) | (exact c9) | (exact ⟨Za hl _ _ c9.1,Za hl _ _ c9.2⟩))
  (first | (go_at_call 13;refine (kU _ hP).mono ?_;rintro e wu9 ⟨rfl,hOk,hk⟩;have hD:=hV9.below hk;have c9:=(show (fun w':World=>w'.cell? ⟨TM,0,none⟩=some (.slice (some ⟨gm,0,none⟩) n1 n1)∧w'.cell? ⟨w.heap.size+1,0,none⟩=some (.slice a1 n1 c1)) wu9 from ⟨Za hk _ _ c8.1,Za hk _ _ c8.2⟩)) | (go_at_call 16;refine (WW _ _ _ _ _ z1 _ hD (hOk.ents f1)).mono ?_;rintro e wm ⟨rfl,hl⟩))
 have hb:Below wl.heap.size wl wm:=Zb (by go_grown) (Zb hk hl)
 replace bw:=Zb bw hb
 replace p0:=p0.below hb
 replace p1:=p1.below hb
 replace pSR:=pSR.below hb
 replace pSM:=pSM.below hb
 replace qS:=Zp qS hb
 replace tS:=tS.below hb
 replace pX:=pX.below hb
 replace hXt:=hXt.below hb
 replace pY:=pY.below hb
 replace hMt:=hMt.below hb
 replace qG:=Zp qG hb
 replace tG:=tG.below hb
 replace pGR:=pGR.below hb
 replace pGM:=pGM.below hb
 clear hb hk hl hD hOk c8 c9 hP hV9
 have u0:=pX.cell 0
 simp only [List.getElem?_cons_zero] at u0
 have hgX:gx≤wm.heap.size:=by have:=pX.lt;omega
 go_wp2_with fail
 clear u0
 refine (SO gx TX _ 1 r0 _ (by omega) (by omega) hcl hcj HRJ.out hgX hXt).mono ?_
 rintro e m0 ⟨rfl,hm⟩
 replace bw:Below w.heap.size w m0:=bw.trans (hm.1.mono (by omega))
 replace p0:=p0.belowB hm.1 (by omega)
 replace p1:=p1.belowB hm.1 (by omega)
 replace pSR:=pSR.belowB hm.1 (by omega)
 replace pSM:=pSM.belowB hm.1 (by omega)
 replace qS:=Xe qS (fun x hx=>Nat.lt_of_lt_of_le (bS x hx) hNg) hm.1
 replace tS:=tS.under hm.1 hNg
 replace pY:=hm.blk pY (by omega)
 replace hMt:=hMt.mid hm (by omega)
 replace pGR:=hm.blk pGR (by omega)
 replace pGM:=hm.blk pGM (by omega)
 replace qG:=hm.owns qG (by omega)
 replace tG:=tG.mid hm (by omega)
 clear hm pX hXt hgX
 obtain ⟨kc,hkc,hkb,hk1⟩:∃ kc:Nat,(1:Int)+(Y4 r0 r0.length:Int)=(kc:Int)∧kc≤10000001∧0<kc:=⟨1+Y4 r0 r0.length,by omega,by omega,by omega⟩
 rw [hkc]
 clear hkc hcl hcj HRJ
 have u0:=pY.cell 0
 simp only [List.getElem?_cons_zero] at u0
 have hsz:gm≤m0.heap.size:=by have:=pY.lt;omega
 go_wp2_with fail
 clear u0
 refine (Tf gm TM _ kc z1 _ hk1 (by omega) hcj1 HRL1.out hsz hMt).mono ?_
 rintro e m9 ⟨rfl,_,hm⟩
 replace bw:Below w.heap.size w m9:=bw.trans (hm.1.mono (by omega))
 replace p0:=p0.belowB hm.1 (by omega)
 replace p1:=p1.belowB hm.1 (by omega)
 replace pSR:=pSR.belowB hm.1 (by omega)
 replace pSM:=pSM.belowB hm.1 (by omega)
 replace qS:=Xe qS (fun x hx=>Nat.lt_of_lt_of_le (bS x hx) (by omega)) hm.1
 replace tS:=tS.under hm.1 (by omega)
 replace pGR:=hm.blk pGR (by omega)
 replace pGM:=hm.blk pGM (by omega)
 replace qG:=hm.owns qG (by omega)
 replace tG:=tG.mid hm (by omega)
 clear hm pY hMt hsz
 have hck:=hcj1 z1.length (Nat.le_refl _)
 have hkk:decide ((kc:Int)+(ZA z1 z1.length:Int)<0)=false:=by simp;omega
 have e0:=pGR.cell 0
 have e1:=pGR.cell 1
 have e2:=pSR.cell 0
 have e3:=pSR.cell 1
 simp only [List.getElem?_cons_zero,List.getElem?_cons_succ] at e0 e1 e2 e3
 go_wp2_with fail
 clear e0 e1 e2 e3
 refine (Vb Ga Sa bz.length Gc Sc (nz:Int) bz _ (Xy qG hfit) (Xy qS hfit)).mono ?_
 rintro e vv2 ⟨rfl,hb⟩
 replace bw:=Zb bw hb
 replace p0:=p0.below hb
 replace p1:=p1.below hb
 replace pSR:=pSR.below hb
 replace pSM:=pSM.below hb
 replace qS:=Zp qS hb
 replace tS:=tS.below hb
 replace qG:=Zp qG hb
 replace tG:=tG.below hb
 replace pGR:=pGR.below hb
 replace pGM:=pGM.below hb
 clear hb
 have e4:=pGM.cell 0
 have e5:=pSM.cell 0
 simp only [List.getElem?_cons_zero] at e4 e5
 go_wp2_with fail
 clear e4 e5
 refine (WW _ _ _ _ _ re _ (tG.own.ents hre) (tS.own.ents hre)).mono ?_
 rintro e uu2 ⟨rfl,hb⟩
 replace bw:=Zb bw hb
 replace p0:=p0.below hb
 replace p1:=p1.below hb
 replace pSR:=pSR.below hb
 replace pSM:=pSM.below hb
 replace qS:=Zp qS hb
 replace tS:=tS.below hb
 replace qG:=Zp qG hb
 replace tG:=tG.below hb
 replace pGR:=pGR.below hb
 replace pGM:=pGM.below hb
 clear hb
 clear hkk
 have e0:=pGR.cell 0
 have e1:=pGR.cell 1
 simp only [List.getElem?_cons_zero,List.getElem?_cons_succ] at e0 e1
 have hsz:BG≤uu2.heap.size:=by have:=pGR.lt;omega
 have kx:=RI BG T Ga Gc (nz:Int) 1 bz uu2 (by omega) (by omega) (by omega) qG hsz tbT
 rw [HK3.out] at kx
 go_wp2_with fail
 clear e0 e1
 refine kx.mono ?_
 rintro e m1 ⟨rfl,qG1,hm⟩
 replace bw:Below w.heap.size w m1:=bw.trans (hm.1.mono (by omega))
 replace p0:=p0.belowB hm.1 (by omega)
 replace p1:=p1.belowB hm.1 (by omega)
 replace pSR:=pSR.belowB hm.1 (by omega)
 replace pSM:=pSM.belowB hm.1 (by omega)
 replace qS:=Xe qS (fun x hx=>Nat.lt_of_lt_of_le (bS x hx) hNT) hm.1
 replace tS:=tS.under hm.1 hNT
 replace pGR:=hm.blk pGR (by omega)
 replace pGM:=hm.blk pGM (by omega)
 replace tG:=tG.mid hm (Nat.le_refl _)
 clear hm kx qG hsz
 have e4:=pGM.cell 0
 simp only [List.getElem?_cons_zero] at e4
 have hsz:T≤m1.heap.size:=by have:=pGR.lt;omega
 have kx:=Tf T TGG _ km re m1 hk4 (by omega) hrc hrl hsz tG
 go_wp2_with fail
 clear e4
 refine kx.mono ?_
 rintro e m2 ⟨rfl,tG2,hm⟩
 replace bw:Below w.heap.size w m2:=bw.trans (hm.1.mono (by omega))
 replace p0:=p0.belowB hm.1 (by omega)
 replace p1:=p1.belowB hm.1 (by omega)
 replace pSR:=pSR.belowB hm.1 (by omega)
 replace pSM:=pSM.belowB hm.1 (by omega)
 replace qS:=Xe qS (fun x hx=>Nat.lt_of_lt_of_le (bS x hx) (Nat.le_trans hNT hbG)) hm.1
 replace tS:=tS.under hm.1 (Nat.le_trans hNT hbG)
 replace qG1:=Xe qG1 tbT hm.1
 replace pGR:=hm.blk pGR (by omega)
 replace pGM:=hm.blk pGM (by omega)
 clear hm kx tG hsz
 have hq0:decide ((km:Int)<0)=false:=by simp
 have hq1:decide ((km:Int)+(ZA re re.length:Int)<0)=false:=by simp;omega
 have hq2:((km:Int)+(ZA re re.length:Int) != (km:Int)+(ZA re re.length:Int))=false:=by simp
 have e0:=pGR.cell 0
 have e1:=pGR.cell 1
 simp only [List.getElem?_cons_zero,List.getElem?_cons_succ] at e0 e1
 have kx:=VU BG Ga Gc (nz:Int) 1 bz m2 (by omega) (by omega) (by omega) qG1
 rw [HK3.out] at kx
 go_wp2_with fail
 clear e0 e1
 refine kx.mono ?_
 rintro e h1a ⟨rfl,hb⟩
 replace bw:=Zb bw hb
 replace p0:=p0.below hb
 replace p1:=p1.below hb
 replace pSR:=pSR.below hb
 replace pSM:=pSM.below hb
 replace qS:=Zp qS hb
 replace tS:=tS.below hb
 replace pGR:=pGR.below hb
 replace pGM:=pGM.below hb
 replace qG1:=Zp qG1 hb
 replace tG2:=tG2.below hb
 clear hb kx
 have e4:=pGM.cell 0
 simp only [List.getElem?_cons_zero] at e4
 have kx:=UU T _ km re h1a hk4 (by omega) hrc hrl tG2.own
 go_wp2_with fail
 clear e4
 refine kx.mono ?_
 rintro e h1b ⟨rfl,hb⟩
 replace bw:=Zb bw hb
 replace p0:=p0.below hb
 replace p1:=p1.below hb
 replace pSR:=pSR.below hb
 replace pSM:=pSM.below hb
 replace qS:=Zp qS hb
 replace tS:=tS.below hb
 replace pGR:=pGR.below hb
 replace pGM:=pGM.below hb
 replace qG1:=Zp qG1 hb
 replace tG2:=tG2.below hb
 clear hb kx
 have g0:=p0.cell 0
 have g1:=p1.cell 0
 simp only [List.getElem?_cons_zero] at g0 g1
 go_wp2_with fail
 go_cut [17,18,19] from 20 (fun sA sB sC W=>JF h1b bz nz re cz sA sB sC W)
 case first =>
  rename_i K9 hK9 J9 K8 hJ8 hM8
  clear hK9
  as_aux_lemma =>
   refine wp_region_held_drew (S:=(fun w'=>w'.cell? ⟨w.heap.size,0,none⟩=some (.slice a0 n0 c0)∧w'.cell? ⟨w.heap.size+1,0,none⟩=some (.slice a1 n1 c1))) (by kernel_rfl) ⟨g0,g1⟩ (fun hS0=>?_)
   have bq:Below h1b.heap.size h1b h1b.drew:=by go_grown
   generalize h1b.drew=V at *
   refine tkm 0 120 (.agg #[.slice a0 n0 c0]) ?_
   refine tkm 2 122 (.agg #[.slice a1 n1 c1]) ?_
   iterate 5
    all_goals first
     | refine ZV [1] (by decide +kernel) ?_
     | refine ZV [3] (by decide +kernel) ?_
     | refine ZV [4] (by decide +kernel) ?_
     | refine ZV [9] (by decide +kernel) ?_
     | refine ZV [10] (by decide +kernel) ?_
     | refine ZV [1,9] (by decide +kernel) ?_
     | refine ZV [1,10] (by decide +kernel) ?_
     | refine ZV [3,9] (by decide +kernel) ?_
     | refine ZV [3,10] (by decide +kernel) ?_
     | refine ZV [4,9] (by decide +kernel) ?_
     | refine ZV [4,10] (by decide +kernel) ?_
     | refine ZV [9,10] (by decide +kernel) ?_
     | refine ZV [1,9,10] (by decide +kernel) ?_
     | refine ZV [3,9,10] (by decide +kernel) ?_
     | refine ZV [4,9,10] (by decide +kernel) ?_
    all_goals repeat' first
     | exact AllReadyH.nil
     | refine AllReadyH.cons (o:=⟨some 121,_,_,_,_,_⟩) rfl (fun K hK=>?_) ?_
     | refine AllReadyH.cons (o:=⟨some 123,_,_,_,_,_⟩) rfl (fun K hK=>?_) ?_
     | refine AllReadyH.cons (o:=⟨some 124,_,_,_,_,_⟩) rfl (fun K hK=>?_) ?_
     | refine AllReadyH.cons (o:=⟨some 17,_,_,_,_,_⟩) rfl (fun K hK=>?_) ?_
     | refine AllReadyH.cons (o:=⟨some 18,_,_,_,_,_⟩) rfl (fun K hK=>?_) ?_
    all_goals first
     | (
       go_simp
       refine (kT _ (h0.below (Zb bw bq))).mono ?_
       rintro e V ⟨rfl,hO,hq⟩
       have hc:=hO.codes
       clear hO
       (try replace pX:=pX.below hq)
       (try replace pY:=pY.below hq)
       replace bq:=Zb bq hq
       go_wp2_with fail
       refine hK.out _ _ ⟨Za hq _ _ hS0.1,Za hq _ _ hS0.2⟩ (fun hS0=>?_)
       clear hK hq)
     | (
       go_simp
       refine (kU _ (h1.below (Zb bw bq))).mono ?_
       rintro e V ⟨rfl,hO,hq⟩
       have hm9:=Yo.lower hO (Nat.zero_le _)
       clear hO
       replace hc:=hc.below hq
       (try replace pX:=pX.below hq)
       (try replace pY:=pY.below hq)
       replace bq:=Zb bq hq
       go_wp2_with fail
       refine hK.out _ _ ⟨Za hq _ _ hS0.1,Za hq _ _ hS0.2⟩ (fun hS0=>?_)
       clear hK hq)
     | (
       go_simp
       refine (kI _ _ _ _ _ hc hm9 (hG.below (Zb bw bq))).mono ?_
       rintro e V ⟨⟨vb,vm,T9,rfl,q9,tb9,h9,tl9⟩,hq⟩
       clear tb9 tl9
       obtain ⟨xa,xc,rfl⟩:=ZH q9
       obtain ⟨xm,xd,rfl⟩:=h9.slice9
       replace q9:=ZT q9 (Nat.zero_le _)
       replace h9:=Yo.lower h9 (Nat.zero_le _)
       clear hc hm9
       (try replace pX:=pX.below hq)
       (try replace pY:=pY.below hq)
       replace bq:=Zb bq hq
       go_wp2_with fail
       refine hK.out _ _ ⟨Za hq _ _ hS0.1,Za hq _ _ hS0.2⟩ (fun hS0=>?_)
       clear hK hq
       refine tkm 5 119 (.tuple #[.agg #[.slice xa bz.length xc,.int .i64 (nz:Int)],.agg #[.slice xm re.length xd],.int .i64 cz]) ?_
       refine tkm 6 125 (.agg #[.slice xa bz.length xc,.int .i64 (nz:Int)]) ?_
       refine tkm 7 126 (.agg #[.slice xm re.length xd]) ?_
       refine tky 8 127 (.int .i64 cz) ?_
       simp only [Act.put,tka,tkb,tkc])
     | (
       go_simp
       have hq:Below V.heap.size V (V.alloc (.cells #[.slice none 0 0,.int .i64 0] 44)):=by go_grown
       have pX:=Blk.new V 44 [.slice none 0 0,.int .i64 0]
       obtain ⟨X,hX⟩:∃ X,X=V.heap.size:=⟨_,rfl⟩
       (try have hXY:X≠Y:=by have:=pY.lt;omega)
       have lX:h1b.heap.size≤X:=by rw [hX];exact bq.size
       rw [← hX] at pX
       (try replace pY:=pY.below hq)
       (try replace hc:=hc.below hq)
       (try replace hm9:=hm9.below hq)
       (try replace q9:=Zp q9 hq)
       (try replace h9:=h9.below hq)
       replace bq:=Zb bq hq
       refine hK.out _ (V.alloc (.cells #[.slice none 0 0,.int .i64 0] 44)) ⟨Za hq _ _ hS0.1,Za hq _ _ hS0.2⟩ (fun hS0=>?_)
       rw [← hX]
       clear hK hq hX
       try simp only [Act.put,tka,tkb,tkc]
       generalize (V.alloc (.cells #[.slice none 0 0,.int .i64 0] 44))=V at *)
     | (
       go_simp
       have hq:Below V.heap.size V (V.alloc (.cells #[.slice none 0 0] 47)):=by go_grown
       have pY:=Blk.new V 47 [.slice none 0 0]
       obtain ⟨Y,hY⟩:∃ Y,Y=V.heap.size:=⟨_,rfl⟩
       (try have hXY:X≠Y:=by have:=pX.lt;omega)
       have lY:h1b.heap.size≤Y:=by rw [hY];exact bq.size
       rw [← hY] at pY
       (try replace pX:=pX.below hq)
       (try replace hc:=hc.below hq)
       (try replace hm9:=hm9.below hq)
       (try replace q9:=Zp q9 hq)
       (try replace h9:=h9.below hq)
       replace bq:=Zb bq hq
       refine hK.out _ (V.alloc (.cells #[.slice none 0 0] 47)) ⟨Za hq _ _ hS0.1,Za hq _ _ hS0.2⟩ (fun hS0=>?_)
       rw [← hY]
       clear hK hq hY
       try simp only [Act.put,tka,tkb,tkc]
       generalize (V.alloc (.cells #[.slice none 0 0] 47))=V at *)
   all_goals
    refine tkz 11 (fun K hK=>?_)
    refine Zl rfl 44 _ _ rfl X [.slice xa bz.length xc,.int .i64 (nz:Int)] rfl rfl pX (by kernel_rfl) rfl rfl ?_
    intro V8 p8 g8
    have hw:w.heap.size+1<X:=by have:=p1.lt;omega
    have hy:w.heap.size+1<Y:=by have:=p1.lt;omega
    refine hK.out _ _ ⟨Zn g8 hS0.1 (fun e=>by injection e with e9;dsimp only at e9;omega),Zn g8 hS0.2 (fun e=>by injection e with e9;dsimp only at e9;omega)⟩ (fun hS0=>?_)
    clear hK
    try simp only [Act.put,tka,tkb,tkc]
    replace q9:=q9.kept g8 (.inr (Zo q9 pX (by decide)))
    replace h9:=h9.keptV g8 pX (by decide) (by decide) (by decide)
    replace pY:=pY.kept g8 (by simpa using hXY)
    replace bq:=bq.grown g8 bq.size (fun k hk=>by cases hk;exact lX)
    replace pX:=p8.out
    clear p8 g8
    refine tkz 12 (fun K hK=>?_)
    refine Zl rfl 47 _ _ rfl Y [.slice xm re.length xd] rfl rfl pY (by kernel_rfl) rfl rfl ?_
    intro V9 p9 g9
    refine hK.out _ _ ⟨Zn g9 hS0.1 (fun e=>by injection e with e9;dsimp only at e9;omega),Zn g9 hS0.2 (fun e=>by injection e with e9;dsimp only at e9;omega)⟩ (fun hS0=>?_)
    clear hK
    try simp only [Act.put,tka,tkb,tkc]
    replace q9:=q9.kept g9 (.inr (Zo q9 pY (by decide)))
    replace h9:=h9.keptV g9 pY (by decide) (by decide) (by decide)
    replace pX:=pX.kept g9 (by simpa using fun e:Y=X=>hXY e.symm)
    replace bq:=bq.grown g9 bq.size (fun k hk=>by cases hk;exact lY)
    replace pY:=p9.out
    clear p9 g9
    refine tkm 13 19 (.int .i64 cz) ?_
    refine wpAnyH_done (by kernel_rfl) ?_ _
    go_wp2_with fail
    go_meet
    case rel=>exact ⟨X,Y,xa,xc,xm,xd,rfl,rfl,rfl,pX,pY,q9,h9,bq,lX,lY,hXY⟩
 obtain ⟨XH,YH,Ha,Hc,Hm,Hd,rfl,rfl,rfl,pHR,pHM,qH,hH,hbr,lXH,lYH,hXYH⟩:=hcut
 rename World=>wHx
 clear kI g0 g1
 replace bw:=Zb bw hbr
 replace p0:=p0.below hbr
 replace p1:=p1.below hbr
 replace pSR:=pSR.below hbr
 replace pSM:=pSM.below hbr
 replace qS:=Zp qS hbr
 replace tS:=tS.below hbr
 replace pGR:=pGR.below hbr
 replace pGM:=pGM.below hbr
 replace qG1:=Zp qG1 hbr
 replace tG2:=tG2.below hbr
 clear hbr
 have e0:=pHR.cell 0
 have e1:=pHR.cell 1
 have e2:=pSR.cell 0
 have e3:=pSR.cell 1
 simp only [List.getElem?_cons_zero,List.getElem?_cons_succ] at e0 e1 e2 e3
 go_wp2_with fail
 clear e0 e1 e2 e3
 refine (Vb Ha Sa bz.length Hc Sc (nz:Int) bz _ (Xy qH hfit) (Xy qS hfit)).mono ?_
 rintro e vv3 ⟨rfl,hb⟩
 replace bw:=Zb bw hb
 replace p0:=p0.below hb
 replace p1:=p1.below hb
 replace pSR:=pSR.below hb
 replace pSM:=pSM.below hb
 replace qS:=Zp qS hb
 replace tS:=tS.below hb
 replace pGR:=pGR.below hb
 replace pGM:=pGM.below hb
 replace qG1:=Zp qG1 hb
 replace tG2:=tG2.below hb
 replace qH:=Zp qH hb
 replace hH:=hH.below hb
 replace pHR:=pHR.below hb
 replace pHM:=pHM.below hb
 clear hb
 have e4:=pHM.cell 0
 have e5:=pSM.cell 0
 simp only [List.getElem?_cons_zero] at e4 e5
 go_wp2_with fail
 clear e4 e5
 refine (WW _ _ _ _ _ re _ (hH.ents hre) (tS.own.ents hre)).mono ?_
 rintro e uu3 ⟨rfl,hb⟩
 replace bw:=Zb bw hb
 replace p0:=p0.below hb
 replace p1:=p1.below hb
 replace pSR:=pSR.below hb
 replace pSM:=pSM.below hb
 replace qS:=Zp qS hb
 replace tS:=tS.below hb
 replace pGR:=pGR.below hb
 replace pGM:=pGM.below hb
 replace qG1:=Zp qG1 hb
 replace tG2:=tG2.below hb
 replace qH:=Zp qH hb
 replace hH:=hH.below hb
 replace pHR:=pHR.below hb
 replace pHM:=pHM.below hb
 clear hb
 clear qH hH pHR pHM
 have e0:=pGR.cell 0
 have e1:=pGR.cell 1
 simp only [List.getElem?_cons_zero,List.getElem?_cons_succ] at e0 e1
 have kx:=VU BG Ga Gc (nz:Int) 1 bz uu3 (by omega) (by omega) (by omega) qG1
 rw [HK3.out] at kx
 go_wp2_with fail
 clear e0 e1
 refine kx.mono ?_
 rintro e h2a ⟨rfl,hb⟩
 replace bw:=Zb bw hb
 replace p0:=p0.below hb
 replace p1:=p1.below hb
 replace pSR:=pSR.below hb
 replace pSM:=pSM.below hb
 replace qS:=Zp qS hb
 replace tS:=tS.below hb
 replace pGR:=pGR.below hb
 replace pGM:=pGM.below hb
 replace qG1:=Zp qG1 hb
 replace tG2:=tG2.below hb
 clear hb kx
 have e4:=pGM.cell 0
 simp only [List.getElem?_cons_zero] at e4
 have kx:=UU T _ km re h2a hk4 (by omega) hrc hrl tG2.own
 go_wp2_with fail
 clear e4
 refine kx.mono ?_
 rintro e h2b ⟨rfl,hb⟩
 replace bw:=Zb bw hb
 replace p0:=p0.below hb
 replace p1:=p1.below hb
 replace pSR:=pSR.below hb
 replace pSM:=pSM.below hb
 replace qS:=Zp qS hb
 replace tS:=tS.below hb
 replace pGR:=pGR.below hb
 replace pGM:=pGM.below hb
 replace qG1:=Zp qG1 hb
 replace tG2:=tG2.below hb
 clear hb kx
 go_wp2
 go_ret
 exact ⟨rfl,bw⟩
end Go.Proofs.YtmhlokahmblboaaGreatDoor
