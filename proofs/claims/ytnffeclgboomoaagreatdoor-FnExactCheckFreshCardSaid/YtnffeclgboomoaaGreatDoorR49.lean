/-
  Joined: CfrI, CfrW, VmLaid, CfrE, Vars.
-/
import Derived.Test.YtnffeclgboomoaaGreatDoorRows
import Derived.ProofKit
import Derived.OpenShut
import Derived.LaidMore
import Derived.MakeChecks
import Derived.Stop.LaidErr
import Derived.WalkSmall
import Derived.ChangeOld
import Derived.Test.YtnffeclgboomoaaGreatDoorR48

namespace Go.Proofs.YtnffeclgboomoaaGreatDoor
set_option maxRecDepth 100000
set_option maxHeartbeats 16000000
open Go.RowKit
set_option linter.unusedVariables false
set_option linter.unusedSimpArgs false

theorem UQ (a:Option Addr) (len cap:Nat) (rows:List (List I3)) (am:Option Addr) (n c:Nat) (L:List EQ) (w:World) (hC:Z8 w a len cap rows) (hA:Xo w am n c L) (hgd:∀ x ∈ L,VH x.2.1.1 x.2.1.2.2) (hV:Z0 w) :
  Calls Tryz.prog 24 #[.agg #[.slice a len cap],.agg #[.slice am n c]] w fun x w'=>Xs x w' w.heap.size (agB rows (L.map (·.1))) (agN rows (L.map (·.1))) (agE rows (L.map (·.1))) (agC rows (L.map (·.1)))∧Below w.heap.size w w':=by
 cases hp:Zq rows
 ·obtain ⟨e1,e2,e3,e4⟩:=NZ (rows:=rows) (es:=L.map (·.1)) (fun h=>by rw [h.1] at hp;cases hp)
  rw [e1,e2,e3,e4]
  exact Uw a len cap rows am n c w hC hV hp
 exact UR a len cap rows am n c L w hC hA hgd hV hp
theorem K1 (rows:List (List I3)):agB rows []=Ul rows∧agN rows []=UL rows∧agE rows []=Uv rows∧agC rows []=WV rows:=by
 have hC:agC rows []=WV rows:=by
  unfold agC WV agR TM
  by_cases h:Zq rows=true
  ·rw [if_pos ⟨h,rfl⟩,if_pos h]
  rw [if_neg (fun h9=>h h9.1),if_neg h]
 unfold agB agN agE Ul UL Uv
 rw [hC]
 exact ⟨rfl,rfl,rfl,rfl⟩
theorem US (a:Option Addr) (len cap:Nat) (rows:List (List I3)) (w:World) (hC:Z8 w a len cap rows) (hV:Z0 w) :
  Calls Tryz.prog 12 #[.agg #[.slice a len cap]] w fun x w'=>Xs x w' w.heap.size (Ul rows) (UL rows) (Uv rows) (WV rows)∧Below w.heap.size w w':=by
 have kA:=fun W (hb:Below w.heap.size w W)=>UQ a len cap rows none 0 0 [] W (hC.below hb) (N9 W) (fun x hx=>by cases hx) (hV.below hb)
 obtain ⟨e1,e2,e3,e4⟩:=K1 rows
 simp only [List.map_nil,e1,e2,e3,e4] at kA
 clear e1 e2 e3 e4
 generalize Ul rows=bz at *
 generalize UL rows=nz at *
 generalize Uv rows=ez at *
 generalize WV rows=cz at *
 have bw:Below w.heap.size w (((w.alloc (.cells #[.slice a len cap] 25)).alloc (.cells #[.slice none 0 0,.int .i64 0] 30)).alloc (.cells #[.slice none 0 0] 33)):=by go_grown
 have pP:Blk (((w.alloc (.cells #[.slice a len cap] 25)).alloc (.cells #[.slice none 0 0,.int .i64 0] 30)).alloc (.cells #[.slice none 0 0] 33)) w.heap.size 25 [.slice a len cap]:=Zi _ (Zi _ (Zj _ _ _ rfl))
 have pR:Blk (((w.alloc (.cells #[.slice a len cap] 25)).alloc (.cells #[.slice none 0 0,.int .i64 0] 30)).alloc (.cells #[.slice none 0 0] 33)) (w.heap.size+1) 30 [.slice none 0 0,.int .i64 0]:=Zi _ (Zj _ _ _ (by simp))
 have pT:Blk (((w.alloc (.cells #[.slice a len cap] 25)).alloc (.cells #[.slice none 0 0,.int .i64 0] 30)).alloc (.cells #[.slice none 0 0] 33)) (w.heap.size+1+1) 33 [.slice none 0 0]:=Zj _ _ _ (by simp)
 go_enter Tryz.func12,Tryz.ntmps12
 go_wp2_with fail
 generalize (((w.alloc (.cells #[.slice a len cap] 25)).alloc (.cells #[.slice none 0 0,.int .i64 0] 30)).alloc (.cells #[.slice none 0 0] 33))=U at *
 obtain ⟨XT,hXT⟩:∃ XT,XT=w.heap.size+1+1:=⟨_,rfl⟩
 obtain ⟨XR,hXR⟩:∃ XR,XR=w.heap.size+1:=⟨_,rfl⟩
 rw [← hXT] at pT ⊢
 rw [← hXR] at pR ⊢
 have hXRw:w.heap.size<XR:=by omega
 have hXTw:XR<XT:=by omega
 clear hXR hXT
 have kx:=kA U bw
 have c0:=pP.cell 0
 simp only [List.getElem?_cons_zero] at c0
 go_wp2_with fail
 refine kx.mono ?_
 rintro e w1 ⟨⟨vb,vm,T9,rfl,hbug,hTb,hOM,hTl⟩,hb⟩
 replace pR:=pR.below hb
 replace pT:=pT.below hb
 replace hbug:=Z4 hbug bw.size
 have hTl2:=Nat.le_trans bw.size hTl
 have bz9:=Zb bw hb
 clear kx kA hb bw pP c0
 obtain ⟨ba,bc,rfl⟩:=ZH hbug
 obtain ⟨ma,mn,mc,rfl⟩:∃ ma mn mc,vm=.slice ma mn mc:=by
  obtain ⟨cs9,ho9,_⟩:=hOM
  exact Vw ho9
 go_wp2_with (refine Zd rfl 30 _ _ rfl XR [.slice ba bz.length bc,.int .i64 (nz:Int)] rfl rfl pR (by kernel_rfl) rfl rfl ?_)
 intro w2 p2 g2
 have pR2:=p2.out
 have pT2:=pT.kept g2 (fun e=>Y2 pR pT (by decide) (by cases e;rfl))
 have hOM2:=hOM.keptV g2 pR (by decide) (by decide) (by decide)
 have hbug2:=World.ownsRow.kept hbug g2 (.inr (Zp hbug pR (by decide)))
 have b2:=bz9.grown g2 bz9.size (fun q e=>by cases e;omega)
 clear p2 g2 hOM hbug bz9 pR pT
 have hne:XR≠XT:=by omega
 have s0:=pT2.cell 0
 have fs:=pT2.frozen 0
 have t0:=(pT2.set 0 (.slice ma mn mc)).cell 0
 have q0:=(pR2.off ⟨XT,0,none⟩ (.slice ma mn mc) hne).cell 0
 have q1:=(pR2.off ⟨XT,0,none⟩ (.slice ma mn mc) hne).cell 1
 simp only [List.set_cons_zero,List.getElem?_cons_zero,List.getElem?_cons_succ] at s0 t0 q0 q1
 have gS:=Xi w2 XT 0 (.slice ma mn mc)
 have hOM3:=hOM2.keptV gS pT2 (by decide) (by decide) (by decide)
 have hbug3:=World.ownsRow.kept hbug2 gS (.inr (Zp hbug2 pT2 (by decide)))
 have b3:=b2.grown gS b2.size (fun q e=>by cases e;omega)
 have HG:Hid (Xs (.returned (.tuple #[.agg #[.slice ba bz.length bc,.int .i64 (nz:Int)],.agg #[.slice ma mn mc],.int .i64 cz])) (w2.setCell ⟨XT,0,none⟩ (.slice ma mn mc)) w.heap.size bz nz ez cz):=⟨_,_,T9,rfl,hbug3,hTb,hOM3,hTl2⟩
 clear gS hOM2 hOM3 hbug2 hbug3 b2 pR2 pT2
 go_wp2
 refine bodyPost_ret (by simp [results,Tryz.results12,go_sem,t0,q0,q1];try rfl) rfl ?_
 exact ⟨HG.out,b3⟩


theorem VO (a0:Option Addr) (n0 c0:Nat) (r0:List (List I3)) (bz:List I3) (hfit:∀ x ∈ bz,I3.fits x) (hlf:bz.length≤100000) (nz:Nat) (re:List E3) (hre:∀ e ∈ re,e.fits) (hrc:∀ j,j≤re.length→ZO re j≤10000000) (hrl:∀ t,t<re.length→(re.getD t e3d).2.1.length≤1048576∧(re.getD t e3d).2.2.length≤1048576) (cz:Int) (w:World) (h0:Z8 w a0 n0 c0 r0) (hG:Z0 w)
  (kS:∀ (a0:Option Addr) (n0 c0:Nat) (w:World),Z8 w a0 n0 c0 r0→Calls Tryz.prog 18 #[.agg #[.slice a0 n0 c0]] w fun e w'=>Vl e w' w.heap.size bz nz re cz∧Below w.heap.size w w')
  (kI:∀ (a0:Option Addr) (n0 c0:Nat) (w:World),Z8 w a0 n0 c0 r0→Z0 w→Calls Tryz.prog 12 #[.agg #[.slice a0 n0 c0]] w fun e w'=>Xs e w' w.heap.size bz nz re cz∧Below w.heap.size w w') :
  Calls Tryz.prog 6 #[.agg #[.slice a0 n0 c0]] w fun e w'=>e=.returned (.bool true)∧Below w.heap.size w w':=by
 have kT:=fun W h=>RS a0 n0 c0 r0 W h
 have kO:=fun W h=>Qj a0 n0 c0 r0 W h
 have hne:(cz != cz)=false:=by simp
 have bw:Below w.heap.size w (w.alloc (.cells #[.slice a0 n0 c0] 59)):=by go_grown
 have p0:Blk (w.alloc (.cells #[.slice a0 n0 c0] 59)) w.heap.size 59 [.slice a0 n0 c0]:=Zj _ _ _ rfl
 go_enter Tryz.func6,Tryz.ntmps6
 go_wp2_with fail
 generalize (w.alloc (.cells #[.slice a0 n0 c0] 59))=W0 at *
 have cc:=p0.cell 0
 simp only [List.getElem?_cons_zero] at cc
 have hz:=Sv r0 1048576 (by omega)
 have hbd:=NG (rows:=r0) (left:=1048576) (by omega)
 have hcb:=fun h=>PD (rows:=r0) (left:=1048576) h
 go_wp2_with fail
 clear cc
 refine (RM a0 n0 c0 r0 1048576 _ (h0.below bw) (by omega) (by omega)).mono ?_
 rintro e wz ⟨rfl,hb⟩
 generalize YR 1048576 r0=zl at hz hbd hcb
 replace bw:=Zb bw hb
 replace p0:=p0.below hb
 clear hb
 rcases hz with rfl | ⟨yl,xl⟩
 ·clear hbd hcb
  go_wp2
  go_ret
  exact ⟨rfl,bw⟩
 obtain ⟨hr,hr'⟩:=hbd yl (by omega)
 have hcnt:=hcb yl
 have hlen:n0≤1048576:=by rw [← h0.1];exact hr
 replace kT:=fun W h=>kT W h hlen (fun t _=>hr' t)
 replace kO:=fun W h=>kO W h hlen (fun t _=>hr' t)
 have hcl:Xh r0 r0.length≤10000000:=by omega
 have hcj:∀ j,j≤r0.length→Xh r0 j≤10000000:=fun j hj=>by have:=Qq r0 j;omega
 have HRJ:Hid (∀ j,j<r0.length→(r0.getD j []).length≤1048576):=fun j _=>hr' j
 clear hbd hcb hr hr' hlen hcnt
 have hn0:decide (zl<0)=false:=by simp;omega
 clear yl xl
 have cc:=p0.cell 0
 simp only [List.getElem?_cons_zero] at cc
 go_wp2_with fail
 clear cc
 refine (kT _ (h0.below bw)).mono ?_
 rintro e wSa ⟨rfl,hO,hb⟩
 have hA:=hO.codes
 clear hO
 generalize (wz).heap.size+3=ga at hA ⊢
 replace bw:=Zb bw hb
 replace p0:=p0.below hb
 clear hb
 go_wp2_with fail
 refine (kS _ _ _ _ hA).mono ?_
 rintro e wS ⟨⟨vb,vm,rfl,qS,hS⟩,hb⟩
 obtain ⟨Sa,Sc,rfl⟩:=ZH qS
 obtain ⟨Sm,Sd,rfl⟩:=hS.slice9
 replace bw:=Zb bw hb
 replace p0:=p0.below hb
 clear hb
 have pN4:Blk ((wS.alloc (.cells #[.slice none 0 0,.int .i64 0] 30)).alloc (.cells #[.slice none 0 0] 33)) wS.heap.size 30 [.slice none 0 0,.int .i64 0]:=Zi _ (Zj _ _ _ rfl)
 have pN5:Blk ((wS.alloc (.cells #[.slice none 0 0,.int .i64 0] 30)).alloc (.cells #[.slice none 0 0] 33)) (wS.heap.size+1) 33 [.slice none 0 0]:=Zj _ _ _ (by simp)
 have hbN:Below wS.heap.size wS ((wS.alloc (.cells #[.slice none 0 0,.int .i64 0] 30)).alloc (.cells #[.slice none 0 0] 33)):=by go_grown
 go_wp2_with (refine Zd rfl 30 _ _ rfl wS.heap.size [.slice Sa bz.length Sc,.int .i64 (nz:Int)] rfl rfl pN4 (by kernel_rfl) rfl rfl ?_)
 intro wSr pr gr
 have pSR:=pr.out
 have pSM:=pN5.kept gr (by simp)
 have hbb:=hbN.grown gr hbN.size (fun q e=>by cases e;exact Nat.le_refl _)
 clear pr gr hbN pN4 pN5
 obtain ⟨XS,hXS⟩:∃ X,X=wS.heap.size:=⟨_,rfl⟩
 obtain ⟨YS,hYS⟩:∃ Y,Y=wS.heap.size+1:=⟨_,rfl⟩
 rw [← hYS] at pSM ⊢
 rw [← hXS] at pSR ⊢
 have hXYS:XS≠YS:=by omega
 have lXS:wS.heap.size≤XS:=by omega
 have lYS:wS.heap.size≤YS:=by omega
 clear hXS hYS
 have s0:=pSM.cell 0
 have fs:=pSM.frozen 0
 simp only [List.getElem?_cons_zero] at s0
 replace hbb:=hbb.grown (Xi wSr YS 0 (.slice Sm re.length Sd)) hbb.size (fun q e=>by cases e;exact lYS)
 replace pSR:=pSR.off ⟨YS,0,none⟩ (.slice Sm re.length Sd) hXYS
 replace pSM:=pSM.set 0 (.slice Sm re.length Sd)
 simp only [List.set_cons_zero] at pSM
 replace bw:=Zb bw hbb
 replace p0:=p0.below hbb
 replace qS:=Zs qS hbb
 replace hS:=hS.below hbb
 skip
 go_upto_region 6 with fail
 clear s0 fs hbb
 generalize (wSr.setCell ⟨YS,0,none⟩ (.slice Sm re.length Sd))=wSx at *
 clear hA
 clear kS
 have hwN:=bw.size
 have hp0N:w.heap.size<wSx.heap.size:=p0.lt
 have hXSN:XS<wSx.heap.size:=pSR.lt
 have hYSN:YS<wSx.heap.size:=pSM.lt
 have tS:=hS.top9
 have lS:wS.heap.size≤wSx.heap.size:=by have:=pSR.lt;omega
 have bS:∀ j,(Value.slice Sa bz.length Sc).ownBlock=some j→j<wSx.heap.size:=fun j hj=>(Ym qS hj).2
 clear hS
 generalize hNS:wSx.heap.size=NS at *
 have cc:=p0.cell 0
 simp only [List.getElem?_cons_zero] at cc
 go_wp2_with fail
 clear cc
 refine (kO _ (h0.below bw)).mono ?_
 rintro e wx ⟨rfl,hX,hb⟩
 rw [hNS] at hb hX ⊢
 have hXs:NS+3≤wx.heap.size:=by
  obtain ⟨vs9,hv9,_⟩:=hX
  have h9:NS+3<wx.heap.size:=(hv9.lt _ rfl).2
  omega
 have hbq:Below wSx.heap.size wSx wx:=by rw [hNS];exact hb
 clear hb
 replace bw:=Zb bw hbq
 replace p0:=p0.below hbq
 replace qS:=Zs qS hbq
 replace pSR:=pSR.below hbq
 replace pSM:=pSM.below hbq
 replace tS:=tS.below hbq
 clear hbq
 have hXt:=hX.top9
 clear hX
 generalize hgx:NS+3=gx at *
 have hNg:NS≤gx:=by omega
 clear hgx
 have bA:Below wx.heap.size wx (wx.alloc (.cells #[.slice (some ⟨gx,0,none⟩) n0 n0] 25)):=by go_grown
 have pX:Blk (wx.alloc (.cells #[.slice (some ⟨gx,0,none⟩) n0 n0] 25)) wx.heap.size 25 [.slice (some ⟨gx,0,none⟩) n0 n0]:=Zj _ _ _ rfl
 replace hXt:=hXt.below bA
 replace bw:=Zb bw bA
 replace p0:=p0.below bA
 replace qS:=Zs qS bA
 replace pSR:=pSR.below bA
 replace pSM:=pSM.below bA
 replace tS:=tS.below bA
 clear bA
 have u0:=pX.cell 0
 simp only [List.getElem?_cons_zero] at u0
 have hc0:=hXt.own.codes (Gx h0)
 go_upto_region 7 with fail
 generalize hWy:(wx.alloc (.cells #[.slice (some ⟨gx,0,none⟩) n0 n0] 25))=wy at *
 clear hWy
 generalize wx.heap.size=TX at *
 have hTXy:TX<wy.heap.size:=pX.lt
 go_wp2_with fail
 refine (kI _ _ _ _ hc0 (hG.below bw)).mono ?_
 rintro e wI ⟨⟨vb,vm,TG,rfl,qG,tbG,hG9,tlG⟩,hb⟩
 obtain ⟨Ga,Gc,rfl⟩:=ZH qG
 obtain ⟨Gm,Gd,rfl⟩:=hG9.slice9
 obtain ⟨T,hTdef⟩:∃ T,T=min TG wI.heap.size:=⟨_,rfl⟩
 have hbs9:=hb.size
 have hT1:T≤TG:=by omega
 have hbG:wy.heap.size≤T:=by omega
 have hTw:T≤wI.heap.size:=by omega
 have tbT:∀ j,(Value.slice Ga bz.length Gc).ownBlock=some j→j<T:=fun j hj=>by
  have h1:=tbG j hj
  have h2:=(Ym qG hj).2
  omega
 have tG:=(hG9.lower hT1).top9
 clear hG9 tbG tlG hTdef hT1 hbs9
 replace bw:=Zb bw hb
 replace p0:=p0.below hb
 replace qS:=Zs qS hb
 replace pSR:=pSR.below hb
 replace pSM:=pSM.below hb
 replace tS:=tS.below hb
 replace pX:=pX.below hb
 replace hXt:=hXt.below hb
 replace hc0:=hc0.below hb
 clear hb
 have pN4:Blk ((wI.alloc (.cells #[.slice none 0 0,.int .i64 0] 30)).alloc (.cells #[.slice none 0 0] 33)) wI.heap.size 30 [.slice none 0 0,.int .i64 0]:=Zi _ (Zj _ _ _ rfl)
 have pN5:Blk ((wI.alloc (.cells #[.slice none 0 0,.int .i64 0] 30)).alloc (.cells #[.slice none 0 0] 33)) (wI.heap.size+1) 33 [.slice none 0 0]:=Zj _ _ _ (by simp)
 have hbN:Below wI.heap.size wI ((wI.alloc (.cells #[.slice none 0 0,.int .i64 0] 30)).alloc (.cells #[.slice none 0 0] 33)):=by go_grown
 go_wp2_with (refine Zd rfl 30 _ _ rfl wI.heap.size [.slice Ga bz.length Gc,.int .i64 (nz:Int)] rfl rfl pN4 (by kernel_rfl) rfl rfl ?_)
 intro wIr pr gr
 have pGR:=pr.out
 have pGM:=pN5.kept gr (by simp)
 have hbb:=hbN.grown gr hbN.size (fun q e=>by cases e;exact Nat.le_refl _)
 clear pr gr hbN pN4 pN5
 obtain ⟨XG,hXG⟩:∃ X,X=wI.heap.size:=⟨_,rfl⟩
 obtain ⟨YG,hYG⟩:∃ Y,Y=wI.heap.size+1:=⟨_,rfl⟩
 rw [← hYG] at pGM ⊢
 rw [← hXG] at pGR ⊢
 have hXYG:XG≠YG:=by omega
 have lXG:wI.heap.size≤XG:=by omega
 have lYG:wI.heap.size≤YG:=by omega
 clear hXG hYG
 have s0:=pGM.cell 0
 have fs:=pGM.frozen 0
 simp only [List.getElem?_cons_zero] at s0
 replace hbb:=hbb.grown (Xi wIr YG 0 (.slice Gm re.length Gd)) hbb.size (fun q e=>by cases e;exact lYG)
 replace pGR:=pGR.off ⟨YG,0,none⟩ (.slice Gm re.length Gd) hXYG
 replace pGM:=pGM.set 0 (.slice Gm re.length Gd)
 simp only [List.set_cons_zero] at pGM
 replace bw:=Zb bw hbb
 replace p0:=p0.below hbb
 replace qS:=Zs qS hbb
 replace pSR:=pSR.below hbb
 replace pSM:=pSM.below hbb
 replace tS:=tS.below hbb
 replace pX:=pX.below hbb
 replace hXt:=hXt.below hbb
 replace hc0:=hc0.below hbb
 replace qG:=Zs qG hbb
 replace tG:=tG.below hbb
 skip
 go_upto_region 8 with fail
 clear s0 fs hbb
 generalize (wIr.setCell ⟨YG,0,none⟩ (.slice Gm re.length Gd))=wIx at *
 clear u0
 have lT:T≤XG:=by omega
 have lT':T≤YG:=by omega
 generalize hTGe:wI.heap.size=TGG at *
 generalize hBGe:wy.heap.size=BG at *
 clear hTGe hBGe
 have hNT:NS≤BG:=by omega
 have hk3:∃ km:Nat,(1:Int)+(bz.length:Int)*3=(km:Int)∧0<km∧km≤1000000:=⟨1+bz.length*3,by omega,by omega,by omega⟩
 obtain ⟨km,hk3,hk4,hk5⟩:=hk3
 have HK3:Hid ((1:Int)+(bz.length:Int)*3=(km:Int)):=hk3
 clear hk3
 have e0:=pGR.cell 0
 have e1:=pGR.cell 1
 have e2:=pSR.cell 0
 have e3:=pSR.cell 1
 simp only [List.getElem?_cons_zero,List.getElem?_cons_succ] at e0 e1 e2 e3
 go_wp2_with fail
 clear e0 e1 e2 e3
 refine (WT Ga Sa bz.length Gc Sc (nz:Int) bz _ (XA qG hfit) (XA qS hfit)).mono ?_
 rintro e vv1 ⟨rfl,hb⟩
 replace bw:=Zb bw hb
 replace p0:=p0.below hb
 replace qS:=Zs qS hb
 replace pSR:=pSR.below hb
 replace pSM:=pSM.below hb
 replace tS:=tS.below hb
 replace pX:=pX.below hb
 replace hXt:=hXt.below hb
 replace hc0:=hc0.below hb
 replace qG:=Zs qG hb
 replace pGR:=pGR.below hb
 replace pGM:=pGM.below hb
 replace tG:=tG.below hb
 clear hb
 have e4:=pGM.cell 0
 have e5:=pSM.cell 0
 simp only [List.getElem?_cons_zero] at e4 e5
 go_wp2_with fail
 clear e4 e5
 refine (VN _ _ _ _ _ re _ (tG.own.ents hre) (tS.own.ents hre)).mono ?_
 rintro e uu1 ⟨rfl,hb⟩
 replace bw:=Zb bw hb
 replace p0:=p0.below hb
 replace qS:=Zs qS hb
 replace pSR:=pSR.below hb
 replace pSM:=pSM.below hb
 replace tS:=tS.below hb
 replace pX:=pX.below hb
 replace hXt:=hXt.below hb
 replace hc0:=hc0.below hb
 replace qG:=Zs qG hb
 replace pGR:=pGR.below hb
 replace pGM:=pGM.below hb
 replace tG:=tG.below hb
 clear hb
 have u0:=pX.cell 0
 have u1:=p0.cell 0
 simp only [List.getElem?_cons_zero] at u0 u1
 go_wp2_with fail
 have hP:Z8 uu1.drew a0 n0 c0 r0:=h0.below (Zb bw (by go_grown))
 have hV9:Z8 uu1.drew (some ⟨gx,0,none⟩) n0 n0 r0:=hc0.below (by go_grown)
 have c8:(fun w':World=>w'.cell? ⟨TX,0,none⟩=some (.slice (some ⟨gx,0,none⟩) n0 n0)∧w'.cell? ⟨w.heap.size,0,none⟩=some (.slice a0 n0 c0)) uu1:=⟨u0,u1⟩
 clear u0 u1
 go_region_held3 (fun w'=>w'.cell? ⟨TX,0,none⟩=some (.slice (some ⟨gx,0,none⟩) n0 n0)∧w'.cell? ⟨w.heap.size,0,none⟩=some (.slice a0 n0 c0)) (first | (exact c8) | (exact c9) | (exact ⟨Za hl _ _ c9.1,Za hl _ _ c9.2⟩))
  (first | (go_at_call 28;refine (kT _ hP).mono ?_;rintro e wu ⟨rfl,hOk,hk⟩;have hD:=hV9.below hk;have c9:=(show (fun w':World=>w'.cell? ⟨TX,0,none⟩=some (.slice (some ⟨gx,0,none⟩) n0 n0)∧w'.cell? ⟨w.heap.size,0,none⟩=some (.slice a0 n0 c0)) wu from ⟨Za hk _ _ c8.1,Za hk _ _ c8.2⟩)) | (go_at_call 31;refine (Rb _ _ _ _ _ r0 _ hD hOk.codes).mono ?_;rintro e wl ⟨rfl,hl⟩))
 have hb:Below uu1.heap.size uu1 wl:=Zb (by go_grown) (Zb hk hl)
 replace bw:=Zb bw hb
 replace p0:=p0.below hb
 replace qS:=Zs qS hb
 replace pSR:=pSR.below hb
 replace pSM:=pSM.below hb
 replace tS:=tS.below hb
 replace pX:=pX.below hb
 replace hXt:=hXt.below hb
 replace hc0:=hc0.below hb
 replace qG:=Zs qG hb
 replace pGR:=pGR.below hb
 replace pGM:=pGM.below hb
 replace tG:=tG.below hb
 clear hb hk hl hD hOk c8 c9 hP hV9 hc0
 have u0:=pX.cell 0
 simp only [List.getElem?_cons_zero] at u0
 have hgX:gx≤wl.heap.size:=by have:=pX.lt;omega
 go_wp2_with fail
 clear u0
 refine (SF gx TX _ 1 r0 _ (by omega) (by omega) hcl hcj HRJ.out hgX hXt).mono ?_
 rintro e m0 ⟨rfl,hm⟩
 replace bw:Below w.heap.size w m0:=bw.trans (hm.1.mono (by omega))
 replace p0:=p0.belowB hm.1 (by omega)
 replace pSR:=pSR.belowB hm.1 (by omega)
 replace pSM:=pSM.belowB hm.1 (by omega)
 replace qS:=Xx qS (fun x hx=>Nat.lt_of_lt_of_le (bS x hx) hNg) hm.1
 replace tS:=tS.under hm.1 hNg
 replace pGR:=hm.blk pGR (by omega)
 replace pGM:=hm.blk pGM (by omega)
 replace qG:=hm.owns qG (by omega)
 replace tG:=tG.mid hm (by omega)
 clear hm pX hXt hgX
 have hkk:decide (1+(Xh r0 r0.length:Int)<0)=false:=by simp;omega
 have e0:=pGR.cell 0
 have e1:=pGR.cell 1
 have e2:=pSR.cell 0
 have e3:=pSR.cell 1
 simp only [List.getElem?_cons_zero,List.getElem?_cons_succ] at e0 e1 e2 e3
 go_wp2_with fail
 clear e0 e1 e2 e3
 refine (WT Ga Sa bz.length Gc Sc (nz:Int) bz _ (XA qG hfit) (XA qS hfit)).mono ?_
 rintro e vv2 ⟨rfl,hb⟩
 replace bw:=Zb bw hb
 replace p0:=p0.below hb
 replace qS:=Zs qS hb
 replace pSR:=pSR.below hb
 replace pSM:=pSM.below hb
 replace tS:=tS.below hb
 replace qG:=Zs qG hb
 replace pGR:=pGR.below hb
 replace pGM:=pGM.below hb
 replace tG:=tG.below hb
 clear hb
 have e4:=pGM.cell 0
 have e5:=pSM.cell 0
 simp only [List.getElem?_cons_zero] at e4 e5
 go_wp2_with fail
 clear e4 e5
 refine (VN _ _ _ _ _ re _ (tG.own.ents hre) (tS.own.ents hre)).mono ?_
 rintro e uu2 ⟨rfl,hb⟩
 replace bw:=Zb bw hb
 replace p0:=p0.below hb
 replace qS:=Zs qS hb
 replace pSR:=pSR.below hb
 replace pSM:=pSM.below hb
 replace tS:=tS.below hb
 replace qG:=Zs qG hb
 replace pGR:=pGR.below hb
 replace pGM:=pGM.below hb
 replace tG:=tG.below hb
 clear hb
 clear hkk
 have e0:=pGR.cell 0
 have e1:=pGR.cell 1
 simp only [List.getElem?_cons_zero,List.getElem?_cons_succ] at e0 e1
 have hsz:BG≤uu2.heap.size:=by have:=pGR.lt;omega
 have kx:=Rt BG T Ga Gc (nz:Int) 1 bz uu2 (by omega) (by omega) (by omega) qG hsz tbT
 rw [HK3.out] at kx
 go_wp2_with fail
 clear e0 e1
 refine kx.mono ?_
 rintro e m1 ⟨rfl,qG1,hm⟩
 replace bw:Below w.heap.size w m1:=bw.trans (hm.1.mono (by omega))
 replace p0:=p0.belowB hm.1 (by omega)
 replace pSR:=pSR.belowB hm.1 (by omega)
 replace pSM:=pSM.belowB hm.1 (by omega)
 replace qS:=Xx qS (fun x hx=>Nat.lt_of_lt_of_le (bS x hx) hNT) hm.1
 replace tS:=tS.under hm.1 hNT
 replace pGR:=hm.blk pGR (by omega)
 replace pGM:=hm.blk pGM (by omega)
 replace tG:=tG.mid hm (Nat.le_refl _)
 clear hm kx qG hsz
 have e4:=pGM.cell 0
 simp only [List.getElem?_cons_zero] at e4
 have hsz:T≤m1.heap.size:=by have:=pGR.lt;omega
 have kx:=Pt T TGG _ km re m1 hk4 (by omega) hrc hrl hsz tG
 go_wp2_with fail
 clear e4
 refine kx.mono ?_
 rintro e m2 ⟨rfl,tG2,hm⟩
 replace bw:Below w.heap.size w m2:=bw.trans (hm.1.mono (by omega))
 replace p0:=p0.belowB hm.1 (by omega)
 replace pSR:=pSR.belowB hm.1 (by omega)
 replace pSM:=pSM.belowB hm.1 (by omega)
 replace qS:=Xx qS (fun x hx=>Nat.lt_of_lt_of_le (bS x hx) (Nat.le_trans hNT hbG)) hm.1
 replace tS:=tS.under hm.1 (Nat.le_trans hNT hbG)
 replace qG1:=Xx qG1 tbT hm.1
 replace pGR:=hm.blk pGR (by omega)
 replace pGM:=hm.blk pGM (by omega)
 clear hm kx tG hsz
 have hq0:decide ((km:Int)<0)=false:=by simp
 have hq1:decide ((km:Int)+(ZO re re.length:Int)<0)=false:=by simp;omega
 have hq2:((km:Int)+(ZO re re.length:Int) != (km:Int)+(ZO re re.length:Int))=false:=by simp
 have e0:=pGR.cell 0
 have e1:=pGR.cell 1
 simp only [List.getElem?_cons_zero,List.getElem?_cons_succ] at e0 e1
 have kx:=VR BG Ga Gc (nz:Int) 1 bz m2 (by omega) (by omega) (by omega) qG1
 rw [HK3.out] at kx
 go_wp2_with fail
 clear e0 e1
 refine kx.mono ?_
 rintro e h1a ⟨rfl,hb⟩
 replace bw:=Zb bw hb
 replace p0:=p0.below hb
 replace qS:=Zs qS hb
 replace pSR:=pSR.below hb
 replace pSM:=pSM.below hb
 replace tS:=tS.below hb
 replace pGR:=pGR.below hb
 replace pGM:=pGM.below hb
 replace qG1:=Zs qG1 hb
 replace tG2:=tG2.below hb
 clear hb kx
 have e4:=pGM.cell 0
 simp only [List.getElem?_cons_zero] at e4
 have kx:=UO T _ km re h1a hk4 (by omega) hrc hrl tG2.own
 go_wp2_with fail
 clear e4
 refine kx.mono ?_
 rintro e h1b ⟨rfl,hb⟩
 replace bw:=Zb bw hb
 replace p0:=p0.below hb
 replace qS:=Zs qS hb
 replace pSR:=pSR.below hb
 replace pSM:=pSM.below hb
 replace tS:=tS.below hb
 replace pGR:=pGR.below hb
 replace pGM:=pGM.below hb
 replace qG1:=Zs qG1 hb
 replace tG2:=tG2.below hb
 clear hb kx
 have cc:=p0.cell 0
 simp only [List.getElem?_cons_zero] at cc
 go_wp2_with fail
 clear cc
 refine (kT _ (h0.below bw)).mono ?_
 rintro e wHa ⟨rfl,hO,hb⟩
 have hA:=hO.codes
 clear hO
 generalize (h1b).heap.size+3=ga at hA ⊢
 replace bw:=Zb bw hb
 replace p0:=p0.below hb
 replace qS:=Zs qS hb
 replace pSR:=pSR.below hb
 replace pSM:=pSM.below hb
 replace tS:=tS.below hb
 replace pGR:=pGR.below hb
 replace pGM:=pGM.below hb
 replace qG1:=Zs qG1 hb
 replace tG2:=tG2.below hb
 clear hb
 go_wp2_with fail
 refine (kI _ _ _ _ hA (hG.below bw)).mono ?_
 rintro e wH ⟨⟨vb,vm,TH,rfl,qH,tbH,hH,tlH⟩,hb⟩
 obtain ⟨Ha,Hc,rfl⟩:=ZH qH
 obtain ⟨Hm,Hd,rfl⟩:=hH.slice9
 replace bw:=Zb bw hb
 replace p0:=p0.below hb
 replace qS:=Zs qS hb
 replace pSR:=pSR.below hb
 replace pSM:=pSM.below hb
 replace tS:=tS.below hb
 replace pGR:=pGR.below hb
 replace pGM:=pGM.below hb
 replace qG1:=Zs qG1 hb
 replace tG2:=tG2.below hb
 clear hb
 have pN4:Blk ((wH.alloc (.cells #[.slice none 0 0,.int .i64 0] 30)).alloc (.cells #[.slice none 0 0] 33)) wH.heap.size 30 [.slice none 0 0,.int .i64 0]:=Zi _ (Zj _ _ _ rfl)
 have pN5:Blk ((wH.alloc (.cells #[.slice none 0 0,.int .i64 0] 30)).alloc (.cells #[.slice none 0 0] 33)) (wH.heap.size+1) 33 [.slice none 0 0]:=Zj _ _ _ (by simp)
 have hbN:Below wH.heap.size wH ((wH.alloc (.cells #[.slice none 0 0,.int .i64 0] 30)).alloc (.cells #[.slice none 0 0] 33)):=by go_grown
 go_wp2_with (refine Zd rfl 30 _ _ rfl wH.heap.size [.slice Ha bz.length Hc,.int .i64 (nz:Int)] rfl rfl pN4 (by kernel_rfl) rfl rfl ?_)
 intro wHr pr gr
 have pHR:=pr.out
 have pHM:=pN5.kept gr (by simp)
 have hbb:=hbN.grown gr hbN.size (fun q e=>by cases e;exact Nat.le_refl _)
 clear pr gr hbN pN4 pN5
 obtain ⟨XH,hXH⟩:∃ X,X=wH.heap.size:=⟨_,rfl⟩
 obtain ⟨YH,hYH⟩:∃ Y,Y=wH.heap.size+1:=⟨_,rfl⟩
 rw [← hYH] at pHM ⊢
 rw [← hXH] at pHR ⊢
 have hXYH:XH≠YH:=by omega
 have lXH:wH.heap.size≤XH:=by omega
 have lYH:wH.heap.size≤YH:=by omega
 clear hXH hYH
 have s0:=pHM.cell 0
 have fs:=pHM.frozen 0
 simp only [List.getElem?_cons_zero] at s0
 replace hbb:=hbb.grown (Xi wHr YH 0 (.slice Hm re.length Hd)) hbb.size (fun q e=>by cases e;exact lYH)
 replace pHR:=pHR.off ⟨YH,0,none⟩ (.slice Hm re.length Hd) hXYH
 replace pHM:=pHM.set 0 (.slice Hm re.length Hd)
 simp only [List.set_cons_zero] at pHM
 replace bw:=Zb bw hbb
 replace p0:=p0.below hbb
 replace qS:=Zs qS hbb
 replace pSR:=pSR.below hbb
 replace pSM:=pSM.below hbb
 replace tS:=tS.below hbb
 replace pGR:=pGR.below hbb
 replace pGM:=pGM.below hbb
 replace qG1:=Zs qG1 hbb
 replace tG2:=tG2.below hbb
 replace qH:=Zs qH hbb
 replace hH:=hH.below hbb
 skip
 go_upto_region 29 with fail
 clear s0 fs hbb
 generalize (wHr.setCell ⟨YH,0,none⟩ (.slice Hm re.length Hd))=wHx at *
 clear hA
 clear kI tbH tlH
 have e0:=pHR.cell 0
 have e1:=pHR.cell 1
 have e2:=pSR.cell 0
 have e3:=pSR.cell 1
 simp only [List.getElem?_cons_zero,List.getElem?_cons_succ] at e0 e1 e2 e3
 go_wp2_with fail
 clear e0 e1 e2 e3
 refine (WT Ha Sa bz.length Hc Sc (nz:Int) bz _ (XA qH hfit) (XA qS hfit)).mono ?_
 rintro e vv3 ⟨rfl,hb⟩
 replace bw:=Zb bw hb
 replace p0:=p0.below hb
 replace qS:=Zs qS hb
 replace pSR:=pSR.below hb
 replace pSM:=pSM.below hb
 replace tS:=tS.below hb
 replace pGR:=pGR.below hb
 replace pGM:=pGM.below hb
 replace qG1:=Zs qG1 hb
 replace tG2:=tG2.below hb
 replace qH:=Zs qH hb
 replace hH:=hH.below hb
 replace pHR:=pHR.below hb
 replace pHM:=pHM.below hb
 clear hb
 have e4:=pHM.cell 0
 have e5:=pSM.cell 0
 simp only [List.getElem?_cons_zero] at e4 e5
 go_wp2_with fail
 clear e4 e5
 refine (VN _ _ _ _ _ re _ (hH.ents hre) (tS.own.ents hre)).mono ?_
 rintro e uu3 ⟨rfl,hb⟩
 replace bw:=Zb bw hb
 replace p0:=p0.below hb
 replace qS:=Zs qS hb
 replace pSR:=pSR.below hb
 replace pSM:=pSM.below hb
 replace tS:=tS.below hb
 replace pGR:=pGR.below hb
 replace pGM:=pGM.below hb
 replace qG1:=Zs qG1 hb
 replace tG2:=tG2.below hb
 replace qH:=Zs qH hb
 replace hH:=hH.below hb
 replace pHR:=pHR.below hb
 replace pHM:=pHM.below hb
 clear hb
 clear qH hH pHR pHM
 have e0:=pGR.cell 0
 have e1:=pGR.cell 1
 simp only [List.getElem?_cons_zero,List.getElem?_cons_succ] at e0 e1
 have kx:=VR BG Ga Gc (nz:Int) 1 bz uu3 (by omega) (by omega) (by omega) qG1
 rw [HK3.out] at kx
 go_wp2_with fail
 clear e0 e1
 refine kx.mono ?_
 rintro e h2a ⟨rfl,hb⟩
 replace bw:=Zb bw hb
 replace p0:=p0.below hb
 replace qS:=Zs qS hb
 replace pSR:=pSR.below hb
 replace pSM:=pSM.below hb
 replace tS:=tS.below hb
 replace pGR:=pGR.below hb
 replace pGM:=pGM.below hb
 replace qG1:=Zs qG1 hb
 replace tG2:=tG2.below hb
 clear hb kx
 have e4:=pGM.cell 0
 simp only [List.getElem?_cons_zero] at e4
 have kx:=UO T _ km re h2a hk4 (by omega) hrc hrl tG2.own
 go_wp2_with fail
 clear e4
 refine kx.mono ?_
 rintro e h2b ⟨rfl,hb⟩
 replace bw:=Zb bw hb
 replace p0:=p0.below hb
 replace qS:=Zs qS hb
 replace pSR:=pSR.below hb
 replace pSM:=pSM.below hb
 replace tS:=tS.below hb
 replace pGR:=pGR.below hb
 replace pGM:=pGM.below hb
 replace qG1:=Zs qG1 hb
 replace tG2:=tG2.below hb
 clear hb kx
 go_wp2
 go_ret
 exact ⟨rfl,bw⟩

open Go.RowKit Go.ChangeShapes

theorem PW:Tryz.prog.globalNamed "loop.example/g00632/impl.vmShape"=some 0:=by kernel_rfl
theorem JT:(Tryz.prog.globals[0]?).map (·.type)=some 269:=by kernel_rfl

section
variable {H : Type} {enc : TypeId × Value → H} {w : World} {base : Nat} {spare : Nat → Bool} {held : Bool}
theorem Vx {fuel:Nat} {cs:List Value} {a b:Int} {p:List MemPlace} (h:DataW.trod enc Tryz.prog w base spare held fuel 268 cs=some (.agg [.lit (.int .i64 a),.lit (.int .i64 b)],p)):cs=[.int .i64 a,.int .i64 b]:=by
 obtain ⟨y0,y1,n,hx,hl,h0,h1⟩:=trod_struct2 Tryz.underlying268 h
 have hl2:cs.length=2:=hl.trans (by kernel_rfl)
 have hk:Tryz.prog.cellsOf 3=1:=by kernel_rfl
 match cs,hl2 with
 | [c0,c1],_ =>
  simp only [hk] at h0 h1
  obtain ⟨z0,e0,hy0,_⟩:=DataW.trod_int Tryz.underlying3 h0
  obtain ⟨z1,e1,hy1,_⟩:=DataW.trod_int Tryz.underlying3 h1
  simp at e0 e1
  subst hy0 hy1 e0 e1
  simp at hx
  simp [hx]
theorem NF {fuel:Nat} {cs:List Value} {p:List MemPlace} (h:DataW.trod enc Tryz.prog w base spare held fuel 269 cs=some (Rows.laid_loop_example_g00632_impl_vmShape,p)):cs=[3,6,4,9,2,3,6,9].map (Value.int .i64):=by
 obtain ⟨xs,m,_,hx,hl,hn,hi⟩:=DataW.trod_array Tryz.underlying269 h
 have hk:Tryz.prog.cellsOf 268=2:=by kernel_rfl
 have hl8:cs.length=8:=hl.trans (by kernel_rfl)
 rw [hk] at hi
 match xs,hn with
 | [⟨x0,p0⟩,⟨x1,p1⟩,⟨x2,p2⟩,⟨x3,p3⟩],_ =>
  unfold Rows.laid_loop_example_g00632_impl_vmShape at hx
  simp at hx
  obtain ⟨⟨rfl,rfl,rfl,rfl⟩,_⟩:=hx
  match cs,hl8 with
  | [c0,c1,c2,c3,c4,c5,c6,c7],_ =>
   have g0:=Vx (hi 0 (by decide))
   have g1:=Vx (hi 1 (by decide))
   have g2:=Vx (hi 2 (by decide))
   have g3:=Vx (hi 3 (by decide))
   simp at g0 g1 g2 g3
   simp [g0,g1,g2,g3]
end

theorem SI {W:World} {p:List (String × DataW Unit)} (hp:p=[("loop.example/g00632/impl.vmShape",Rows.laid_loop_example_g00632_impl_vmShape)]) (h:laidMetH Tryz.prog p W):Z0 W:=by
 subst hp
 rw [MakeChecks.laidMetH_plain _ _ _ (by kernel_rfl)] at h
 obtain ⟨ps,⟨g0,t0,cs0,f0,p0,q0,hg0,ht0,hv0,hd0,_,_⟩,_,_⟩:=h
 obtain rfl:=Option.some.inj (PW.symm.trans hg0)
 obtain rfl:=Option.some.inj (JT.symm.trans ht0)
 have hcs:=NF hd0
 unfold World.var? at hv0
 simp only [PW,Option.bind_some] at hv0
 cases hh:W.heap[0]? with
 | none=>rw [hh] at hv0;cases hv0
 | some o =>
  rw [hh] at hv0
  cases o with
  | cells cs t fr =>
   simp only [Option.some.injEq] at hv0
   subst hv0
   intro i v hi
   rw [← hcs] at hi
   simp only [World.cell?,hh]
   simpa using hi
  | _=>cases hv0


theorem PX {es:List E3} {t:Nat} (h:t<es.length):es.getD t e3d ∈ es:=by
 rw [List.getD_eq_getElem?_getD,List.getElem?_eq_getElem h]
 exact List.getElem_mem h
def J3 (es:List E3):Prop:=(∀ e ∈ es,e.fits)∧(∀ j,j≤es.length→ZO es j≤10000000)∧∀ t,t<es.length→(es.getD t e3d).2.1.length≤1048576∧(es.getD t e3d).2.2.length≤1048576
theorem S2 {es:List E3} (h:∀ e ∈ es,Yq e):∀ j,j≤es.length→ZO es j≤j*200
 | 0,_=>by simp [ZO]
 | j+1,hj=>by
  have ih:=S2 h j (by omega)
  have hg:es.getD j e3d ∈ es:=PX (by omega)
  have h1:=(h _ hg).bugs
  have h2:=(h _ hg).foot
  rw [Vo es j (by omega)]
  unfold TI
  omega
theorem NI:J3 []:=by
 refine ⟨fun e he=>?_,fun j hj=>?_,fun t ht=>?_⟩
 ·cases he
 ·cases j<;>simp [ZO]
 simp at ht
theorem HA {es:List E3} (h:∀ e ∈ es,Yq e∧e.1.size≤1048576) (hl:es.length≤2000):J3 es:=by
 refine ⟨fun e he=>TK (h e he).1 ?_,fun j hj=>?_,fun t ht=>?_⟩
 ·have:=(h e he).2
  unfold maxLen
  omega
 ·have:=S2 (fun e he=>(h e he).1) j hj
  omega
 have hg:es.getD t e3d ∈ es:=PX (by omega)
 have h1:=(h _ hg).1.bugs
 have h2:=(h _ hg).1.foot
 omega
theorem Gw (rows:List (List I3)) (es:List E3):(∀ x ∈ agB rows es,I3.fits x)∧(agB rows es).length≤100000∧J3 (agE rows es):=by
 by_cases h:Zq rows=true∧Y5 es=true
 ·cases hk:(agR rows es).2.2
  ·obtain ⟨_,e2,_,e4⟩:=MR h hk
   rw [e2,e4]
   exact ⟨fun x hx=>(List.not_mem_nil hx).elim,by simp,NI⟩
  obtain ⟨_,e2,_,e4⟩:=H5 h hk
  rw [e2,e4]
  obtain ⟨g1,g2⟩:=PG h.1 h.2
  have hle:es.length+(Yk rows es.length 19 ZF (es,0)).2.2≤2000:=Decidable.byContradiction fun hn=>by
   rw [g2 hn] at hk
   cases hk
  obtain ⟨_,k2,k3,k4,k5⟩:=g1 hle
  have h5:=Vk (g:=es.length) h.1 19 ZF (es,0) ZW (fun e he=>SM ((XP.1 h.2).1 e he))
  rw [k2,k3]
  have h6:=h5.1.bugs
  exact ⟨fun x hx=>Yf (h5.1.2.1 x hx),by omega,HA k5 k4⟩
 obtain ⟨_,e2,_,e4⟩:=NZ h
 rw [e2,e4]
 exact ⟨fun x hx=>(List.not_mem_nil hx).elim,by simp,NI⟩
theorem J8 (rows:List (List I3)):(∀ x ∈ Ul rows,I3.fits x)∧(Ul rows).length≤100000∧J3 (Uv rows):=by
 obtain ⟨e1,_,e3,_⟩:=K1 rows
 have h:=Gw rows []
 rw [e1,e3] at h
 exact h
theorem fnExactCheckFresh_walk (a0:Option Addr) (n0 c0:Nat) (z0:List (List I3)) (w:World) (h0:Z8 w a0 n0 c0 z0) (hG:Z0 w) :
  Calls Tryz.prog 6 #[.agg #[.slice a0 n0 c0]] w fun e w'=>e=.returned (.bool true)∧Below w.heap.size w w':=by
 obtain ⟨h1,h2,h3,h4,h5⟩:=J8 z0
 exact VO a0 n0 c0 z0 _ h1 h2 _ _ h3 h4 h5 _ w h0 hG (fun a n c w h=>Tt a n c z0 w h) (fun a n c w h hV=>US a n c z0 w h hV)

theorem fnExactCheckFresh_laid {W:World} (h:laidMetH Tryz.prog Rows.fnExactCheckFreshRow.laid W):Z0 W:=SI rfl h
theorem fnExactCheckFresh_door_met (os:Os) (args:Array Value):laidMetH Tryz.prog Rows.fnExactCheckFreshRow.laid ((World.doorLaid Tryz.prog 400 os).forCall (fun _ _=>0) ⟨#[],args,[]⟩).memory:=
 laidMetH_of_parts3 (fuel:=8) (laidMet_of_run' 8 (by kernel_rfl) (by kernel_rfl)) (by kernel_rfl) (by kernel_rfl)


def Lt (P:Program) (ns:List String):Bool:=ns.all fun n =>
 match P.globalNamed n with
 | some g=>match (P.globals[g]?).map (·.type) with
  | some t=>P.readableRec t && decide (t<P.types.size)
  | none=>false
 | none=>false

theorem var?_lt {P:Program} {W:World} {n:String} {g:Nat} {cs:Array Value} (hg:P.globalNamed n=some g) (hv:W.var? P n=some cs):g<W.heap.size:=by
 rcases Nat.lt_or_ge g W.heap.size with h | h
 ·exact h
 unfold World.var? at hv
 simp [hg,Array.getElem?_eq_none h] at hv

theorem vars_below {H:Type} {enc:TypeId × Value→H} {P:Program} {W W':World} (hl:laidOutB P=true) (bel:Below W.heap.size W W') :
  ∀ {ns:List String} {gs:List (DataW H)} {ps:List MemPlace},Lt P ns=true→DataW.TrodVars enc P W (fun _=>true) ns gs ps→DataW.TrodVars enc P W' (fun b=>decide (b<W.heap.size)) ns gs ps
 | [],[],ps,_,h=>h
 | [],_::_,_,_,h=>by cases h
 | _::_,[],_,_,h=>by cases h
 | n::ns,d::ds,ps,hf,h=>by
  obtain ⟨g,t,cs,fuel,p,q,hg,ht,hv,hd,hr,e⟩:=h
  simp only [Lt,List.all_cons,Bool.and_eq_true] at hf
  obtain ⟨hf1,hf2⟩:=hf
  rw [hg] at hf1
  simp only [ht,Bool.and_eq_true,decide_eq_true_eq] at hf1
  obtain ⟨fuel',hd'⟩:=Below.trod hl hf1.1 hf1.2 (v:=.agg cs) (⟨fuel,by simpa [Value.cells] using hd⟩:DataW.Trod enc P W 0 (fun _=>true) true t (.agg cs) d p) bel (DataW.trod_lt fuel _ _ _ hd)
  exact ⟨g,t,cs,fuel',p,q,hg,ht,var?_below bel hg (var?_lt hg hv) hv,by simpa [Value.cells] using hd',vars_below hl bel hf2 hr,e⟩

theorem vars_len {H:Type} {enc:TypeId × Value→H} {P:Program} {W:World} {spare:Nat→Bool}:∀ {ns:List String} {gs:List (DataW H)} {ps:List MemPlace},DataW.TrodVars enc P W spare ns gs ps→gs.length=ns.length
 | [],[],_,_=>rfl
 | [],_::_,_,h=>by cases h
 | _::_,[],_,h=>by cases h
 | _::_,_::_,_,h=>by
  obtain ⟨_,_,_,_,_,_,_,_,_,_,hr,_⟩:=h
  simp [vars_len hr]
end Go.Proofs.YtnffeclgboomoaaGreatDoor
