/-
  Joined: FdeW.
-/
import Derived.Test.YthmgampabhbpoaaDoorD17
import Derived.Test.YthmgampabhbpoaaDoorD21
import Derived.Test.YthmgampabhbpoaaDoorD22

namespace Go.Proofs.YthmgampabhbpoaaDoor
set_option maxRecDepth 100000
set_option maxHeartbeats 16000000
open Go.RowKit
set_option linter.unusedVariables false
set_option linter.unusedSimpArgs false

theorem fnExactFindEntry_of (a0:Option Addr) (n0 c0:Nat) (z0:List E3) (key:ByteArray) (hkm:key.size≤maxLen) (re:E3) (hre:re.fits) (hr1:re.2.1.length≤1048576) (hr2:re.2.2.length≤1048576) (e0:Int) (w:World) (h0:Ents w a0 n0 c0 z0) (hTb0:VmShape w)
  (kS:key.size≤1048576→∀ (a0:Option Addr) (n0 c0:Nat) (w:World),Ents w a0 n0 c0 z0→Calls Tryd.prog 20 #[.agg #[.slice a0 n0 c0],.string key] w fun e w'=>(∃ s,e=.returned (.tuple #[entV re.1 s,.int .i64 e0])∧OwnE w' w.heap.size (.slice s.1.1 s.1.2.1 s.1.2.2) (.slice s.2.1 s.2.2.1 s.2.2.2) re)∧Below w.heap.size w w')
  (kI:key.size≤1048576→∀ (a0:Option Addr) (n0 c0:Nat) (w:World),Ents w a0 n0 c0 z0→VmShape w→Calls Tryd.prog 21 #[.agg #[.slice a0 n0 c0],.string key] w fun e w'=>(∃ s,e=.returned (.tuple #[entV re.1 s,.int .i64 e0])∧OwnE w' w.heap.size (.slice s.1.1 s.1.2.1 s.1.2.2) (.slice s.2.1 s.2.2.1 s.2.2.2) re)∧Below w.heap.size w w') :
  Calls Tryd.prog 5 #[.agg #[.slice a0 n0 c0],.string key] w fun e w'=>e=.returned (.bool true)∧Below w.heap.size w w':=by
 unfold maxLen at hkm
 have bw:Below w.heap.size w (w.alloc (.cells #[.slice a0 n0 c0] 36)):=by go_grown
 by_cases hbig:1048576<key.size
 ·have hb2:(1048576:Int)<(key.size:Int):=by omega
  go_enter Tryd.func5,Tryd.ntmps5
  go_wp2
  go_ret
  exact ⟨rfl,bw⟩
 have hb2:¬ (1048576:Int)<(key.size:Int):=by omega
 have hsm:key.size≤1048576:=by omega
 replace kS:=kS hsm
 replace kI:=kI hsm
 have hne:(e0 != e0)=false:=by simp
 clear hbig
 have kEq:=fun s s' w h h'=>eqEntry_same re s s' w h h'
 have kMk:=fun B T s w hB h=>markEntry_own B T s 1 re w (by omega) hr1 hr2 hB h
 have kHd:=fun B s w h=>heldEntry_own B s 1 re w (by omega) hr1 hr2 h re.1
 generalize hrk:re.1=rk at *
 clear hrk
 unfold entV at kEq kMk kHd kS kI
 have f0:=h0.fits
 have kZ:=fun left w h=>szMemo_any a0 n0 c0 z0 left w h
 have kT:=fun w h l1 l2=>toMemo_own a0 n0 c0 z0 w h l1 l2
 have hc0:n0≤n0+costT z0∧∀ t,t<n0→(z0.getD t e3d).2.1.length≤n0+costT z0∧(z0.getD t e3d).2.2.length≤n0+costT z0:=⟨by omega,fun t ht=>by
  have:=cost_at (es:=z0) (t:=t) (by rw [h0.1];exact ht)
  unfold costE at this
  omega⟩
 have hcm0:=cntM_cost z0
 have hl0:=h0.1
 have p0:Blk (w.alloc (.cells #[.slice a0 n0 c0] 36)) w.heap.size 36 [.slice a0 n0 c0]:=blkAt _ _ _ rfl
 go_enter Tryd.func5,Tryd.ntmps5
 go_wp2_with fail
 generalize (w.alloc (.cells #[.slice a0 n0 c0] 36))=U0 at *
 refine (kZ 1048576 _ (h0.below bw) (by omega) (by omega)).mono ?_
 rintro e wz ⟨⟨r0,rfl,hz⟩,hb⟩
 replace bw:=bel8 bw hb
 replace p0:=p0.below hb
 clear hb kZ
 rcases hz with rfl | ⟨hr0,hr1⟩
 ·go_wp2
  go_ret
  exact ⟨rfl,bw⟩
 have hn0:decide (r0<0)=false:=by simp;omega
 replace kT:=fun w h=>kT w h (by omega) (fun t ht=>by have:=hc0.2 t ht;omega)
 have hcj:∀ j,j≤z0.length→cntM z0 j≤10000000:=fun j hj=>by have:=cntM_mono z0 j;omega
 have HRL:Hid (∀ t,t<z0.length→(z0.getD t e3d).2.1.length≤1048576∧(z0.getD t e3d).2.2.length≤1048576):=fun t ht=>by have:=hc0.2 t (by omega);omega
 clear hr1 hr0 hc0 hcm0
 have cc0:=p0.cell 0
 simp only [List.getElem?_cons_zero,List.getElem?_cons_succ] at cc0
 go_wp2_with fail
 clear cc0
 refine (kT _ (h0.below bw)).mono ?_
 rintro e ws1 ⟨rfl,hO,hb⟩
 have hA:=hO.ents f0
 clear hO
 replace bw:=bel8 bw hb
 replace p0:=p0.below hb
 clear hb
 go_wp2_with fail
 refine (kS _ _ _ _ hA).mono ?_
 rintro e ws ⟨⟨⟨⟨sa,sn,sc⟩,⟨sd,se,sf⟩⟩,rfl,hO⟩,hb⟩
 simp only at hO ⊢
 have hT:=hO.top9
 have hbx:Below ws.heap.size ws (ws.alloc (.cells #[.string rk,.slice sa sn sc,.slice sd se sf] 30)):=by go_grown
 have pS:Blk (ws.alloc (.cells #[.string rk,.slice sa sn sc,.slice sd se sf] 30)) ws.heap.size 30 [.string rk,.slice sa sn sc,.slice sd se sf]:=blkAt _ _ _ rfl
 have hS:=hT.below hbx
 have hbb:=bel8 hb hbx
 have hSzS:=hb.size
 clear hO hT
 replace bw:=bel8 bw hbb
 replace p0:=p0.below hbb
 replace hA:=hA.below hbb
 clear hb hbx hbb
 clear hA
 clear kS
 have cc0:=p0.cell 0
 simp only [List.getElem?_cons_zero,List.getElem?_cons_succ] at cc0
 go_wp2_with fail
 clear cc0
 generalize hWy:(ws.alloc (.cells #[.string rk,.slice sa sn sc,.slice sd se sf] 30))=wt at *
 clear hWy
 generalize ws.heap.size=TS at *
 have hTS:TS<wt.heap.size:=pS.lt
 refine (kT _ (h0.below bw)).mono ?_
 rintro e wx ⟨rfl,hX,hb⟩
 have hgw:w.heap.size<wt.heap.size+3:=by have:=p0.lt;omega
 have hgS:TS<wt.heap.size+3:=by omega
 generalize wt.heap.size+3=gx at *
 have hXt:=hX.top9
 have hbx:Below wx.heap.size wx (wx.alloc (.cells #[.slice (some ⟨gx,0,none⟩) n0 n0] 41)):=by go_grown
 have pX:Blk (wx.alloc (.cells #[.slice (some ⟨gx,0,none⟩) n0 n0] 41)) wx.heap.size 41 [.slice (some ⟨gx,0,none⟩) n0 n0]:=blkAt _ _ _ rfl
 have hxle:gx≤wx.heap.size:=by
  obtain ⟨cs9,hc9,_⟩:=hX
  have:=(hc9.lt gx rfl).2
  omega
 replace hXt:=hXt.below hbx
 have hbb:=bel8 hb hbx
 clear hX hTS
 replace bw:=bel8 bw hbb
 replace p0:=p0.below hbb
 replace pS:=pS.below hbb
 replace hS:=hS.below hbb
 clear hb hbx hbb
 have cc0:=pX.cell 0
 simp only [List.getElem?_cons_zero,List.getElem?_cons_succ] at cc0
 go_wp2_with fail
 clear cc0
 generalize hWy:(wx.alloc (.cells #[.slice (some ⟨gx,0,none⟩) n0 n0] 41))=wv at *
 clear hWy
 generalize wx.heap.size=TX at *
 have hgy:TX<wv.heap.size:=pX.lt
 have hEx:=hXt.own.ents f0
 refine (kI _ _ _ _ hEx (hTb0.below bw)).mono ?_
 rintro e wg ⟨⟨⟨⟨ga,gn,gc⟩,⟨gd,ge,gf⟩⟩,rfl,hO⟩,hb⟩
 simp only at hO ⊢
 have hT:=hO.top9
 have hbx:Below wg.heap.size wg (wg.alloc (.cells #[.string rk,.slice ga gn gc,.slice gd ge gf] 30)):=by go_grown
 have pG:Blk (wg.alloc (.cells #[.string rk,.slice ga gn gc,.slice gd ge gf] 30)) wg.heap.size 30 [.string rk,.slice ga gn gc,.slice gd ge gf]:=blkAt _ _ _ rfl
 have hG:=hT.below hbx
 have hbb:=bel8 hb hbx
 have hSzG:=hb.size
 clear hO hT
 replace bw:=bel8 bw hbb
 replace p0:=p0.below hbb
 replace pS:=pS.below hbb
 replace hS:=hS.below hbb
 replace pX:=pX.below hbb
 replace hXt:=hXt.below hbb
 replace hEx:=hEx.below hbb
 clear hb hbx hbb
 have hBw:wv.heap.size≤wg.heap.size:=hSzG
 generalize hBi:wv.heap.size=Bi at *
 clear hBi
 have cg0:=pG.cell 0
 have cg1:=pG.cell 1
 have cg2:=pG.cell 2
 simp only [List.getElem?_cons_zero,List.getElem?_cons_succ] at cg0 cg1 cg2
 have cs0:=pS.cell 0
 have cs1:=pS.cell 1
 have cs2:=pS.cell 2
 simp only [List.getElem?_cons_zero,List.getElem?_cons_succ] at cs0 cs1 cs2
 go_wp2_with fail
 clear cg0 cg1 cg2 cs0 cs1 cs2
 generalize hWy:(wg.alloc (.cells #[.string rk,.slice ga gn gc,.slice gd ge gf] 30))=wh at *
 clear hWy
 generalize wg.heap.size=TG at *
 refine (kEq ((ga,gn,gc),(gd,ge,gf)) ((sa,sn,sc),(sd,se,sf)) _ (OwnE.mem (s:=((ga,gn,gc),(gd,ge,gf))) hG.1 hre) (OwnE.mem (s:=((sa,sn,sc),(sd,se,sf))) hS.1 hre)).mono ?_
 rintro e wk ⟨rfl,hb⟩
 replace bw:=bel8 bw hb
 replace p0:=p0.below hb
 replace pS:=pS.below hb
 replace hS:=hS.below hb
 replace pX:=pX.below hb
 replace hXt:=hXt.below hb
 replace hEx:=hEx.below hb
 replace pG:=pG.below hb
 replace hG:=hG.below hb
 clear hb
 have cV0:=pX.cell 0
 simp only [List.getElem?_cons_zero,List.getElem?_cons_succ] at cV0
 have cC0:=p0.cell 0
 simp only [List.getElem?_cons_zero,List.getElem?_cons_succ] at cC0
 go_wp2_with fail
 have hP:Ents wk.drew a0 n0 c0 z0:=h0.below (bel8 bw (by go_grown))
 have hV:Ents wk.drew (some ⟨gx,0,none⟩) n0 n0 z0:=hEx.below (by go_grown)
 have c8:(fun w':World=>w'.cell? ⟨TX,0,none⟩=some (.slice (some ⟨gx,0,none⟩) n0 n0)∧w'.cell? ⟨w.heap.size,0,none⟩=some (.slice a0 n0 c0)) wk:=⟨cV0,cC0⟩
 clear cV0 cC0
 go_region_held3 (fun w'=>w'.cell? ⟨TX,0,none⟩=some (.slice (some ⟨gx,0,none⟩) n0 n0)∧w'.cell? ⟨w.heap.size,0,none⟩=some (.slice a0 n0 c0)) (first | (exact c8) | (exact c9) | (exact ⟨cells_kept hl _ _ c9.1,cells_kept hl _ _ c9.2⟩))
  (first | (go_at_call 17;refine (kT _ hP).mono ?_;rintro e wu ⟨rfl,hOk,hk⟩;have hD:=hV.below hk;have c9:=(show (fun w':World=>w'.cell? ⟨TX,0,none⟩=some (.slice (some ⟨gx,0,none⟩) n0 n0)∧w'.cell? ⟨w.heap.size,0,none⟩=some (.slice a0 n0 c0)) wu from ⟨cells_kept hk _ _ c8.1,cells_kept hk _ _ c8.2⟩)) | (go_at_call 19;refine (eqMemo_same _ _ _ _ _ z0 _ hD (hOk.ents f0)).mono ?_;rintro e wl ⟨rfl,hl⟩))
 have hbw:Below wk.heap.size wk wl:=bel8 (by go_grown) (bel8 hk hl)
 replace bw:=bel8 bw hbw
 replace p0:=p0.below hbw
 replace pS:=pS.below hbw
 replace hS:=hS.below hbw
 replace pX:=pX.below hbw
 replace hXt:=hXt.below hbw
 replace hEx:=hEx.below hbw
 replace pG:=pG.below hbw
 replace hG:=hG.below hbw
 clear hbw hk hl hD hOk c8 c9 hP hV hEx
 have cc0:=pX.cell 0
 simp only [List.getElem?_cons_zero,List.getElem?_cons_succ] at cc0
 have hsz:gx≤wl.heap.size:=by have:=pX.lt;omega
 go_wp2_with fail
 clear cc0
 refine (markMemo_own gx TX _ 1 z0 _ (by omega) (by omega) hcj HRL.out hsz hXt).mono ?_
 rintro e m0 ⟨rfl,_,hm⟩
 replace bw:Below w.heap.size w m0:=bw.trans (hm.1.mono (by omega))
 replace p0:=p0.belowB hm.1 hgw
 replace pS:=pS.belowB hm.1 hgS
 replace hS:=hS.under hm.1 (by omega)
 replace hG:=hG.mid hm (by omega)
 replace pG:=hm.blk pG (by omega)
 clear hXt pX hsz
 have hck:=hcj z0.length (Nat.le_refl _)
 clear hm
 have hkk:decide (((1:Nat):Int)+cntM z0 z0.length<0)=false:=by simp;omega
 have cg0:=pG.cell 0
 have cg1:=pG.cell 1
 have cg2:=pG.cell 2
 simp only [List.getElem?_cons_zero,List.getElem?_cons_succ] at cg0 cg1 cg2
 have cs0:=pS.cell 0
 have cs1:=pS.cell 1
 have cs2:=pS.cell 2
 simp only [List.getElem?_cons_zero,List.getElem?_cons_succ] at cs0 cs1 cs2
 go_wp2_with fail
 clear cg0 cg1 cg2 cs0 cs1 cs2
 refine (kEq ((ga,gn,gc),(gd,ge,gf)) ((sa,sn,sc),(sd,se,sf)) _ (OwnE.mem (s:=((ga,gn,gc),(gd,ge,gf))) hG.1 hre) (OwnE.mem (s:=((sa,sn,sc),(sd,se,sf))) hS.1 hre)).mono ?_
 rintro e m2 ⟨rfl,hb⟩
 replace bw:=bel8 bw hb
 replace p0:=p0.below hb
 replace pS:=pS.below hb
 replace hS:=hS.below hb
 replace pG:=pG.below hb
 replace hG:=hG.below hb
 clear hb hkk
 have cg0:=pG.cell 0
 have cg1:=pG.cell 1
 have cg2:=pG.cell 2
 simp only [List.getElem?_cons_zero,List.getElem?_cons_succ] at cg0 cg1 cg2
 have hsz:Bi≤m2.heap.size:=by have:=pG.lt;omega
 go_wp2_with fail
 clear cg0 cg1 cg2
 refine (kMk Bi TG ((ga,gn,gc),(gd,ge,gf)) _ hsz hG).mono ?_
 rintro e m3 ⟨rfl,hH,hm⟩
 replace bw:Below w.heap.size w m3:=bw.trans (hm.1.mono (by omega))
 replace p0:=p0.belowB hm.1 (by omega)
 replace pS:=pS.belowB hm.1 (by omega)
 replace hS:=hS.under hm.1 (by omega)
 replace pG:=hm.blk pG (Nat.le_refl _)
 clear hm hG hsz
 have hh0:decide (((1:Nat):Int)+re.2.1.length*3+re.2.2.length<0)=false:=by simp;omega
 have hhn:(((1:Nat):Int)+re.2.1.length*3+re.2.2.length != ((1:Nat):Int)+re.2.1.length*3+re.2.2.length)=false:=by simp
 have cg0:=pG.cell 0
 have cg1:=pG.cell 1
 have cg2:=pG.cell 2
 simp only [List.getElem?_cons_zero,List.getElem?_cons_succ] at cg0 cg1 cg2
 go_wp2_with fail
 clear cg0 cg1 cg2
 refine (kHd Bi ((ga,gn,gc),(gd,ge,gf)) _ hH.1).mono ?_
 rintro e m4 ⟨rfl,hb⟩
 replace bw:=bel8 bw hb
 replace p0:=p0.below hb
 replace pS:=pS.below hb
 replace hS:=hS.below hb
 replace pG:=pG.below hb
 replace hH:=hH.below hb
 clear hb
 have cc0:=p0.cell 0
 simp only [List.getElem?_cons_zero,List.getElem?_cons_succ] at cc0
 go_wp2_with fail
 clear cc0
 refine (kT _ (h0.below bw)).mono ?_
 rintro e wt21 ⟨rfl,hO,hb⟩
 have hA:=hO.ents f0
 clear hO
 replace bw:=bel8 bw hb
 replace p0:=p0.below hb
 replace pS:=pS.below hb
 replace hS:=hS.below hb
 replace pG:=pG.below hb
 replace hH:=hH.below hb
 clear hb
 go_wp2_with fail
 refine (kI _ _ _ _ hA (hTb0.below bw)).mono ?_
 rintro e wt2 ⟨⟨⟨⟨ta,tn,tc⟩,⟨td,te,tf⟩⟩,rfl,hO⟩,hb⟩
 simp only at hO ⊢
 have hT:=hO.top9
 have hbx:Below wt2.heap.size wt2 (wt2.alloc (.cells #[.string rk,.slice ta tn tc,.slice td te tf] 30)):=by go_grown
 have pQ:Blk (wt2.alloc (.cells #[.string rk,.slice ta tn tc,.slice td te tf] 30)) wt2.heap.size 30 [.string rk,.slice ta tn tc,.slice td te tf]:=blkAt _ _ _ rfl
 have hQ:=hT.below hbx
 have hbb:=bel8 hb hbx
 have hSzQ:=hb.size
 clear hO hT
 replace bw:=bel8 bw hbb
 replace p0:=p0.below hbb
 replace pS:=pS.below hbb
 replace hS:=hS.below hbb
 replace pG:=pG.below hbb
 replace hH:=hH.below hbb
 replace hA:=hA.below hbb
 clear hb hbx hbb
 clear hA
 have cg0:=pQ.cell 0
 have cg1:=pQ.cell 1
 have cg2:=pQ.cell 2
 simp only [List.getElem?_cons_zero,List.getElem?_cons_succ] at cg0 cg1 cg2
 have cs0:=pS.cell 0
 have cs1:=pS.cell 1
 have cs2:=pS.cell 2
 simp only [List.getElem?_cons_zero,List.getElem?_cons_succ] at cs0 cs1 cs2
 go_wp2_with fail
 clear cg0 cg1 cg2 cs0 cs1 cs2
 generalize hWy:(wt2.alloc (.cells #[.string rk,.slice ta tn tc,.slice td te tf] 30))=wu2 at *
 clear hWy
 refine (kEq ((ta,tn,tc),(td,te,tf)) ((sa,sn,sc),(sd,se,sf)) _ (OwnE.mem (s:=((ta,tn,tc),(td,te,tf))) hQ.1 hre) (OwnE.mem (s:=((sa,sn,sc),(sd,se,sf))) hS.1 hre)).mono ?_
 rintro e m5 ⟨rfl,hb⟩
 replace bw:=bel8 bw hb
 replace p0:=p0.below hb
 replace pS:=pS.below hb
 replace hS:=hS.below hb
 replace pG:=pG.below hb
 replace hH:=hH.below hb
 replace pQ:=pQ.below hb
 replace hQ:=hQ.below hb
 clear hb hQ hS
 have cg0:=pG.cell 0
 have cg1:=pG.cell 1
 have cg2:=pG.cell 2
 simp only [List.getElem?_cons_zero,List.getElem?_cons_succ] at cg0 cg1 cg2
 go_wp2_with fail
 clear cg0 cg1 cg2
 refine (kHd Bi ((ga,gn,gc),(gd,ge,gf)) _ hH.1).mono ?_
 rintro e m6 ⟨rfl,hb⟩
 replace bw:=bel8 bw hb
 go_wp2
 go_ret
 exact ⟨rfl,bw⟩
end Go.Proofs.YthmgampabhbpoaaDoor
