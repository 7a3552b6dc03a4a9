/-
  Joined: RdeW.
-/
import Derived.Test.YthlcdhddickdiaaDoorR15
import Derived.Test.YthlcdhddickdiaaDoorR17
import Derived.Test.YthlcdhddickdiaaDoorR18

namespace Go.Proofs.YthlcdhddickdiaaDoor
set_option maxRecDepth 100000
set_option maxHeartbeats 16000000
open Go.RowKit
set_option linter.unusedVariables false
set_option linter.unusedSimpArgs false

theorem fnExactReadEntry_of (key:ByteArray) (hkm:key.size≤maxLen) (re:E3) (hre:re.fits) (hr1:re.2.1.length≤1048576) (hr2:re.2.2.length≤1048576) (e0:Int) (w:World)  (hTb0:VmShape w) (hTb1:ErrType w)
  (kS:key.size≤1048576→∀  (w:World),Calls Tryd.prog 17 #[.string key] w fun e w'=>(∃ s,e=.returned (.tuple #[entV re.1 s,.int .i64 e0])∧OwnE w' w.heap.size (.slice s.1.1 s.1.2.1 s.1.2.2) (.slice s.2.1 s.2.2.1 s.2.2.2) re)∧Below w.heap.size w w')
  (kI:key.size≤1048576→∀  (w:World),VmShape w→ErrType w→Calls Tryd.prog 18 #[.string key] w fun e w'=>(∃ s,e=.returned (.tuple #[entV re.1 s,.int .i64 e0])∧OwnF w' w.heap.size w'.heap.size s re)∧Below w.heap.size w w') :
  Calls Tryd.prog 4 #[.string key] w fun e w'=>e=.returned (.bool true)∧Below w.heap.size w w':=by
 unfold maxLen at hkm
 have bw:Below w.heap.size w w:=Below.refl _ _
 by_cases hbig:1048576<key.size
 ·have hb2:(1048576:Int)<(key.size:Int):=by omega
  go_enter Tryd.func4,Tryd.ntmps4
  go_wp2
  go_ret
  exact ⟨rfl,bw⟩
 have hb2:¬ (1048576:Int)<(key.size:Int):=by omega
 have hsm:key.size≤1048576:=by omega
 replace kS:=kS hsm
 replace kI:=kI hsm
 have hne:(e0 != e0)=false:=by simp
 clear hbig
 have kEq:=fun s s' w h h'=>eqEntry_same re s s' w h h'
 have kMk:=fun B T s w hB h=>markEntry_off B T s 1 re w (by omega) hr1 hr2 hB h
 have kHd:=fun B T s w h=>heldEntry_off B T s 1 re w (by omega) hr1 hr2 h re.1
 generalize hrk:re.1=rk at *
 clear hrk
 unfold entV at kEq kMk kHd kS kI
 go_enter Tryd.func4,Tryd.ntmps4
 go_wp2_with fail
 refine (kS  _ ).mono ?_
 rintro e ws ⟨⟨⟨⟨sa,sn,sc⟩,⟨sd,se,sf⟩⟩,rfl,hO⟩,hb⟩
 simp only at hO ⊢
 have hT:=hO.top9
 have hbx:Below ws.heap.size ws (ws.alloc (.cells #[.string rk,.slice sa sn sc,.slice sd se sf] 39)):=by go_grown
 have pS:Blk (ws.alloc (.cells #[.string rk,.slice sa sn sc,.slice sd se sf] 39)) ws.heap.size 39 [.string rk,.slice sa sn sc,.slice sd se sf]:=blkAt _ _ _ rfl
 have hS:=hT.below hbx
 have hbb:=bel8 hb hbx
 have hSzS:=hb.size
 clear hO hT
 replace bw:=bel8 bw hbb
 clear hb hbx hbb
 clear kS
 go_wp2_with fail
 generalize hWy:(ws.alloc (.cells #[.string rk,.slice sa sn sc,.slice sd se sf] 39))=wv at *
 clear hWy
 generalize ws.heap.size=TS at *
 have hgS:TS<wv.heap.size:=pS.lt
 refine (kI  _  (hTb0.below bw) (hTb1.below bw)).mono ?_
 rintro e wg ⟨⟨⟨⟨ga,gn,gc⟩,⟨gd,ge,gf⟩⟩,rfl,hO⟩,hb⟩
 simp only at hO ⊢
 have hT:=hO
 have hbx:Below wg.heap.size wg (wg.alloc (.cells #[.string rk,.slice ga gn gc,.slice gd ge gf] 39)):=by go_grown
 have pG:Blk (wg.alloc (.cells #[.string rk,.slice ga gn gc,.slice gd ge gf] 39)) wg.heap.size 39 [.string rk,.slice ga gn gc,.slice gd ge gf]:=blkAt _ _ _ rfl
 have hG:=hT.below hbx
 have hbb:=bel8 hb hbx
 have hSzG:=hb.size
 clear hO hT
 replace bw:=bel8 bw hbb
 replace pS:=pS.below hbb
 replace hS:=hS.below hbb
 clear hb hbx hbb
 generalize hBi:wv.heap.size=Bi at *
 clear hBi
 have cg0:=pG.cell 0
 have cg1:=pG.cell 1
 have cg2:=pG.cell 2
 simp only [List.getElem?_cons_zero,List.getElem?_cons_succ] at cg0 cg1 cg2
 have cs0:=pS.cell 0
 have cs1:=pS.cell 1
 have cs2:=pS.cell 2
 simp only [List.getElem?_cons_zero,List.getElem?_cons_succ] at cs0 cs1 cs2
 go_wp2_with fail
 clear cg0 cg1 cg2 cs0 cs1 cs2
 generalize hWy:(wg.alloc (.cells #[.string rk,.slice ga gn gc,.slice gd ge gf] 39))=wh at *
 clear hWy
 generalize wg.heap.size=TG at *
 refine (kEq ((ga,gn,gc),(gd,ge,gf)) ((sa,sn,sc),(sd,se,sf)) _ (OwnF.mem (s:=((ga,gn,gc),(gd,ge,gf))) hG hre) (OwnE.mem (s:=((sa,sn,sc),(sd,se,sf))) hS.1 hre)).mono ?_
 rintro e wk ⟨rfl,hb⟩
 replace bw:=bel8 bw hb
 replace pS:=pS.below hb
 replace hS:=hS.below hb
 replace pG:=pG.below hb
 replace hG:=hG.below hb
 clear hb
 have cg0:=pG.cell 0
 have cg1:=pG.cell 1
 have cg2:=pG.cell 2
 simp only [List.getElem?_cons_zero,List.getElem?_cons_succ] at cg0 cg1 cg2
 have hsz:Bi≤wk.heap.size:=by have:=pG.lt;omega
 go_wp2_with fail
 clear cg0 cg1 cg2
 refine (kMk Bi TG ((ga,gn,gc),(gd,ge,gf)) _ hsz hG).mono ?_
 rintro e m3 ⟨rfl,hH,hm⟩
 replace bw:Below w.heap.size w m3:=bw.trans (hm.1.mono (by omega))
 replace pS:=pS.belowB hm.1 (by omega)
 replace hS:=hS.under hm.1 (by omega)
 replace pG:=hm.blk pG (Nat.le_refl _)
 clear hm hG hsz
 have hh0:decide (((1:Nat):Int)+re.2.1.length*3+re.2.2.length<0)=false:=by simp;omega
 have hhn:(((1:Nat):Int)+re.2.1.length*3+re.2.2.length != ((1:Nat):Int)+re.2.1.length*3+re.2.2.length)=false:=by simp
 have cg0:=pG.cell 0
 have cg1:=pG.cell 1
 have cg2:=pG.cell 2
 simp only [List.getElem?_cons_zero,List.getElem?_cons_succ] at cg0 cg1 cg2
 go_wp2_with fail
 clear cg0 cg1 cg2
 refine (kHd Bi TG ((ga,gn,gc),(gd,ge,gf)) _ hH).mono ?_
 rintro e m4 ⟨rfl,hb⟩
 replace bw:=bel8 bw hb
 replace pS:=pS.below hb
 replace hS:=hS.below hb
 replace pG:=pG.below hb
 replace hH:=hH.below hb
 clear hb
 go_wp2_with fail
 refine (kI  _  (hTb0.below bw) (hTb1.below bw)).mono ?_
 rintro e wt2 ⟨⟨⟨⟨ta,tn,tc⟩,⟨td,te,tf⟩⟩,rfl,hO⟩,hb⟩
 simp only at hO ⊢
 have hT:=hO
 have hbx:Below wt2.heap.size wt2 (wt2.alloc (.cells #[.string rk,.slice ta tn tc,.slice td te tf] 39)):=by go_grown
 have pQ:Blk (wt2.alloc (.cells #[.string rk,.slice ta tn tc,.slice td te tf] 39)) wt2.heap.size 39 [.string rk,.slice ta tn tc,.slice td te tf]:=blkAt _ _ _ rfl
 have hQ:=hT.below hbx
 have hbb:=bel8 hb hbx
 have hSzQ:=hb.size
 clear hO hT
 replace bw:=bel8 bw hbb
 replace pS:=pS.below hbb
 replace hS:=hS.below hbb
 replace pG:=pG.below hbb
 replace hH:=hH.below hbb
 clear hb hbx hbb
 have cg0:=pQ.cell 0
 have cg1:=pQ.cell 1
 have cg2:=pQ.cell 2
 simp only [List.getElem?_cons_zero,List.getElem?_cons_succ] at cg0 cg1 cg2
 have cs0:=pS.cell 0
 have cs1:=pS.cell 1
 have cs2:=pS.cell 2
 simp only [List.getElem?_cons_zero,List.getElem?_cons_succ] at cs0 cs1 cs2
 go_wp2_with fail
 clear cg0 cg1 cg2 cs0 cs1 cs2
 generalize hWy:(wt2.alloc (.cells #[.string rk,.slice ta tn tc,.slice td te tf] 39))=wu2 at *
 clear hWy
 refine (kEq ((ta,tn,tc),(td,te,tf)) ((sa,sn,sc),(sd,se,sf)) _ (OwnF.mem (s:=((ta,tn,tc),(td,te,tf))) hQ hre) (OwnE.mem (s:=((sa,sn,sc),(sd,se,sf))) hS.1 hre)).mono ?_
 rintro e m5 ⟨rfl,hb⟩
 replace bw:=bel8 bw hb
 replace pS:=pS.below hb
 replace hS:=hS.below hb
 replace pG:=pG.below hb
 replace hH:=hH.below hb
 replace pQ:=pQ.below hb
 replace hQ:=hQ.below hb
 clear hb hQ hS
 have cg0:=pG.cell 0
 have cg1:=pG.cell 1
 have cg2:=pG.cell 2
 simp only [List.getElem?_cons_zero,List.getElem?_cons_succ] at cg0 cg1 cg2
 go_wp2_with fail
 clear cg0 cg1 cg2
 refine (kHd Bi TG ((ga,gn,gc),(gd,ge,gf)) _ hH).mono ?_
 rintro e m6 ⟨rfl,hb⟩
 replace bw:=bel8 bw hb
 go_wp2
 go_ret
 exact ⟨rfl,bw⟩
end Go.Proofs.YthlcdhddickdiaaDoor
