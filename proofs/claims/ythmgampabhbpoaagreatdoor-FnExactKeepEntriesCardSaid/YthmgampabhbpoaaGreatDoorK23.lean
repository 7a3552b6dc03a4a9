/-
  Joined: KpeW.
-/
import Derived.Test.YthmgampabhbpoaaGreatDoorK21
import Derived.Test.YthmgampabhbpoaaGreatDoorK22

namespace Go.Proofs.YthmgampabhbpoaaGreatDoor
set_option maxRecDepth 100000
set_option maxHeartbeats 16000000
open Go.RowKit
set_option linter.unusedVariables false
set_option linter.unusedSimpArgs false

theorem fnExactKeepEntries_of (a0:Option Addr) (n0 c0:Nat) (z0:List E3) (a1:Option Addr) (n1 c1:Nat) (zl:List Int) (re:List E3) (hre:∀ e ∈ re,e.fits) (hrc:∀ j,j≤re.length→cntM re j≤10000000) (hrl:∀ t,t<re.length→(re.getD t e3d).2.1.length≤1048576∧(re.getD t e3d).2.2.length≤1048576) (e0:Int) (w:World) (h0:Ents w a0 n0 c0 z0) (h1:Ints .i64 w a1 n1 c1 zl) (hTb0:VmShape w)
  (kS:n1≤1048576→∀ (a0:Option Addr) (n0 c0:Nat) (a1:Option Addr) (c1:Nat) (w:World),Ents w a0 n0 c0 z0→Ints .i64 w a1 n1 c1 zl→Calls Tryz.prog 9 #[.agg #[.slice a0 n0 c0],.slice a1 n1 c1] w fun e w'=>(∃ v,e=.returned (.tuple #[.agg #[v],.int .i64 e0])∧OwnM w' w.heap.size v re)∧Below w.heap.size w w')
  (kI:n1≤1048576→∀ (a0:Option Addr) (n0 c0:Nat) (a1:Option Addr) (c1:Nat) (w:World),Ents w a0 n0 c0 z0→Ints .i64 w a1 n1 c1 zl→VmShape w→Calls Tryz.prog 8 #[.agg #[.slice a0 n0 c0],.slice a1 n1 c1] w fun e w'=>(∃ v,e=.returned (.tuple #[.agg #[v],.int .i64 e0])∧OwnM w' w.heap.size v re)∧Below w.heap.size w w') :
  Calls Tryz.prog 5 #[.agg #[.slice a0 n0 c0],.slice a1 n1 c1] w fun e w'=>e=.returned (.bool true)∧Below w.heap.size w w':=by
 have hm1:n1≤maxLen:=Nat.le_trans h1.2.1 h1.2.2.1
 unfold maxLen at hm1
 have bw:Below w.heap.size w (w.alloc (.cells #[.slice a0 n0 c0] 48)):=by go_grown
 by_cases hbig:1048576<n1
 ·have hb2:(1048576:Int)<(n1:Int):=by omega
  go_enter Tryz.func5,Tryz.ntmps5
  go_wp2
  go_ret
  exact ⟨rfl,bw⟩
 have hb2:¬ (1048576:Int)<(n1:Int):=by omega
 have hsm:n1≤1048576:=by omega
 replace kS:=kS hsm
 replace kI:=kI hsm
 have hne:(e0 != e0)=false:=by simp
 clear hbig
 have kL:=fun W (hb:Below w.heap.size w W)=>to8 a1 n1 c1 zl W (h1.below hb) hsm
 have hlz:=h1.1
 have f0:=h0.fits
 have kZ:=fun left w h=>szMemo_any a0 n0 c0 z0 left w h
 have kT:=fun w h l1 l2=>toMemo_own a0 n0 c0 z0 w h l1 l2
 have hc0:n0≤n0+costT z0∧∀ t,t<n0→(z0.getD t e3d).2.1.length≤n0+costT z0∧(z0.getD t e3d).2.2.length≤n0+costT z0:=⟨by omega,fun t ht=>by
  have:=cost_at (es:=z0) (t:=t) (by rw [h0.1];exact ht)
  unfold costE at this
  omega⟩
 have hcm0:=cntM_cost z0
 have hl0:=h0.1
 have p0:Blk (w.alloc (.cells #[.slice a0 n0 c0] 48)) w.heap.size 48 [.slice a0 n0 c0]:=blkAt _ _ _ rfl
 go_enter Tryz.func5,Tryz.ntmps5
 go_wp2_with fail
 generalize (w.alloc (.cells #[.slice a0 n0 c0] 48))=U0 at *
 refine (kZ 1048576 _ (h0.below bw) (by omega) (by omega)).mono ?_
 rintro e wz ⟨⟨r0,rfl,hz⟩,hb⟩
 replace bw:=bel8 bw hb
 replace p0:=p0.below hb
 clear hb kZ
 rcases hz with rfl | ⟨hr0,hr1⟩
 ·go_wp2
  go_ret
  exact ⟨rfl,bw⟩
 have hn0:decide (r0<0)=false:=by simp;omega
 replace kT:=fun w h=>kT w h (by omega) (fun t ht=>by have:=hc0.2 t ht;omega)
 have hcj:∀ j,j≤z0.length→cntM z0 j≤10000000:=fun j hj=>by have:=cntM_mono z0 j;omega
 have HRL:Hid (∀ t,t<z0.length→(z0.getD t e3d).2.1.length≤1048576∧(z0.getD t e3d).2.2.length≤1048576):=fun t ht=>by have:=hc0.2 t (by omega);omega
 clear hr1 hr0 hc0 hcm0
 have cc0:=p0.cell 0
 simp only [List.getElem?_cons_zero,List.getElem?_cons_succ] at cc0
 go_wp2_with fail
 clear cc0
 refine (kT _ (h0.below bw)).mono ?_
 rintro e ws1 ⟨rfl,hO,hb⟩
 have hA:=hO.ents f0
 clear hO
 replace bw:=bel8 bw hb
 replace p0:=p0.below hb
 clear hb
 go_wp2_with fail
 refine (kL _ bw).mono ?_
 rintro e ws2 ⟨rfl,⟨gL,hgL,hO⟩,hb⟩
 have hJ:=ints8 hO
 rw [← hgL]
 clear hO hgL
 replace bw:=bel8 bw hb
 replace p0:=p0.below hb
 replace hA:=hA.below hb
 clear hb
 go_wp2_with fail
 refine (kS _ _ _ _ _ _ hA hJ).mono ?_
 rintro e ws ⟨⟨v,rfl,hO⟩,hb⟩
 obtain ⟨sa,sc,rfl⟩:=hO.slice9
 have hT:=hO.top9
 have hbx:Below ws.heap.size ws (ws.alloc (.cells #[.slice sa re.length sc] 25)):=by go_grown
 have pS:Blk (ws.alloc (.cells #[.slice sa re.length sc] 25)) ws.heap.size 25 [.slice sa re.length sc]:=blkAt _ _ _ rfl
 have hS:=hT.below hbx
 have hbb:=bel8 hb hbx
 have hSzS:=hb.size
 clear hO hT
 replace bw:=bel8 bw hbb
 replace p0:=p0.below hbb
 replace hA:=hA.below hbb
 replace hJ:=hJ.below hbb
 clear hb hbx hbb
 clear hA
 clear hJ
 clear kS
 have cc0:=p0.cell 0
 simp only [List.getElem?_cons_zero,List.getElem?_cons_succ] at cc0
 go_wp2_with fail
 clear cc0
 generalize hWy:(ws.alloc (.cells #[.slice sa re.length sc] 25))=wt at *
 clear hWy
 generalize ws.heap.size=TS at *
 have hTS:TS<wt.heap.size:=pS.lt
 refine (kT _ (h0.below bw)).mono ?_
 rintro e wx ⟨rfl,hX,hb⟩
 have hgw:w.heap.size<wt.heap.size+3:=by have:=p0.lt;omega
 have hgS:TS<wt.heap.size+3:=by omega
 generalize wt.heap.size+3=gx at *
 have hXt:=hX.top9
 have hbx:Below wx.heap.size wx (wx.alloc (.cells #[.slice (some ⟨gx,0,none⟩) n0 n0] 25)):=by go_grown
 have pX:Blk (wx.alloc (.cells #[.slice (some ⟨gx,0,none⟩) n0 n0] 25)) wx.heap.size 25 [.slice (some ⟨gx,0,none⟩) n0 n0]:=blkAt _ _ _ rfl
 have hxle:gx≤wx.heap.size:=by
  obtain ⟨cs9,hc9,_⟩:=hX
  have:=(hc9.lt gx rfl).2
  omega
 replace hXt:=hXt.below hbx
 have hbb:=bel8 hb hbx
 clear hX hTS
 replace bw:=bel8 bw hbb
 replace p0:=p0.below hbb
 replace pS:=pS.below hbb
 replace hS:=hS.below hbb
 clear hb hbx hbb
 go_wp2_with fail
 generalize hWy:(wx.alloc (.cells #[.slice (some ⟨gx,0,none⟩) n0 n0] 25))=wy at *
 clear hWy
 generalize wx.heap.size=TX at *
 have hTX:TX<wy.heap.size:=pX.lt
 refine (kL _ bw).mono ?_
 rintro e wv ⟨rfl,⟨gl,hgl,hO⟩,hb⟩
 rw [← hgl]
 have hX1:OwnL9 wv wy.heap.size (.slice (some ⟨gl,0,none⟩) n1 n1) zl:=by unfold OwnL9;rw [hlz];exact hO
 have hglt:gl<wv.heap.size:=(hX1.lt gl rfl).2
 have hgy:TX<gl:=by omega
 clear hO
 replace bw:=bel8 bw hb
 replace p0:=p0.below hb
 replace pS:=pS.below hb
 replace hS:=hS.below hb
 replace pX:=pX.below hb
 replace hXt:=hXt.below hb
 clear hb
 rw [← hgl] at hX1
 clear hgl hTX
 have cc0:=pX.cell 0
 simp only [List.getElem?_cons_zero,List.getElem?_cons_succ] at cc0
 go_wp2_with fail
 clear cc0
 have hEx:=hXt.own.ents f0
 have hJx:=ints8 (show wv.ownsRow gl 3 1 (.slice (some ⟨gl,0,none⟩) n1 n1) n1 (zl.map (Value.int .i64)) by have:=hX1;unfold OwnL9 at this;rw [hlz] at this;exact this)
 refine (kI _ _ _ _ _ _ hEx hJx (hTb0.below bw)).mono ?_
 rintro e wg ⟨⟨v,rfl,hO⟩,hb⟩
 obtain ⟨ga,gc,rfl⟩:=hO.slice9
 have hT:=hO.top9
 have hbx:Below wg.heap.size wg (wg.alloc (.cells #[.slice ga re.length gc] 25)):=by go_grown
 have pG:Blk (wg.alloc (.cells #[.slice ga re.length gc] 25)) wg.heap.size 25 [.slice ga re.length gc]:=blkAt _ _ _ rfl
 have hG:=hT.below hbx
 have hbb:=bel8 hb hbx
 have hSzG:=hb.size
 clear hO hT
 replace bw:=bel8 bw hbb
 replace p0:=p0.below hbb
 replace pS:=pS.below hbb
 replace hS:=hS.below hbb
 replace pX:=pX.below hbb
 replace hXt:=hXt.below hbb
 replace hX1:=hX1.below hbb
 replace hEx:=hEx.below hbb
 replace hJx:=hJx.below hbb
 clear hb hbx hbb
 have hBw:wv.heap.size≤wg.heap.size:=hSzG
 generalize hBi:wv.heap.size=Bi at *
 clear hBi
 have cg0:=pG.cell 0
 simp only [List.getElem?_cons_zero,List.getElem?_cons_succ] at cg0
 have cs0:=pS.cell 0
 simp only [List.getElem?_cons_zero,List.getElem?_cons_succ] at cs0
 go_wp2_with fail
 clear cg0 cs0
 generalize hWy:(wg.alloc (.cells #[.slice ga re.length gc] 25))=wh at *
 clear hWy
 generalize wg.heap.size=TG at *
 refine (eqMemo_same _ _ _ _ _ re _ (hG.own.ents hre) (hS.own.ents hre)).mono ?_
 rintro e wk ⟨rfl,hb⟩
 replace bw:=bel8 bw hb
 replace p0:=p0.below hb
 replace pS:=pS.below hb
 replace hS:=hS.below hb
 replace pX:=pX.below hb
 replace hXt:=hXt.below hb
 replace hX1:=hX1.below hb
 replace hEx:=hEx.below hb
 replace hJx:=hJx.below hb
 replace pG:=pG.below hb
 replace hG:=hG.below hb
 clear hb
 have cV0:=pX.cell 0
 simp only [List.getElem?_cons_zero,List.getElem?_cons_succ] at cV0
 have cC0:=p0.cell 0
 simp only [List.getElem?_cons_zero,List.getElem?_cons_succ] at cC0
 go_wp2_with fail
 have hP:Ents wk.drew a0 n0 c0 z0:=h0.below (bel8 bw (by go_grown))
 have hV:Ents wk.drew (some ⟨gx,0,none⟩) n0 n0 z0:=hEx.below (by go_grown)
 have c8:(fun w':World=>w'.cell? ⟨TX,0,none⟩=some (.slice (some ⟨gx,0,none⟩) n0 n0)∧w'.cell? ⟨w.heap.size,0,none⟩=some (.slice a0 n0 c0)) wk:=⟨cV0,cC0⟩
 clear cV0 cC0
 go_region_held3 (fun w'=>w'.cell? ⟨TX,0,none⟩=some (.slice (some ⟨gx,0,none⟩) n0 n0)∧w'.cell? ⟨w.heap.size,0,none⟩=some (.slice a0 n0 c0)) (first | (exact c8) | (exact c9) | (exact ⟨cells_kept hl _ _ c9.1,cells_kept hl _ _ c9.2⟩))
  (first | (go_at_call 21;refine (kT _ hP).mono ?_;rintro e wu ⟨rfl,hOk,hk⟩;have hD:=hV.below hk;have c9:=(show (fun w':World=>w'.cell? ⟨TX,0,none⟩=some (.slice (some ⟨gx,0,none⟩) n0 n0)∧w'.cell? ⟨w.heap.size,0,none⟩=some (.slice a0 n0 c0)) wu from ⟨cells_kept hk _ _ c8.1,cells_kept hk _ _ c8.2⟩)) | (go_at_call 23;refine (eqMemo_same _ _ _ _ _ z0 _ hD (hOk.ents f0)).mono ?_;rintro e wl ⟨rfl,hl⟩))
 have hbw:Below wk.heap.size wk wl:=bel8 (by go_grown) (bel8 hk hl)
 replace bw:=bel8 bw hbw
 replace p0:=p0.below hbw
 replace pS:=pS.below hbw
 replace hS:=hS.below hbw
 replace pX:=pX.below hbw
 replace hXt:=hXt.below hbw
 replace hX1:=hX1.below hbw
 replace hEx:=hEx.below hbw
 replace hJx:=hJx.below hbw
 replace pG:=pG.below hbw
 replace hG:=hG.below hbw
 clear hbw hk hl hD hOk c8 c9 hP hV hEx
 go_wp2_with fail
 refine (kL _ bw).mono ?_
 rintro e wl2 ⟨rfl,⟨gM,hgM,hO⟩,hb⟩
 have hJ:=ints8 hO
 rw [← hgM]
 clear hO hgM
 replace bw:=bel8 bw hb
 replace p0:=p0.below hb
 replace pS:=pS.below hb
 replace hS:=hS.below hb
 replace pX:=pX.below hb
 replace hXt:=hXt.below hb
 replace hX1:=hX1.below hb
 replace hJx:=hJx.below hb
 replace pG:=pG.below hb
 replace hG:=hG.below hb
 clear hb
 go_wp2_with fail
 refine (eq8 _ _ _ _ _ _ _ hJx hJ).mono ?_
 rintro e wl3 ⟨rfl,hb⟩
 replace bw:=bel8 bw hb
 replace p0:=p0.below hb
 replace pS:=pS.below hb
 replace hS:=hS.below hb
 replace pX:=pX.below hb
 replace hXt:=hXt.below hb
 replace hX1:=hX1.below hb
 replace hJx:=hJx.below hb
 replace pG:=pG.below hb
 replace hG:=hG.below hb
 clear hb hJ hJx
 have cc0:=pX.cell 0
 simp only [List.getElem?_cons_zero,List.getElem?_cons_succ] at cc0
 have hsz:gx≤wl3.heap.size:=by have:=pX.lt;omega
 go_wp2_with fail
 clear cc0
 refine (markMemo_own gx TX _ 1 z0 _ (by omega) (by omega) hcj HRL.out hsz hXt).mono ?_
 rintro e m0 ⟨rfl,_,hm⟩
 replace bw:Below w.heap.size w m0:=bw.trans (hm.1.mono (by omega))
 replace p0:=p0.belowB hm.1 hgw
 replace pS:=pS.belowB hm.1 hgS
 replace hS:=hS.under hm.1 (by omega)
 replace hG:=hG.mid hm (by omega)
 replace pG:=hm.blk pG (by omega)
 clear hXt pX hsz
 have hck:=hcj z0.length (Nat.le_refl _)
 have hkb:(0:Int)≤((1:Nat):Int)+(cntM z0 z0.length:Int)∧((1:Nat):Int)+(cntM z0 z0.length:Int)≤10000001:=by omega
 generalize ((1:Nat):Int)+(cntM z0 z0.length:Int)=kc at *
 obtain ⟨hkb0,hkb1⟩:=hkb
 clear hck hcj HRL
 replace hX1:OwnL9 m0 gl (.slice (some ⟨gl,0,none⟩) n1 n1) zl:=hm.owns hX1 (by omega)
 clear hm
 have hgm:gl≤m0.heap.size:=Nat.le_of_lt ((hX1.lt gl rfl).2)
 go_wp2_with fail
 refine (markAny8 gl _ (kc) zl _ (by omega) (by omega) (by omega) hX1).mono ?_
 rintro e m1 ⟨rfl,_,hg⟩
 have hm:Mid9 gl (gl+1) m0 m1:=(Mid9.refl _ _ _).step hg hgm (fun x hx=>by cases hx;exact Nat.le_refl _) (fun x hx=>by cases hx;exact Nat.lt_succ_self _)
 replace bw:Below w.heap.size w m1:=bw.trans (hm.1.mono (by omega))
 replace p0:=p0.belowB hm.1 (by omega)
 replace pS:=pS.belowB hm.1 (by omega)
 replace hS:=hS.under hm.1 (by omega)
 replace hG:=hG.mid hm (by omega)
 replace pG:=hm.blk pG (by omega)
 clear hm hg hgm hX1
 have hkk:decide (kc+zl.length<0)=false:=by simp;omega
 have cg0:=pG.cell 0
 simp only [List.getElem?_cons_zero,List.getElem?_cons_succ] at cg0
 have cs0:=pS.cell 0
 simp only [List.getElem?_cons_zero,List.getElem?_cons_succ] at cs0
 go_wp2_with fail
 clear cg0 cs0
 refine (eqMemo_same _ _ _ _ _ re _ (hG.own.ents hre) (hS.own.ents hre)).mono ?_
 rintro e m2 ⟨rfl,hb⟩
 replace bw:=bel8 bw hb
 replace p0:=p0.below hb
 replace pS:=pS.below hb
 replace hS:=hS.below hb
 replace pG:=pG.below hb
 replace hG:=hG.below hb
 clear hb hkk
 have cg0:=pG.cell 0
 simp only [List.getElem?_cons_zero,List.getElem?_cons_succ] at cg0
 have hsz:Bi≤m2.heap.size:=by have:=pG.lt;omega
 go_wp2_with fail
 clear cg0
 refine (markMemo_own Bi TG _ 1 re _ (by omega) (by omega) hrc hrl hsz hG).mono ?_
 rintro e m3 ⟨rfl,hH,hm⟩
 replace bw:Below w.heap.size w m3:=bw.trans (hm.1.mono (by omega))
 replace p0:=p0.belowB hm.1 (by omega)
 replace pS:=pS.belowB hm.1 (by omega)
 replace hS:=hS.under hm.1 (by omega)
 replace pG:=hm.blk pG (Nat.le_refl _)
 clear hm hG hsz
 have hcr:=hrc re.length (Nat.le_refl _)
 have hh0:decide (((1:Nat):Int)+cntM re re.length<0)=false:=by simp;omega
 have hhn:(((1:Nat):Int)+cntM re re.length != ((1:Nat):Int)+cntM re re.length)=false:=by simp
 have cg0:=pG.cell 0
 simp only [List.getElem?_cons_zero,List.getElem?_cons_succ] at cg0
 go_wp2_with fail
 clear cg0
 refine (heldMemo_own Bi _ 1 re _ (by omega) (by omega) hrc hrl hH.own).mono ?_
 rintro e m4 ⟨rfl,hb⟩
 replace bw:=bel8 bw hb
 replace p0:=p0.below hb
 replace pS:=pS.below hb
 replace hS:=hS.below hb
 replace pG:=pG.below hb
 replace hH:=hH.below hb
 clear hb
 have cc0:=p0.cell 0
 simp only [List.getElem?_cons_zero,List.getElem?_cons_succ] at cc0
 go_wp2_with fail
 clear cc0
 refine (kT _ (h0.below bw)).mono ?_
 rintro e wt21 ⟨rfl,hO,hb⟩
 have hA:=hO.ents f0
 clear hO
 replace bw:=bel8 bw hb
 replace p0:=p0.below hb
 replace pS:=pS.below hb
 replace hS:=hS.below hb
 replace pG:=pG.below hb
 replace hH:=hH.below hb
 clear hb
 go_wp2_with fail
 refine (kL _ bw).mono ?_
 rintro e wt22 ⟨rfl,⟨gL,hgL,hO⟩,hb⟩
 have hJ:=ints8 hO
 rw [← hgL]
 clear hO hgL
 replace bw:=bel8 bw hb
 replace p0:=p0.below hb
 replace pS:=pS.below hb
 replace hS:=hS.below hb
 replace pG:=pG.below hb
 replace hH:=hH.below hb
 replace hA:=hA.below hb
 clear hb
 go_wp2_with fail
 refine (kI _ _ _ _ _ _ hA hJ (hTb0.below bw)).mono ?_
 rintro e wt2 ⟨⟨v,rfl,hO⟩,hb⟩
 obtain ⟨ta,tc,rfl⟩:=hO.slice9
 have hT:=hO.top9
 have hbx:Below wt2.heap.size wt2 (wt2.alloc (.cells #[.slice ta re.length tc] 25)):=by go_grown
 have pQ:Blk (wt2.alloc (.cells #[.slice ta re.length tc] 25)) wt2.heap.size 25 [.slice ta re.length tc]:=blkAt _ _ _ rfl
 have hQ:=hT.below hbx
 have hbb:=bel8 hb hbx
 have hSzQ:=hb.size
 clear hO hT
 replace bw:=bel8 bw hbb
 replace p0:=p0.below hbb
 replace pS:=pS.below hbb
 replace hS:=hS.below hbb
 replace pG:=pG.below hbb
 replace hH:=hH.below hbb
 replace hA:=hA.below hbb
 replace hJ:=hJ.below hbb
 clear hb hbx hbb
 clear hA
 clear hJ
 have cg0:=pQ.cell 0
 simp only [List.getElem?_cons_zero,List.getElem?_cons_succ] at cg0
 have cs0:=pS.cell 0
 simp only [List.getElem?_cons_zero,List.getElem?_cons_succ] at cs0
 go_wp2_with fail
 clear cg0 cs0
 generalize hWy:(wt2.alloc (.cells #[.slice ta re.length tc] 25))=wu2 at *
 clear hWy
 refine (eqMemo_same _ _ _ _ _ re _ (hQ.own.ents hre) (hS.own.ents hre)).mono ?_
 rintro e m5 ⟨rfl,hb⟩
 replace bw:=bel8 bw hb
 replace p0:=p0.below hb
 replace pS:=pS.below hb
 replace hS:=hS.below hb
 replace pG:=pG.below hb
 replace hH:=hH.below hb
 replace pQ:=pQ.below hb
 replace hQ:=hQ.below hb
 clear hb hQ hS
 have cg0:=pG.cell 0
 simp only [List.getElem?_cons_zero,List.getElem?_cons_succ] at cg0
 go_wp2_with fail
 clear cg0
 refine (heldMemo_own Bi _ 1 re _ (by omega) (by omega) hrc hrl hH.own).mono ?_
 rintro e m6 ⟨rfl,hb⟩
 replace bw:=bel8 bw hb
 go_wp2
 go_ret
 exact ⟨rfl,bw⟩
end Go.Proofs.YthmgampabhbpoaaGreatDoor
