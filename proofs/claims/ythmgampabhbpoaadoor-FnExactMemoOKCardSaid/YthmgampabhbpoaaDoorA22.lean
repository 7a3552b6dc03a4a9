/-
  Joined: MokW.
-/
import Derived.Test.YthmgampabhbpoaaDoorA15
import Derived.Test.YthmgampabhbpoaaDoorA20
import Derived.Test.YthmgampabhbpoaaDoorA21

namespace Go.Proofs.YthmgampabhbpoaaDoor
set_option maxRecDepth 100000
set_option maxHeartbeats 16000000
open Go.RowKit
set_option linter.unusedVariables false
set_option linter.unusedSimpArgs false

theorem fnExactMemoOK_of (a0:Option Addr) (n0 c0:Nat) (z0:List E3) (x0:Bool) (w:World) (h0:Ents w a0 n0 c0 z0) (hG0:VmShape w)
  (kS:∀ (a0:Option Addr) (n0 c0:Nat) (w:World),Ents w a0 n0 c0 z0→Calls Tryd.prog 16 #[.agg #[.slice a0 n0 c0]] w fun e w'=>e=.returned (.bool x0)∧Below w.heap.size w w')
  (kI:∀ (a0:Option Addr) (n0 c0:Nat) (w:World),Ents w a0 n0 c0 z0→VmShape w→Calls Tryd.prog 18 #[.agg #[.slice a0 n0 c0]] w fun e w'=>e=.returned (.bool x0)∧Below w.heap.size w w') :
  Calls Tryd.prog 4 #[.agg #[.slice a0 n0 c0]] w fun e w'=>e=.returned (.bool true)∧Below w.heap.size w w':=by
 have f0:=h0.fits
 have kZ0:=fun left w h=>szMemo_any a0 n0 c0 z0 left w h
 have kT0:=fun w h l1 l2=>toMemo_own a0 n0 c0 z0 w h l1 l2
 have hc0:n0≤n0+costT z0∧∀ t,t<n0→(z0.getD t e3d).2.1.length≤n0+costT z0∧(z0.getD t e3d).2.2.length≤n0+costT z0:=⟨by omega,fun t ht=>by
  have:=cost_at (es:=z0) (t:=t) (by rw [h0.1];exact ht)
  unfold costE at this
  omega⟩
 have bw:Below w.heap.size w (w.alloc (.cells #[.slice a0 n0 c0] 36)):=by go_grown
 have p0:Blk (w.alloc (.cells #[.slice a0 n0 c0] 36)) (w.heap.size) 36 [.slice a0 n0 c0]:=blkAt _ _ _ rfl
 go_enter Tryd.func4,Tryd.ntmps4
 go_wp2_with fail
 generalize (w.alloc (.cells #[.slice a0 n0 c0] 36))=W0 at *
 refine (kZ0 1048576 _ (h0.below bw) (by omega) (by omega)).mono ?_
 rintro e wz0 ⟨⟨r0,rfl,hz⟩,hb⟩
 replace bw:=bel8 bw hb
 replace p0:=p0.below hb
 clear hb kZ0
 rcases hz with rfl | ⟨hr0,hr1⟩
 ·go_wp2
  go_ret
  exact ⟨rfl,bw⟩
 have hn0:decide (r0<0)=false:=by simp;omega
 have hle0:r0≤1048576:=by omega
 replace kT0:=fun w h=>kT0 w h (by omega) (fun t ht=>by have:=hc0.2 t ht;omega)
 clear hr1 hc0
 have cc0:=p0.cell 0
 simp only [List.getElem?_cons_zero,List.getElem?_cons_succ] at cc0
 go_wp2_with fail
 clear cc0
 refine (kT0 _ (h0.below bw)).mono ?_
 rintro e wq ⟨rfl,hO,hb⟩
 skip
 have hM:=hO.ents f0
 replace bw:=bel8 bw hb
 replace p0:=p0.below hb
 clear hb hO
 go_wp2_with fail
 refine (kS _ _ _ _ hM).mono ?_
 rintro e wr ⟨rfl,hb⟩
 replace bw:=bel8 bw hb
 replace p0:=p0.below hb
 clear hb hM kS
 have cc0:=p0.cell 0
 simp only [List.getElem?_cons_zero,List.getElem?_cons_succ] at cc0
 go_wp2_with fail
 clear cc0
 refine (kT0 _ (h0.below bw)).mono ?_
 rintro e wx0 ⟨rfl,hO,hb⟩
 skip
 have hX0:=hO.ents f0
 clear hO
 generalize wr.heap.size+3=gg0 at *
 have hbx:Below wx0.heap.size wx0 (wx0.alloc (.cells #[.slice (some ⟨gg0,0,none⟩) n0 n0] 41)):=by go_grown
 have pX0:Blk (wx0.alloc (.cells #[.slice (some ⟨gg0,0,none⟩) n0 n0] 41)) wx0.heap.size 41 [.slice (some ⟨gg0,0,none⟩) n0 n0]:=blkAt _ _ _ rfl
 replace hX0:=hX0.below hbx
 have hbb:=bel8 hb hbx
 replace bw:=bel8 bw hbb
 replace p0:=p0.below hbb
 clear hb hbx hbb
 have cx0_0:=pX0.cell 0
 simp only [List.getElem?_cons_zero,List.getElem?_cons_succ] at cx0_0
 go_wp2_with fail
 clear cx0_0
 generalize (wx0.alloc (.cells #[.slice (some ⟨gg0,0,none⟩) n0 n0] 41))=wi at *
 generalize wx0.heap.size=GX0 at *
 have hne:(x0 != x0)=false:=by simp
 refine (kI _ _ _ _ hX0 (hG0.below bw)).mono ?_
 rintro e wj ⟨rfl,hb⟩
 replace bw:=bel8 bw hb
 replace hX0:=hX0.below hb
 replace p0:=p0.below hb
 replace pX0:=pX0.below hb
 clear hb kI
 have cV0:=pX0.cell 0
 simp only [List.getElem?_cons_zero,List.getElem?_cons_succ] at cV0
 have cC0:=p0.cell 0
 simp only [List.getElem?_cons_zero,List.getElem?_cons_succ] at cC0
 go_wp2_with fail
 have hP:Ents wj.drew a0 n0 c0 z0:=h0.below (bel8 bw (by go_grown))
 have hV:Ents wj.drew (some ⟨gg0,0,none⟩) n0 n0 z0:=hX0.below (by go_grown)
 have c8:(fun w':World=>w'.cell? ⟨GX0,0,none⟩=some (.slice (some ⟨gg0,0,none⟩) n0 n0)∧w'.cell? ⟨w.heap.size,0,none⟩=some (.slice a0 n0 c0)) wj:=⟨cV0,cC0⟩
 clear cV0 cC0
 go_region_held3 (fun w'=>w'.cell? ⟨GX0,0,none⟩=some (.slice (some ⟨gg0,0,none⟩) n0 n0)∧w'.cell? ⟨w.heap.size,0,none⟩=some (.slice a0 n0 c0)) (first | (exact c8) | (exact c9) | (exact ⟨cells_kept hl _ _ c9.1,cells_kept hl _ _ c9.2⟩))
  (first | (go_at_call 17;refine (kT0 _ hP).mono ?_;rintro e wk0 ⟨rfl,hOk,hk⟩;have hD:=hV.below hk;have c9:=(show (fun w':World=>w'.cell? ⟨GX0,0,none⟩=some (.slice (some ⟨gg0,0,none⟩) n0 n0)∧w'.cell? ⟨w.heap.size,0,none⟩=some (.slice a0 n0 c0)) wk0 from ⟨cells_kept hk _ _ c8.1,cells_kept hk _ _ c8.2⟩)) | (go_at_call 19;refine (eqMemo_same _ _ _ _ _ z0 _ hD (hOk.ents f0)).mono ?_;rintro e wl0 ⟨rfl,hl⟩))
 have hbw:Below wj.heap.size wj wl0:=bel8 (by go_grown) (bel8 hk hl)
 replace bw:=bel8 bw hbw
 clear hbw hk hl hD hOk c8 c9 hP hV hX0 pX0 p0
 go_wp2
 go_ret
 exact ⟨rfl,bw⟩
end Go.Proofs.YthmgampabhbpoaaDoor
