/-
  Joined: SmeW, SameVmI.
-/
import Derived.Test.YthmgampabhbpoaaDoorC12
import Derived.Test.YthmgampabhbpoaaDoorC16
import Derived.Test.YthmgampabhbpoaaDoorC17

namespace Go.Proofs.YthmgampabhbpoaaDoor
set_option maxRecDepth 100000
set_option maxHeartbeats 16000000
open Go.RowKit
set_option linter.unusedVariables false
set_option linter.unusedSimpArgs false

theorem fnExactSameMemo_of (a0:Option Addr) (n0 c0:Nat) (z0:List E3) (a1:Option Addr) (n1 c1:Nat) (z1:List E3) (x0:Bool) (w:World) (h0:Ents w a0 n0 c0 z0) (h1:Ents w a1 n1 c1 z1) (hG0:VmShape w)
  (kS:∀ (a0:Option Addr) (n0 c0:Nat) (a1:Option Addr) (n1 c1:Nat) (w:World),Ents w a0 n0 c0 z0→Ents w a1 n1 c1 z1→Calls Tryd.prog 32 #[.agg #[.slice a0 n0 c0],.agg #[.slice a1 n1 c1]] w fun e w'=>e=.returned (.bool x0)∧Below w.heap.size w w')
  (kI:∀ (a0:Option Addr) (n0 c0:Nat) (a1:Option Addr) (n1 c1:Nat) (w:World),Ents w a0 n0 c0 z0→Ents w a1 n1 c1 z1→VmShape w→Calls Tryd.prog 33 #[.agg #[.slice a0 n0 c0],.agg #[.slice a1 n1 c1]] w fun e w'=>e=.returned (.bool x0)∧Below w.heap.size w w') :
  Calls Tryd.prog 9 #[.agg #[.slice a0 n0 c0],.agg #[.slice a1 n1 c1]] w fun e w'=>e=.returned (.bool true)∧Below w.heap.size w w':=by
 have f0:=h0.fits
 have kZ0:=fun left w h=>szMemo_any a0 n0 c0 z0 left w h
 have kT0:=fun w h l1 l2=>toMemo_own a0 n0 c0 z0 w h l1 l2
 have hc0:n0≤n0+costT z0∧∀ t,t<n0→(z0.getD t e3d).2.1.length≤n0+costT z0∧(z0.getD t e3d).2.2.length≤n0+costT z0:=⟨by omega,fun t ht=>by
  have:=cost_at (es:=z0) (t:=t) (by rw [h0.1];exact ht)
  unfold costE at this
  omega⟩
 have f1:=h1.fits
 have kZ1:=fun left w h=>szMemo_any a1 n1 c1 z1 left w h
 have kT1:=fun w h l1 l2=>toMemo_own a1 n1 c1 z1 w h l1 l2
 have hc1:n1≤n1+costT z1∧∀ t,t<n1→(z1.getD t e3d).2.1.length≤n1+costT z1∧(z1.getD t e3d).2.2.length≤n1+costT z1:=⟨by omega,fun t ht=>by
  have:=cost_at (es:=z1) (t:=t) (by rw [h1.1];exact ht)
  unfold costE at this
  omega⟩
 have bw:Below w.heap.size w ((w.alloc (.cells #[.slice a0 n0 c0] 36)).alloc (.cells #[.slice a1 n1 c1] 36)):=by go_grown
 have p0:Blk ((w.alloc (.cells #[.slice a0 n0 c0] 36)).alloc (.cells #[.slice a1 n1 c1] 36)) (w.heap.size) 36 [.slice a0 n0 c0]:=blkOld _ (blkAt _ _ _ rfl)
 have p1:Blk ((w.alloc (.cells #[.slice a0 n0 c0] 36)).alloc (.cells #[.slice a1 n1 c1] 36)) (w.heap.size+1) 36 [.slice a1 n1 c1]:=blkAt _ _ _ (by simp)
 go_enter Tryd.func9,Tryd.ntmps9
 go_wp2_with fail
 generalize ((w.alloc (.cells #[.slice a0 n0 c0] 36)).alloc (.cells #[.slice a1 n1 c1] 36))=W0 at *
 refine (kZ0 1048576 _ (h0.below bw) (by omega) (by omega)).mono ?_
 rintro e wz0 ⟨⟨r0,rfl,hz⟩,hb⟩
 replace bw:=bel8 bw hb
 replace p0:=p0.below hb
 replace p1:=p1.below hb
 clear hb kZ0
 rcases hz with rfl | ⟨hr0,hr1⟩
 ·go_wp2
  go_ret
  exact ⟨rfl,bw⟩
 have hn0:decide (r0<0)=false:=by simp;omega
 have hle0:r0≤1048576:=by omega
 replace kT0:=fun w h=>kT0 w h (by omega) (fun t ht=>by have:=hc0.2 t ht;omega)
 clear hr1 hc0
 have cc0:=p1.cell 0
 simp only [List.getElem?_cons_zero,List.getElem?_cons_succ] at cc0
 go_wp2_with fail
 clear cc0
 refine (kZ1 r0 _ (h1.below bw) (by omega) (by omega)).mono ?_
 rintro e wz1 ⟨⟨r1,rfl,hz⟩,hb⟩
 replace bw:=bel8 bw hb
 replace p0:=p0.below hb
 replace p1:=p1.below hb
 clear hb kZ1
 rcases hz with rfl | ⟨hr0,hr1⟩
 ·go_wp2
  go_ret
  exact ⟨rfl,bw⟩
 have hn1:decide (r1<0)=false:=by simp;omega
 have hle1:r1≤1048576:=by omega
 replace kT1:=fun w h=>kT1 w h (by omega) (fun t ht=>by have:=hc1.2 t ht;omega)
 clear hr1 hc1
 have g0_0:=p0.cell 0
 simp only [List.getElem?_cons_zero,List.getElem?_cons_succ] at g0_0
 have g1_0:=p1.cell 0
 simp only [List.getElem?_cons_zero,List.getElem?_cons_succ] at g1_0
 go_wp2_with fail
 have bd:Below w.heap.size w wz1.drew:=bel8 bw (by go_grown)
 refine wp_region_held_drew (S:=(fun w'=>w'.cell? ⟨w.heap.size,0,none⟩=some (.slice a0 n0 c0)∧w'.cell? ⟨w.heap.size+1,0,none⟩=some (.slice a1 n1 c1))) (by kernel_rfl) ⟨g0_0,g1_0⟩ (fun hS0=>?_)
 refine tkm 0 20 (.agg #[.slice a0 n0 c0]) ?_
 refine tkm 2 22 (.agg #[.slice a1 n1 c1]) ?_
 refine tkr 1 21 (fun K hK=>?_)
 go_simp
 refine (kT0 _ (h0.below bd)).mono ?_
 rintro e wq0 ⟨rfl,hO0,hq0⟩
 go_wp2_with fail
 refine hK.out _ _ ?_ (fun hS1=>?_)
 ·exact ⟨cells_kept hq0 _ _ hS0.1,cells_kept hq0 _ _ hS0.2⟩
 clear hK
 refine tkr 3 23 (fun K hK=>?_)
 go_simp
 refine (kT1 _ (h1.below (bel8 bd hq0))).mono ?_
 rintro e wq1 ⟨rfl,hO1,hq1⟩
 go_wp2_with fail
 refine hK.out _ _ ?_ (fun hS2=>?_)
 ·exact ⟨cells_kept hq1 _ _ hS1.1,cells_kept hq1 _ _ hS1.2⟩
 clear hK
 refine tkr 4 24 (fun K hK=>?_)
 go_simp
 refine (kS _ _ _ _ _ _ _ ((hO0.ents f0).below hq1) (hO1.ents f1)).mono ?_
 rintro e wr ⟨rfl,hr⟩
 go_wp2_with fail
 refine hK.out _ _ ?_ (fun hSr=>?_)
 ·exact ⟨cells_kept hr _ _ hS2.1,cells_kept hr _ _ hS2.2⟩
 clear hK
 refine tkm 5 6 (.bool x0) ?_
 refine wpAnyH_done (by kernel_rfl) ?_ _
 have hbr:Below wz1.heap.size wz1 wr:=bel8 (by go_grown) (bel8 hq0 (bel8 hq1 hr))
 replace bw:=bel8 bw hbr
 replace p0:=p0.below hbr
 replace p1:=p1.below hbr
 clear hbr hS0 hSr hr bd kS hS1 hq0 hO0 hS2 hq1 hO1 g0_0 g1_0
 have cc0:=p0.cell 0
 simp only [List.getElem?_cons_zero,List.getElem?_cons_succ] at cc0
 go_wp2_with fail
 clear cc0
 refine (kT0 _ (h0.below bw)).mono ?_
 rintro e wx0 ⟨rfl,hO,hb⟩
 skip
 have hX0:=hO.ents f0
 clear hO
 generalize wr.heap.size+3=gg0 at *
 have hbx:Below wx0.heap.size wx0 (wx0.alloc (.cells #[.slice (some ⟨gg0,0,none⟩) n0 n0] 41)):=by go_grown
 have pX0:Blk (wx0.alloc (.cells #[.slice (some ⟨gg0,0,none⟩) n0 n0] 41)) wx0.heap.size 41 [.slice (some ⟨gg0,0,none⟩) n0 n0]:=blkAt _ _ _ rfl
 replace hX0:=hX0.below hbx
 have hbb:=bel8 hb hbx
 replace bw:=bel8 bw hbb
 replace p0:=p0.below hbb
 replace p1:=p1.below hbb
 clear hb hbx hbb
 have cc0:=p1.cell 0
 simp only [List.getElem?_cons_zero,List.getElem?_cons_succ] at cc0
 go_wp2_with fail
 clear cc0
 generalize (wx0.alloc (.cells #[.slice (some ⟨gg0,0,none⟩) n0 n0] 41))=wy0 at *
 generalize wx0.heap.size=GX0 at *
 refine (kT1 _ (h1.below bw)).mono ?_
 rintro e wx1 ⟨rfl,hO,hb⟩
 skip
 have hX1:=hO.ents f1
 clear hO
 generalize wy0.heap.size+3=gg1 at *
 have hbx:Below wx1.heap.size wx1 (wx1.alloc (.cells #[.slice (some ⟨gg1,0,none⟩) n1 n1] 41)):=by go_grown
 have pX1:Blk (wx1.alloc (.cells #[.slice (some ⟨gg1,0,none⟩) n1 n1] 41)) wx1.heap.size 41 [.slice (some ⟨gg1,0,none⟩) n1 n1]:=blkAt _ _ _ rfl
 replace hX1:=hX1.below hbx
 have hbb:=bel8 hb hbx
 replace bw:=bel8 bw hbb
 replace p0:=p0.below hbb
 replace p1:=p1.below hbb
 replace hX0:=hX0.below hbb
 replace pX0:=pX0.below hbb
 clear hb hbx hbb
 have cx0_0:=pX0.cell 0
 simp only [List.getElem?_cons_zero,List.getElem?_cons_succ] at cx0_0
 have cx1_0:=pX1.cell 0
 simp only [List.getElem?_cons_zero,List.getElem?_cons_succ] at cx1_0
 go_wp2_with fail
 clear cx0_0 cx1_0
 generalize (wx1.alloc (.cells #[.slice (some ⟨gg1,0,none⟩) n1 n1] 41))=wi at *
 generalize wx1.heap.size=GX1 at *
 have hne:(x0 != x0)=false:=by simp
 refine (kI _ _ _ _ _ _ _ hX0 hX1 (hG0.below bw)).mono ?_
 rintro e wj ⟨rfl,hb⟩
 replace bw:=bel8 bw hb
 replace hX0:=hX0.below hb
 replace p0:=p0.below hb
 replace pX0:=pX0.below hb
 replace hX1:=hX1.below hb
 replace p1:=p1.below hb
 replace pX1:=pX1.below hb
 clear hb kI
 have cV0:=pX0.cell 0
 simp only [List.getElem?_cons_zero,List.getElem?_cons_succ] at cV0
 have cC0:=p0.cell 0
 simp only [List.getElem?_cons_zero,List.getElem?_cons_succ] at cC0
 go_wp2_with fail
 have hP:Ents wj.drew a0 n0 c0 z0:=h0.below (bel8 bw (by go_grown))
 have hV:Ents wj.drew (some ⟨gg0,0,none⟩) n0 n0 z0:=hX0.below (by go_grown)
 have c8:(fun w':World=>w'.cell? ⟨GX0,0,none⟩=some (.slice (some ⟨gg0,0,none⟩) n0 n0)∧w'.cell? ⟨w.heap.size,0,none⟩=some (.slice a0 n0 c0)) wj:=⟨cV0,cC0⟩
 clear cV0 cC0
 go_region_held3 (fun w'=>w'.cell? ⟨GX0,0,none⟩=some (.slice (some ⟨gg0,0,none⟩) n0 n0)∧w'.cell? ⟨w.heap.size,0,none⟩=some (.slice a0 n0 c0)) (first | (exact c8) | (exact c9) | (exact ⟨cells_kept hl _ _ c9.1,cells_kept hl _ _ c9.2⟩))
  (first | (go_at_call 17;refine (kT0 _ hP).mono ?_;rintro e wk0 ⟨rfl,hOk,hk⟩;have hD:=hV.below hk;have c9:=(show (fun w':World=>w'.cell? ⟨GX0,0,none⟩=some (.slice (some ⟨gg0,0,none⟩) n0 n0)∧w'.cell? ⟨w.heap.size,0,none⟩=some (.slice a0 n0 c0)) wk0 from ⟨cells_kept hk _ _ c8.1,cells_kept hk _ _ c8.2⟩)) | (go_at_call 19;refine (eqMemo_same _ _ _ _ _ z0 _ hD (hOk.ents f0)).mono ?_;rintro e wl0 ⟨rfl,hl⟩))
 have hbw:Below wj.heap.size wj wl0:=bel8 (by go_grown) (bel8 hk hl)
 replace bw:=bel8 bw hbw
 replace hX1:=hX1.below hbw
 replace p1:=p1.below hbw
 replace pX1:=pX1.below hbw
 clear hbw hk hl hD hOk c8 c9 hP hV hX0 pX0 p0
 have cV0:=pX1.cell 0
 simp only [List.getElem?_cons_zero,List.getElem?_cons_succ] at cV0
 have cC0:=p1.cell 0
 simp only [List.getElem?_cons_zero,List.getElem?_cons_succ] at cC0
 go_wp2_with fail
 have hP:Ents wl0.drew a1 n1 c1 z1:=h1.below (bel8 bw (by go_grown))
 have hV:Ents wl0.drew (some ⟨gg1,0,none⟩) n1 n1 z1:=hX1.below (by go_grown)
 have c8:(fun w':World=>w'.cell? ⟨GX1,0,none⟩=some (.slice (some ⟨gg1,0,none⟩) n1 n1)∧w'.cell? ⟨w.heap.size+1,0,none⟩=some (.slice a1 n1 c1)) wl0:=⟨cV0,cC0⟩
 clear cV0 cC0
 go_region_held3 (fun w'=>w'.cell? ⟨GX1,0,none⟩=some (.slice (some ⟨gg1,0,none⟩) n1 n1)∧w'.cell? ⟨w.heap.size+1,0,none⟩=some (.slice a1 n1 c1)) (first | (exact c8) | (exact c9) | (exact ⟨cells_kept hl _ _ c9.1,cells_kept hl _ _ c9.2⟩))
  (first | (go_at_call 17;refine (kT1 _ hP).mono ?_;rintro e wk1 ⟨rfl,hOk,hk⟩;have hD:=hV.below hk;have c9:=(show (fun w':World=>w'.cell? ⟨GX1,0,none⟩=some (.slice (some ⟨gg1,0,none⟩) n1 n1)∧w'.cell? ⟨w.heap.size+1,0,none⟩=some (.slice a1 n1 c1)) wk1 from ⟨cells_kept hk _ _ c8.1,cells_kept hk _ _ c8.2⟩)) | (go_at_call 19;refine (eqMemo_same _ _ _ _ _ z1 _ hD (hOk.ents f1)).mono ?_;rintro e wl1 ⟨rfl,hl⟩))
 have hbw:Below wl0.heap.size wl0 wl1:=bel8 (by go_grown) (bel8 hk hl)
 replace bw:=bel8 bw hbw
 clear hbw hk hl hD hOk c8 c9 hP hV hX1 pX1 p1
 go_wp2
 go_ret
 exact ⟨rfl,bw⟩


theorem bel_dN (w:World) (n:Nat):Below w.heap.size w (w.drewN n):=⟨rfl,rfl,rfl,Nat.le_refl _,fun _ _=>rfl⟩

theorem equalI_is (a a':Option Addr) (len cap cap':Nat) (xs ys:List Int) (w:World) (h:Ints .i64 w a len cap xs) (h':Ints .i64 w a' len cap' ys) (hpos:len≠0) :
  Calls Tryd.prog 109 #[.slice a len cap,.slice a' len cap'] w fun e w'=>e=.returned (.bool (decide (xs=ys)))∧Below w.heap.size w w':=by
 obtain ⟨hl,hlc,hcm,hcase⟩:=h
 obtain ⟨hl',hlc',hcm',hcase'⟩:=h'
 unfold maxLen at hcm hcm'
 rcases hcase with h0' | ⟨b,off,rfl,hblt,hcell⟩
 ·exact absurd h0' hpos
 rcases hcase' with h0' | ⟨b',off',rfl,hblt',hcell'⟩
 ·exact absurd h0' hpos
 have hne:((len:Int) != (len:Int))=false:=by simp
 obtain ⟨fin,hfin⟩:∃ fin,fin=decide (xs=ys):=⟨_,rfl⟩
 rw [← hfin]
 have HF:Hid (fin=decide (xs=ys)):=hfin
 clear hfin
 go_enter Tryd.func109,Tryd.ntmps109
 go_wp2
 go_loopw [13] (fun si wr=>∃ (k:Nat),k≤len∧si=.int .i64 k∧Hid (xs.take k=ys.take k)∧Below w.heap.size w wr) (fun si _=>len - (intOf si).toNat)
 case atStart=>exact ⟨0,by omega,rfl,by simp [Hid],Below.refl _ _⟩
 case round =>
  obtain ⟨k,hk,rfl,hH',hbel⟩:=hrel
  by_cases hlt:k<len
  ·have c0:=hcell k hlt
   have e0:=hcell' k hlt
   rw [← hbel.cell (p:=⟨b,_,none⟩) hblt] at c0
   rw [← hbel.cell (p:=⟨b',_,none⟩) hblt'] at e0
   have hlt':(k:Int)<(len:Int):=by omega
   have hk0:(0:Int)≤(k:Int):=by omega
   have hxg:Hid (xs.getD k 0=xs[k]'(by omega)∧ys.getD k 0=ys[k]'(by omega)):=⟨by simp [List.getD,hl,hlt],by simp [List.getD,hl',hlt]⟩
   by_cases hxy:xs.getD k 0=ys.getD k 0
   ·have hH2:Hid (xs.take (k+1)=ys.take (k+1)):=by
     rw [Hid,List.take_succ_eq_append_getElem (by omega),List.take_succ_eq_append_getElem (by omega),hH'.out,← hxg.out.1,← hxg.out.2,hxy]
    rw [← hxy] at e0
    clear hcell hcell' hxg hxy hH'
    generalize xs.getD k 0=x at c0 e0
    have hxx:(x != x)=false:=by simp
    go_wp2_with fail
    go_quiet (fail)
    have hb2:Below w.heap.size w (wr.drewN nq):=bel_trans hbel (bel_dN _ _)
    go_wp2
    go_roundw
    case rel=>exact ⟨k+1,by omega,by go_num,hH2,hb2⟩
    case measure=>simp [intOf];omega
   ·obtain rfl:fin=false:=by
     rw [HF.out,decide_eq_false_iff_not]
     intro h
     subst h
     exact hxy rfl
    clear hcell hcell' hxg hH' HF
    generalize xs.getD k 0=x at c0 hxy
    generalize ys.getD k 0=y at e0 hxy
    have hxx:(x != y)=true:=by simp [hxy]
    have hb2:∀ nq,Below w.heap.size w (wr.drewN nq):=fun nq=>bel_trans hbel (bel_dN _ _)
    go_wp2_with fail
    go_quiet (fail)
    go_wp2
    go_ret
    exact ⟨rfl,hb2 _⟩
  ·obtain rfl:k=len:=by omega
   obtain rfl:fin=true:=by
    rw [HF.out,decide_eq_true_eq]
    have h9:=hH'.out
    rwa [List.take_of_length_le (by omega),List.take_of_length_le (by omega)] at h9
   clear hcell hcell' hH' HF
   go_wp2
   go_ret
   exact ⟨rfl,hbel⟩

end Go.Proofs.YthmgampabhbpoaaDoor
