/-
  Joined: LstM, WofW.
-/
import Derived.Test.YtfpopbbmnbehiaaDoorB10
import Derived.Test.YtfpopbbmnbehiaaDoorB18
import Derived.Test.YtfpopbbmnbehiaaDoorB20
import Derived.Test.YtfpopbbmnbehiaaDoorB26
import Derived.Test.YtfpopbbmnbehiaaDoorB32

namespace Go.Proofs.YtfpopbbmnbehiaaDoor
set_option maxRecDepth 100000
set_option maxHeartbeats 16000000
open Go.RowKit
set_option linter.unusedVariables false

theorem lst_slice {w:World} {B:Nat} {v:Value} {xs:List Int} (h:w.ownsRow B 3 1 v xs.length (xs.map (Value.int .i64))):∃ a cap,v=.slice a xs.length cap∧Ints .i64 w a xs.length cap xs:=by
 obtain ⟨a,cap,rfl⟩:=owns_sliceN h
 exact ⟨a,cap,rfl,ints_of_row h⟩
theorem lst_of {w:World} {B cap:Nat} {a:Option Addr} {xs:List Int} (h:w.ownsRow B 3 1 (.slice a xs.length cap) xs.length (xs.map (Value.int .i64))):Ints .i64 w a xs.length cap xs:=ints_of_row h
theorem eqL_same (a a':Option Addr) (len cap cap':Nat) (xs:List Int) (w:World) (h:Ints .i64 w a len cap xs) (h':Ints .i64 w a' len cap' xs) :
  Calls Tryd.prog 19 #[.slice a len cap,.slice a' len cap'] w fun e w'=>e=.returned (.bool true)∧Below w.heap.size w w':=by
 refine (eqIntS_same a a' len cap cap' xs w h h').mono ?_
 rintro e w' ⟨rfl,d,rfl⟩
 exact ⟨rfl,below_dN d⟩
theorem markL_any (base:Nat) (v:Value) (k:Int) (xs:List Int) (w:World) (hk0:0≤k) (hk:k≤1000000000) (hn:xs.length≤1048576) (ho:w.ownsRow base 3 1 v xs.length (xs.map (Value.int .i64))) :
  Calls Tryd.prog 20 #[v,.int .i64 k] w fun e w'=>e=.returned (.int .i64 (k+xs.length)) ∧
   w'.ownsRow base 3 1 v xs.length ((mkTo k xs xs.length).map (Value.int .i64))∧w.grownBy w' v.ownBlock:=by
 rcases ho.2 with ⟨rfl,h0⟩ | ⟨g,cap,cur,rfl,_⟩
 ·have hx:xs=[]:=List.eq_nil_of_length_eq_zero h0
  subst hx
  refine (markIntS_none none 0 k w).mono ?_
  rintro e w' ⟨rfl,rfl⟩
  exact ⟨by simp,ho,World.grownBy.refl _ _⟩
 ·refine (markIntS_grown0 base g xs.length cap k xs w hk0 hk hn ho).mono ?_
  rintro e w' ⟨rfl,h1,h2⟩
  exact ⟨rfl,h1,h2⟩
theorem heldL_any (base:Nat) (v:Value) (k:Int) (xs:List Int) (w:World) (hk0:0≤k) (hk:k≤1000000000) (hn:xs.length≤1048576) (ho:w.ownsRow base 3 1 v xs.length ((mkTo k xs xs.length).map (Value.int .i64))) :
  Calls Tryd.prog 21 #[v,.int .i64 k] w fun e w'=>e=.returned (.int .i64 (k+xs.length))∧w=w':=by
 obtain ⟨a,cap,rfl⟩:=owns_sliceN ho
 exact heldIntS_yes a xs.length cap k (mkTo k xs xs.length) w hk0 hk hn (ints_of_row ho) (fun i hi=>mkTo_get k xs xs.length i hi (Nat.le_refl _))

set_option linter.unusedSimpArgs false

theorem fnExactWitnessOf_heap {w w':World} {b e s n:Nat} {v:Value} {xs:List Value} (h:w.ownsRow b e s v n xs) (hq:∀ j,v.ownBlock=some j→w'.heap[j]?=w.heap[j]?):w'.ownsRow b e s v n xs:=by
 refine ⟨h.1,?_⟩
 rcases h.2 with h0 | ⟨g,cap,cur,hv,hB,hg,rest⟩
 ·exact .inl h0
 ·exact .inr ⟨g,cap,cur,hv,hB,by rw [hq g (by rw [hv];rfl)];exact hg,rest⟩
theorem fnExactWitnessOf_blk {T:TypeId} {w w':World} {g t:Nat} {cs:List Value} (k:KeptBut T w w') (h:Blk w g t cs) (hT:t≠T):Blk w' g t cs:=k g _ t _ h hT

theorem fnExactWitnessOf_of (a0:Option Addr) (n0 c0:Nat) (r0:List (List I3)) (y:I3) (xs:List Int) (hlf:xs.length≤100000) (cd:Int) (w:World) (h0:Codes w a0 n0 c0 r0) (hG:VmShape w)
  (kS:∀ (a0:Option Addr) (n0 c0:Nat) (w:World),Codes w a0 n0 c0 r0→Calls Tryd.prog 16 #[.agg #[.slice a0 n0 c0],y.val] w fun e w'=>LGot e w' w.heap.size xs cd∧Below w.heap.size w w')
  (kI:∀ (a0:Option Addr) (n0 c0:Nat) (w:World),Codes w a0 n0 c0 r0→VmShape w→Calls Tryd.prog 18 #[.agg #[.slice a0 n0 c0],y.val] w fun e w'=>LGot e w' w.heap.size xs cd∧Below w.heap.size w w') :
  Calls Tryd.prog 4 #[.agg #[.slice a0 n0 c0],y.val] w fun e w'=>e=.returned (.bool true)∧Below w.heap.size w w':=by
 obtain ⟨y0,y1,y2⟩:=y
 have tB:=toBug_same (y0,y1,y2)
 unfold I3.val at *
 simp only at kS kI tB ⊢
 have kT:=fun W h=>toProgram_copy a0 n0 c0 r0 W h
 have kO:=fun W h=>toProgram_own a0 n0 c0 r0 W h
 have hcd:(cd != cd)=false:=by simp
 have bw:Below w.heap.size w ((w.alloc (.cells #[.slice a0 n0 c0] 24)).alloc (.cells #[.int .i64 y0,.int .i64 y1,.int .i64 y2] 39)):=by go_grown
 have p0:Blk ((w.alloc (.cells #[.slice a0 n0 c0] 24)).alloc (.cells #[.int .i64 y0,.int .i64 y1,.int .i64 y2] 39)) w.heap.size 24 [.slice a0 n0 c0]:=blkOld _ (blkAt _ _ _ rfl)
 have pB:Blk ((w.alloc (.cells #[.slice a0 n0 c0] 24)).alloc (.cells #[.int .i64 y0,.int .i64 y1,.int .i64 y2] 39)) (w.heap.size+1) 39 [.int .i64 y0,.int .i64 y1,.int .i64 y2]:=blkAt _ _ _ (by simp)
 go_enter Tryd.func4,Tryd.ntmps4
 go_wp2_with fail
 generalize ((w.alloc (.cells #[.slice a0 n0 c0] 24)).alloc (.cells #[.int .i64 y0,.int .i64 y1,.int .i64 y2] 39))=W0 at *
 go_wp2_with (first | refine wpList_load_blk rfl 24 _ rfl w.heap.size rfl p0 _ Tryd.underlying24 rfl (by kernel_rfl) ?_)
 have hz:=sizeLeft_or r0 1048576 (by omega)
 have hbd:=size_bounds (rows:=r0) (left:=1048576) (by omega)
 have hcb:=fun h=>sizeLeft_cnt (rows:=r0) (left:=1048576) h
 refine (szProgram_less a0 n0 c0 r0 1048576 _ (h0.below bw) (by omega) (by omega)).mono ?_
 rintro e wz ⟨rfl,hb⟩
 generalize sizeLeft 1048576 r0=zl at hz hbd hcb
 replace bw:=bel_trans bw hb
 replace p0:=p0.below hb
 replace pB:=pB.below hb
 clear hb
 rcases hz with rfl | ⟨yl,xl⟩
 ·clear hbd hcb
  go_wp2
  go_ret
  exact ⟨rfl,bw⟩
 obtain ⟨hr,hr'⟩:=hbd yl (by omega)
 have hcnt:=hcb yl
 have hlen:n0≤1048576:=by rw [← h0.1];exact hr
 replace kT:=fun W h=>kT W h hlen (fun t _=>hr' t)
 replace kO:=fun W h=>kO W h hlen (fun t _=>hr' t)
 have hcl:cntP r0 r0.length≤10000000:=by omega
 have hcj:∀ j,j≤r0.length→cntP r0 j≤10000000:=fun j hj=>by have:=cntP_mono r0 j;omega
 have HRJ:Hid (∀ j,j<r0.length→(r0.getD j []).length≤1048576):=fun j _=>hr' j
 clear hbd hcb hr hr' hlen hcnt
 have hn0:decide (zl<0)=false:=by simp;omega
 clear yl xl
 have b9:=p0.cell 0
 have b0:=pB.cell 0
 have b1:=pB.cell 1
 have b2:=pB.cell 2
 simp only [List.getElem?_cons_zero,List.getElem?_cons_succ] at b9 b0 b1 b2
 go_wp2_with fail
 have hdr:Below wz.heap.size wz wz.drew:=by go_grown
 have bd:=bel_trans bw hdr
 refine wp_region_held_drew (S:=(fun w'=>w'.cell? ⟨w.heap.size,0,none⟩=some (.slice a0 n0 c0)∧w'.cell? ⟨w.heap.size+1,0,none⟩=some (.int .i64 y0)∧w'.cell? ⟨w.heap.size+1,1,none⟩=some (.int .i64 y1)∧w'.cell? ⟨w.heap.size+1,2,none⟩=some (.int .i64 y2))) (by kernel_rfl) ⟨b9,b0,b1,b2⟩ (fun hS0=>?_)
 refine tkm 0 22 (.agg #[.slice a0 n0 c0]) ?_
 refine tkm 2 24 (.agg #[.int .i64 y0,.int .i64 y1,.int .i64 y2]) ?_
 refine tkr 1 23 (fun K hK=>?_)
 go_simp
 refine (kT _ (h0.below bd)).mono ?_
 rintro e wa ⟨rfl,hO,hb1⟩
 go_wp2_with fail
 refine hK.out _ _ ?_ (fun hS1=>?_)
 ·exact ⟨cells_kept hb1 _ _ hS0.1,cells_kept hb1 _ _ hS0.2.1,cells_kept hb1 _ _ hS0.2.2.1,cells_kept hb1 _ _ hS0.2.2.2⟩
 clear hK
 have hA:=hO.codes
 clear hO
 refine tkr 3 25 (fun K hK=>?_)
 go_simp
 refine (tB _).mono ?_
 rintro e wc ⟨rfl,hb3⟩
 go_wp2_with fail
 refine hK.out _ _ ?_ (fun hS2=>?_)
 ·exact ⟨cells_kept hb3 _ _ hS1.1,cells_kept hb3 _ _ hS1.2.1,cells_kept hb3 _ _ hS1.2.2.1,cells_kept hb3 _ _ hS1.2.2.2⟩
 clear hK
 refine tkr 4 26 (fun K hK=>?_)
 go_simp
 refine (kS _ _ _ _ (hA.below hb3)).mono ?_
 rintro e wS ⟨⟨vS,rfl,qS⟩,hb4⟩
 obtain ⟨vSa,vSc,rfl,i9⟩:=lst_slice qS
 clear i9
 go_wp2_with fail
 refine hK.out _ _ ?_ (fun hS3=>?_)
 ·exact ⟨cells_kept hb4 _ _ hS2.1,cells_kept hb4 _ _ hS2.2.1,cells_kept hb4 _ _ hS2.2.2.1,cells_kept hb4 _ _ hS2.2.2.2⟩
 clear hK
 try simp only [Act.put,tka,tkb,tkc]
 refine tkm 5 21 (.tuple #[.slice vSa xs.length vSc,.int .i64 cd]) ?_
 refine tkm 6 27 (.slice vSa xs.length vSc) ?_
 refine tkm 7 28 (.int .i64 cd) ?_
 refine tkm 8 6 (.slice vSa xs.length vSc) ?_
 refine tkm 9 7 (.int .i64 cd) ?_
 refine wpAnyH_done (by kernel_rfl) ?_ _
 have hb9:Below wz.heap.size wz wS:=bel_trans hdr (bel_trans hb1 (bel_trans hb3 hb4))
 replace bw:=bel_trans bw hb9
 replace p0:=p0.below hb9
 replace pB:=pB.below hb9
 clear hb9 hb1 hb3 hb4 hdr bd hS0 hS1 hS2 hS3 hA b9 b0 b1 b2
 clear kS
 have bv:∀ j,(Value.slice vSa xs.length vSc).ownBlock=some j→j<wS.heap.size:=fun j hj=>(qS.lt j hj).2
 go_wp2_with (first | refine wpList_load_blk rfl 24 _ rfl w.heap.size rfl p0 _ Tryd.underlying24 rfl (by kernel_rfl) ?_)
 refine (kO _ (h0.below bw)).mono ?_
 rintro e wx ⟨rfl,hP,hb⟩
 have hBx:w.heap.size≤wS.heap.size+3:=by have:=bw.size;omega
 have hSx:wS.heap.size≤wx.heap.size:=hb.size
 generalize hgx:wS.heap.size+3=gx at hP hBx ⊢
 replace bw:=bel_trans bw hb
 replace p0:=p0.below hb
 replace pB:=pB.below hb
 replace qS:=owns_below qS hb
 have hgxX:gx≤wx.heap.size:=by obtain ⟨vs9,h9,_⟩:=hP;have:=(h9.lt gx rfl).2;omega
 clear hb hgx
 generalize wS.heap.size=NS at *
 have ha:Below wx.heap.size wx (wx.alloc (.cells #[.slice (some ⟨gx,0,none⟩) n0 n0] 31)):=by go_grown
 have pX:Blk (wx.alloc (.cells #[.slice (some ⟨gx,0,none⟩) n0 n0] 31)) wx.heap.size 31 [.slice (some ⟨gx,0,none⟩) n0 n0]:=blkAt _ _ _ rfl
 replace bw:=bel_trans bw ha
 replace p0:=p0.below ha
 replace pB:=pB.below ha
 replace qS:=owns_below qS ha
 replace hP:=hP.below ha
 have hNp:wx.heap.size≤(wx.alloc (.cells #[.slice (some ⟨gx,0,none⟩) n0 n0] 31)).heap.size:=ha.size
 clear ha
 go_wp2_with fail
 generalize (wx.alloc (.cells #[.slice (some ⟨gx,0,none⟩) n0 n0] 31))=wy at *
 generalize wx.heap.size=GX at *
 have hX:=hP.codes9 h0
 have b9:=pX.cell 0
 have b0:=pB.cell 0
 have b1:=pB.cell 1
 have b2:=pB.cell 2
 simp only [List.getElem?_cons_zero,List.getElem?_cons_succ] at b9 b0 b1 b2
 have hdr:Below wy.heap.size wy wy.drew:=by go_grown
 refine wp_region_held_drew (S:=(fun w'=>w'.cell? ⟨GX,0,none⟩=some (.slice (some ⟨gx,0,none⟩) n0 n0)∧w'.cell? ⟨w.heap.size+1,0,none⟩=some (.int .i64 y0)∧w'.cell? ⟨w.heap.size+1,1,none⟩=some (.int .i64 y1)∧w'.cell? ⟨w.heap.size+1,2,none⟩=some (.int .i64 y2))) (by kernel_rfl) ⟨b9,b0,b1,b2⟩ (fun hS0=>?_)
 refine tkm 0 32 (.agg #[.slice (some ⟨gx,0,none⟩) n0 n0]) ?_
 refine tkm 1 33 (.agg #[.int .i64 y0,.int .i64 y1,.int .i64 y2]) ?_
 refine tkr 2 34 (fun K hK=>?_)
 go_simp
 refine (tB _).mono ?_
 rintro e wc ⟨rfl,hb3⟩
 go_wp2_with fail
 refine hK.out _ _ ?_ (fun hS1=>?_)
 ·exact ⟨cells_kept hb3 _ _ hS0.1,cells_kept hb3 _ _ hS0.2.1,cells_kept hb3 _ _ hS0.2.2.1,cells_kept hb3 _ _ hS0.2.2.2⟩
 clear hK
 have hb5:=bel_trans hdr hb3
 refine tkr 3 35 (fun K hK=>?_)
 go_simp
 refine (kI _ _ _ _ (hX.below hb5) (hG.below (bel_trans bw hb5))).mono ?_
 rintro e wI ⟨⟨vG,rfl,qG⟩,hb4⟩
 obtain ⟨vGa,vGc,rfl,i9⟩:=lst_slice qG
 clear i9
 go_wp2_with fail
 refine hK.out _ _ ?_ (fun hS3=>?_)
 ·exact ⟨cells_kept hb4 _ _ hS1.1,cells_kept hb4 _ _ hS1.2.1,cells_kept hb4 _ _ hS1.2.2.1,cells_kept hb4 _ _ hS1.2.2.2⟩
 clear hK
 try simp only [Act.put,tka,tkb,tkc]
 refine tkm 4 31 (.tuple #[.slice vGa xs.length vGc,.int .i64 cd]) ?_
 refine tkm 5 36 (.slice vGa xs.length vGc) ?_
 refine tkm 6 37 (.int .i64 cd) ?_
 refine tkm 7 9 (.slice vGa xs.length vGc) ?_
 refine tkm 8 10 (.int .i64 cd) ?_
 refine wpAnyH_done (by kernel_rfl) ?_ _
 have hGB:GX<wc.heap.size:=Nat.lt_of_lt_of_le pX.lt hb5.size
 have hb9:Below wy.heap.size wy wI:=bel_trans hb5 hb4
 replace bw:=bel_trans bw hb9
 replace p0:=p0.below hb9
 replace pB:=pB.below hb9
 replace qS:=owns_below qS hb9
 replace hP:=hP.below hb9
 replace pX:=pX.below hb9
 generalize wc.heap.size=BG at *
 clear hb9 hb3 hb4 hb5 hdr hS0 hS1 hS3 b9 b0 b1 b2 hX
 go_wp2_with fail
 refine (eqL_same vGa vSa xs.length vGc vSc xs _ (lst_of qG) (lst_of qS)).mono ?_
 rintro e u2 ⟨rfl,hb⟩
 replace bw:=bel_trans bw hb
 replace p0:=p0.below hb
 replace pB:=pB.below hb
 replace qS:=owns_below qS hb
 replace hP:=hP.below hb
 replace pX:=pX.below hb
 replace qG:=owns_below qG hb
 clear hb
 have b9:=pX.cell 0
 have b8:=p0.cell 0
 simp only [List.getElem?_cons_zero,List.getElem?_cons_succ] at b9 b8
 go_wp2_with fail
 have hdr:Below u2.heap.size u2 u2.drew:=by go_grown
 have bd:=bel_trans bw hdr
 have hX:=hP.codes9 h0
 refine wp_region_held_drew (S:=(fun w'=>w'.cell? ⟨GX,0,none⟩=some (.slice (some ⟨gx,0,none⟩) n0 n0)∧w'.cell? ⟨w.heap.size,0,none⟩=some (.slice a0 n0 c0))) (by kernel_rfl) ⟨b9,b8⟩ (fun hS0=>?_)
 refine tkm 0 47 (.agg #[.slice (some ⟨gx,0,none⟩) n0 n0]) ?_
 refine tkm 1 48 (.agg #[.slice a0 n0 c0]) ?_
 refine tkr 2 49 (fun K hK=>?_)
 go_simp
 refine (kT _ (h0.below bd)).mono ?_
 rintro e wk ⟨rfl,hO,hb1⟩
 go_wp2_with fail
 refine hK.out _ _ ?_ (fun hS1=>?_)
 ·exact ⟨cells_kept hb1 _ _ hS0.1,cells_kept hb1 _ _ hS0.2⟩
 clear hK
 have hK9:=hO.codes
 clear hO
 refine tkr 3 50 (fun K hK=>?_)
 go_simp
 refine (eqProgram_same _ _ _ _ _ r0 _ (hX.below (bel_trans hdr hb1)) hK9).mono ?_
 rintro e u3 ⟨rfl,hb2⟩
 go_wp2_with fail
 refine hK.out _ _ ?_ (fun hS2=>?_)
 ·exact ⟨cells_kept hb2 _ _ hS1.1,cells_kept hb2 _ _ hS1.2⟩
 clear hK
 refine tkm 4 51 (.bool false) ?_
 refine wpAnyH_done (by kernel_rfl) ?_ _
 have hb9:Below u2.heap.size u2 u3:=bel_trans hdr (bel_trans hb1 hb2)
 replace bw:=bel_trans bw hb9
 replace p0:=p0.below hb9
 replace pB:=pB.below hb9
 replace qS:=owns_below qS hb9
 replace hP:=hP.below hb9
 replace pX:=pX.below hb9
 replace qG:=owns_below qG hb9
 clear hb9 hb1 hb2 hdr bd hS0 hS1 hS2 b9 b8 hX hK9
 have hBW:gx≤u3.heap.size:=by have:=pX.lt;omega
 go_wp2_with (first | refine wpList_load_blk rfl 31 _ rfl GX rfl pX _ Tryd.underlying31 rfl (by kernel_rfl) ?_)
 refine (markProgram_own gx _ 1 r0 _ (by omega) (by omega) hcl hcj HRJ.out hBW hP).mono ?_
 rintro e u6 ⟨rfl,_,kb,hb⟩
 replace bw:=bel_transR bw (below_lowR hb hBx)
 replace p0:=fnExactWitnessOf_blk kb p0 (by decide)
 replace pX:=fnExactWitnessOf_blk kb pX (by decide)
 replace pB:=fnExactWitnessOf_blk kb pB (by decide)
 replace qS:=kb.owns qS (by decide)
 replace qG:=kb.owns qG (by decide)
 clear kb hb hP hBW
 have hc0:(0:Int)≤cntP r0 r0.length:=by omega
 have hk9:decide (1+(cntP r0 r0.length:Int)<0)=false:=by simp;omega
 go_wp2_with fail
 refine (eqL_same vGa vSa xs.length vGc vSc xs _ (lst_of qG) (lst_of qS)).mono ?_
 rintro e u9 ⟨rfl,hb⟩
 replace bw:=bel_trans bw hb
 replace p0:=p0.below hb
 replace pB:=pB.below hb
 replace qS:=owns_below qS hb
 replace pX:=pX.below hb
 replace qG:=owns_below qG hb
 clear hb
 clear hk9
 go_wp2_with fail
 refine (markL_any BG _ 1 xs _ (by omega) (by omega) (by omega) qG).mono ?_
 rintro e v2 ⟨rfl,qG2,g2⟩
 replace p0:=p0.kept g2 (own_ne_blk qG p0 (by decide))
 replace pX:=pX.kept g2 (own_ne_blk qG pX (by decide))
 replace pB:=pB.kept g2 (own_ne_blk qG pB (by decide))
 replace qS:=fnExactWitnessOf_heap qS fun j hj=>g2.block j (qS.lt j hj).2 (fun e=>by have h1:=(qG.lt j e.symm).1;have:=bv _ hj;omega)
 replace bw:=bw.grown g2 bw.size (fun k e=>by have h1:=(qG.lt k e).1;omega)
 clear g2 qG
 have qG:=qG2
 clear qG2
 have hh2:decide (1+(xs.length:Int)<0)=false:=by simp;omega
 have hh3:((1+(xs.length:Int)) != (1+(xs.length:Int)))=false:=by simp
 go_wp2_with fail
 refine (heldL_any BG _ 1 xs _ (by omega) (by omega) (by omega) qG).mono ?_
 rintro e h1b ⟨rfl,rfl⟩
 have b9:=p0.cell 0
 have b0:=pB.cell 0
 have b1:=pB.cell 1
 have b2:=pB.cell 2
 simp only [List.getElem?_cons_zero,List.getElem?_cons_succ] at b9 b0 b1 b2
 go_wp2_with fail
 have hdr:Below v2.heap.size v2 v2.drew:=by go_grown
 have bd:=bel_trans bw hdr
 refine wp_region_held_drew (S:=(fun w'=>w'.cell? ⟨w.heap.size,0,none⟩=some (.slice a0 n0 c0)∧w'.cell? ⟨w.heap.size+1,0,none⟩=some (.int .i64 y0)∧w'.cell? ⟨w.heap.size+1,1,none⟩=some (.int .i64 y1)∧w'.cell? ⟨w.heap.size+1,2,none⟩=some (.int .i64 y2))) (by kernel_rfl) ⟨b9,b0,b1,b2⟩ (fun hS0=>?_)
 refine tkm 0 80 (.agg #[.slice a0 n0 c0]) ?_
 refine tkm 2 82 (.agg #[.int .i64 y0,.int .i64 y1,.int .i64 y2]) ?_
 refine tkr 1 81 (fun K hK=>?_)
 go_simp
 refine (kT _ (h0.below bd)).mono ?_
 rintro e wa ⟨rfl,hO,hb1⟩
 go_wp2_with fail
 refine hK.out _ _ ?_ (fun hS1=>?_)
 ·exact ⟨cells_kept hb1 _ _ hS0.1,cells_kept hb1 _ _ hS0.2.1,cells_kept hb1 _ _ hS0.2.2.1,cells_kept hb1 _ _ hS0.2.2.2⟩
 clear hK
 have hA:=hO.codes
 clear hO
 refine tkr 3 83 (fun K hK=>?_)
 go_simp
 refine (tB _).mono ?_
 rintro e wc ⟨rfl,hb3⟩
 go_wp2_with fail
 refine hK.out _ _ ?_ (fun hS2=>?_)
 ·exact ⟨cells_kept hb3 _ _ hS1.1,cells_kept hb3 _ _ hS1.2.1,cells_kept hb3 _ _ hS1.2.2.1,cells_kept hb3 _ _ hS1.2.2.2⟩
 clear hK
 refine tkr 4 84 (fun K hK=>?_)
 go_simp
 refine (kI _ _ _ _ (hA.below hb3) (hG.below (bel_trans bd (bel_trans hb1 hb3)))).mono ?_
 rintro e xc ⟨⟨vH,rfl,qH⟩,hb4⟩
 obtain ⟨vHa,vHc,rfl,i9⟩:=lst_slice qH
 clear i9
 go_wp2_with fail
 refine hK.out _ _ ?_ (fun hS3=>?_)
 ·exact ⟨cells_kept hb4 _ _ hS2.1,cells_kept hb4 _ _ hS2.2.1,cells_kept hb4 _ _ hS2.2.2.1,cells_kept hb4 _ _ hS2.2.2.2⟩
 clear hK
 try simp only [Act.put,tka,tkb,tkc]
 refine tkm 5 79 (.tuple #[.slice vHa xs.length vHc,.int .i64 cd]) ?_
 refine tkm 6 85 (.slice vHa xs.length vHc) ?_
 refine tkm 7 86 (.int .i64 cd) ?_
 refine tkm 8 14 (.slice vHa xs.length vHc) ?_
 refine tkm 9 15 (.int .i64 cd) ?_
 refine wpAnyH_done (by kernel_rfl) ?_ _
 have hb9:Below v2.heap.size v2 xc:=bel_trans hdr (bel_trans hb1 (bel_trans hb3 hb4))
 replace bw:=bel_trans bw hb9
 replace p0:=p0.below hb9
 replace pB:=pB.below hb9
 replace qS:=owns_below qS hb9
 replace pX:=pX.below hb9
 replace qG:=owns_below qG hb9
 clear hb9 hb1 hb3 hb4 hdr bd hS0 hS1 hS2 hS3 hA b9 b0 b1 b2
 clear kI
 go_wp2_with fail
 refine (eqL_same vHa vSa xs.length vHc vSc xs _ (lst_of qH) (lst_of qS)).mono ?_
 rintro e y9 ⟨rfl,hb⟩
 replace bw:=bel_trans bw hb
 replace p0:=p0.below hb
 replace pB:=pB.below hb
 replace qS:=owns_below qS hb
 replace pX:=pX.below hb
 replace qG:=owns_below qG hb
 clear hb qH
 go_wp2_with fail
 refine (heldL_any BG _ 1 xs _ (by omega) (by omega) (by omega) qG).mono ?_
 rintro e h2b ⟨rfl,rfl⟩
 go_wp2
 go_ret
 exact ⟨rfl,bw⟩
end Go.Proofs.YtfpopbbmnbehiaaDoor
