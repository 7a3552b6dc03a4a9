/-
  Joined: AbgW, LocS, AbgE.
-/
import Derived.Test.YtfpopbbmnbehiaaGreatDoorC58

namespace Go.Proofs.YtfpopbbmnbehiaaGreatDoor
set_option maxRecDepth 100000
set_option maxHeartbeats 16000000
open Go.RowKit
set_option linter.unusedVariables false
set_option linter.unusedSimpArgs false

theorem fnExactAllBugs_heap {w w':World} {b e s n:Nat} {v:Value} {xs:List Value} (h:w.ownsRow b e s v n xs) (hq:∀ j,v.ownBlock=some j→w'.heap[j]?=w.heap[j]?):w'.ownsRow b e s v n xs:=by
 refine ⟨h.1,?_⟩
 rcases h.2 with h0 | ⟨g,cap,cur,hv,hB,hg,rest⟩
 ·exact .inl h0
 ·exact .inr ⟨g,cap,cur,hv,hB,by rw [hq g (by rw [hv];rfl)];exact hg,rest⟩
theorem fnExactAllBugs_blk {T:TypeId} {w w':World} {g t:Nat} {cs:List Value} (k:KeptBut T w w') (h:Blk w g t cs) (hT:t≠T):Blk w' g t cs:=k g _ t _ h hT

theorem fnExactAllBugs_of (a0:Option Addr) (n0 c0:Nat) (r0:List (List I3)) (xs:List I3) (hfit:∀ x ∈ xs,I3.fits x) (hlf:xs.length≤100000) (cd:Int) (w:World) (h0:Codes w a0 n0 c0 r0) (hG:VmShape w)
  (kS:∀ (a0:Option Addr) (n0 c0:Nat) (w:World),Codes w a0 n0 c0 r0→Calls Tryz.prog 19 #[.agg #[.slice a0 n0 c0]] w fun e w'=>AbgGot e w' w.heap.size xs cd∧Below w.heap.size w w')
  (kI:∀ (a0:Option Addr) (n0 c0:Nat) (w:World),Codes w a0 n0 c0 r0→VmShape w→Calls Tryz.prog 18 #[.agg #[.slice a0 n0 c0]] w fun e w'=>AbgGot e w' w.heap.size xs cd∧Below w.heap.size w w') :
  Calls Tryz.prog 6 #[.agg #[.slice a0 n0 c0]] w fun e w'=>e=.returned (.bool true)∧Below w.heap.size w w':=by
 have kT:=fun W h=>toProgram_copy a0 n0 c0 r0 W h
 have kO:=fun W h=>toProgram_own a0 n0 c0 r0 W h
 have hcd:(cd != cd)=false:=by simp
 have bw:Below w.heap.size w (w.alloc (.cells #[.slice a0 n0 c0] 64)):=by go_grown
 have p0:Blk (w.alloc (.cells #[.slice a0 n0 c0] 64)) w.heap.size 64 [.slice a0 n0 c0]:=blkAt _ _ _ rfl
 go_enter Tryz.func6,Tryz.ntmps6
 go_wp2_with fail
 generalize (w.alloc (.cells #[.slice a0 n0 c0] 64))=W0 at *
 go_wp2_with (first | refine wpList_load_blk rfl 64 _ rfl w.heap.size rfl p0 _ Tryz.underlying64 rfl (by kernel_rfl) ?_)
 have hz:=sizeLeft_or r0 1048576 (by omega)
 have hbd:=size_bounds (rows:=r0) (left:=1048576) (by omega)
 have hcb:=fun h=>sizeLeft_cnt (rows:=r0) (left:=1048576) h
 refine (szProgram_less a0 n0 c0 r0 1048576 _ (h0.below bw) (by omega) (by omega)).mono ?_
 rintro e wz ⟨rfl,hb⟩
 generalize sizeLeft 1048576 r0=zl at hz hbd hcb
 replace bw:=bel_trans bw hb
 replace p0:=p0.below hb
 clear hb
 rcases hz with rfl | ⟨yl,xl⟩
 ·clear hbd hcb
  go_wp2
  go_ret
  exact ⟨rfl,bw⟩
 obtain ⟨hr,hr'⟩:=hbd yl (by omega)
 have hcnt:=hcb yl
 have hlen:n0≤1048576:=by rw [← h0.1];exact hr
 replace kT:=fun W h=>kT W h hlen (fun t _=>hr' t)
 replace kO:=fun W h=>kO W h hlen (fun t _=>hr' t)
 have hcl:cntP r0 r0.length≤10000000:=by omega
 have hcj:∀ j,j≤r0.length→cntP r0 j≤10000000:=fun j hj=>by have:=cntP_mono r0 j;omega
 have HRJ:Hid (∀ j,j<r0.length→(r0.getD j []).length≤1048576):=fun j _=>hr' j
 clear hbd hcb hr hr' hlen hcnt
 have hn0:decide (zl<0)=false:=by simp;omega
 clear yl xl
 go_wp2_with (first | refine wpList_load_blk rfl 64 _ rfl w.heap.size rfl p0 _ Tryz.underlying64 rfl (by kernel_rfl) ?_)
 refine (kT _ (h0.below bw)).mono ?_
 rintro e wa1 ⟨rfl,hO,hb⟩
 have hA:=hO.codes
 clear hO
 generalize wz.heap.size+3=ga at hA ⊢
 replace bw:=bel_trans bw hb
 replace p0:=p0.below hb
 clear hb
 go_wp2_with fail
 refine (kS _ _ _ _ hA).mono ?_
 rintro e wS ⟨⟨vS,rfl,qS⟩,hb⟩
 obtain ⟨vSa,vSc,rfl,_,_⟩:=bugs_sliceR qS hfit
 replace bw:=bel_trans bw hb
 replace p0:=p0.below hb
 clear hb hA
 clear kS
 have bv:∀ j,(Value.slice vSa xs.length vSc).ownBlock=some j→j<wS.heap.size:=fun j hj=>(qS.lt j hj).2
 go_wp2_with (first | refine wpList_load_blk rfl 64 _ rfl w.heap.size rfl p0 _ Tryz.underlying64 rfl (by kernel_rfl) ?_)
 refine (kO _ (h0.below bw)).mono ?_
 rintro e wx ⟨rfl,hP,hb⟩
 have hBx:w.heap.size≤wS.heap.size+3:=by have:=bw.size;omega
 have hSx:wS.heap.size≤wx.heap.size:=hb.size
 generalize hgx:wS.heap.size+3=gx at hP hBx ⊢
 replace bw:=bel_trans bw hb
 replace p0:=p0.below hb
 replace qS:=owns_below qS hb
 have hgxX:gx≤wx.heap.size:=by obtain ⟨vs9,h9,_⟩:=hP;have:=(h9.lt gx rfl).2;omega
 clear hb hgx
 generalize wS.heap.size=NS at *
 have ha:Below wx.heap.size wx (wx.alloc (.cells #[.slice (some ⟨gx,0,none⟩) n0 n0] 25)):=by go_grown
 have pX:Blk (wx.alloc (.cells #[.slice (some ⟨gx,0,none⟩) n0 n0] 25)) wx.heap.size 25 [.slice (some ⟨gx,0,none⟩) n0 n0]:=blkAt _ _ _ rfl
 replace bw:=bel_trans bw ha
 replace p0:=p0.below ha
 replace qS:=owns_below qS ha
 replace hP:=hP.below ha
 have hNp:wx.heap.size≤(wx.alloc (.cells #[.slice (some ⟨gx,0,none⟩) n0 n0] 25)).heap.size:=ha.size
 clear ha
 have hX:=hP.codes9 h0
 go_wp2_with (first | refine wpList_load_blk rfl 25 _ rfl wx.heap.size rfl pX _ Tryz.underlying25 rfl (by kernel_rfl) ?_)
 generalize (wx.alloc (.cells #[.slice (some ⟨gx,0,none⟩) n0 n0] 25))=wy at *
 generalize wx.heap.size=GX at *
 refine (kI _ _ _ _ hX (hG.below bw)).mono ?_
 rintro e wI ⟨⟨vG,rfl,qG⟩,hb⟩
 obtain ⟨vGa,vGc,rfl,_,_⟩:=bugs_sliceR qG hfit
 have hGB:GX<wy.heap.size:=pX.lt
 replace bw:=bel_trans bw hb
 replace p0:=p0.below hb
 replace qS:=owns_below qS hb
 replace hP:=hP.below hb
 replace pX:=pX.below hb
 generalize wy.heap.size=BG at *
 clear hb hX
 go_wp2_with fail
 refine (eqBugS_same vGa vSa xs.length vGc vSc xs _ (instrs_rowS qG hfit) (instrs_rowS qS hfit)).mono ?_
 rintro e u2 ⟨rfl,hb⟩
 replace bw:=bel_trans bw hb
 replace p0:=p0.below hb
 replace qS:=owns_below qS hb
 replace hP:=hP.below hb
 replace pX:=pX.below hb
 replace qG:=owns_below qG hb
 clear hb
 have b9:=pX.cell 0
 have b8:=p0.cell 0
 simp only [List.getElem?_cons_zero,List.getElem?_cons_succ] at b9 b8
 go_wp2_with fail
 have hdr:Below u2.heap.size u2 u2.drew:=by go_grown
 have bd:=bel_trans bw hdr
 have hX:=hP.codes9 h0
 refine wp_region_held_drew (S:=(fun w'=>w'.cell? ⟨GX,0,none⟩=some (.slice (some ⟨gx,0,none⟩) n0 n0)∧w'.cell? ⟨w.heap.size,0,none⟩=some (.slice a0 n0 c0))) (by kernel_rfl) ⟨b9,b8⟩ (fun hS0=>?_)
 refine tkm 0 41 (.agg #[.slice (some ⟨gx,0,none⟩) n0 n0]) ?_
 refine tkm 1 42 (.agg #[.slice a0 n0 c0]) ?_
 refine tkr 2 43 (fun K hK=>?_)
 go_simp
 refine (kT _ (h0.below bd)).mono ?_
 rintro e wk ⟨rfl,hO,hb1⟩
 go_wp2_with fail
 refine hK.out _ _ ?_ (fun hS1=>?_)
 ·exact ⟨cells_kept hb1 _ _ hS0.1,cells_kept hb1 _ _ hS0.2⟩
 clear hK
 have hK9:=hO.codes
 clear hO
 refine tkr 3 44 (fun K hK=>?_)
 go_simp
 refine (eqProgram_same _ _ _ _ _ r0 _ (hX.below (bel_trans hdr hb1)) hK9).mono ?_
 rintro e u3 ⟨rfl,hb2⟩
 go_wp2_with fail
 refine hK.out _ _ ?_ (fun hS2=>?_)
 ·exact ⟨cells_kept hb2 _ _ hS1.1,cells_kept hb2 _ _ hS1.2⟩
 clear hK
 refine tkm 4 45 (.bool false) ?_
 refine wpAnyH_done (by kernel_rfl) ?_ _
 have hb9:Below u2.heap.size u2 u3:=bel_trans hdr (bel_trans hb1 hb2)
 replace bw:=bel_trans bw hb9
 replace p0:=p0.below hb9
 replace qS:=owns_below qS hb9
 replace hP:=hP.below hb9
 replace pX:=pX.below hb9
 replace qG:=owns_below qG hb9
 clear hb9 hb1 hb2 hdr bd hS0 hS1 hS2 b9 b8 hX hK9
 have hBW:gx≤u3.heap.size:=by have:=pX.lt;omega
 go_wp2_with (first | refine wpList_load_blk rfl 25 _ rfl GX rfl pX _ Tryz.underlying25 rfl (by kernel_rfl) ?_)
 refine (markProgram_own gx _ 1 r0 _ (by omega) (by omega) hcl hcj HRJ.out hBW hP).mono ?_
 rintro e u6 ⟨rfl,_,kb,hb⟩
 replace bw:=bel_transR bw (below_lowR hb hBx)
 replace p0:=fnExactAllBugs_blk kb p0 (by decide)
 replace pX:=fnExactAllBugs_blk kb pX (by decide)
 replace qS:=kb.owns qS (by decide)
 replace qG:=kb.owns qG (by decide)
 clear kb hb hP hBW
 have hc0:(0:Int)≤cntP r0 r0.length:=by omega
 have hk9:decide (1+(cntP r0 r0.length:Int)<0)=false:=by simp;omega
 go_wp2_with fail
 refine (eqBugS_same vGa vSa xs.length vGc vSc xs _ (instrs_rowS qG hfit) (instrs_rowS qS hfit)).mono ?_
 rintro e u9 ⟨rfl,hb⟩
 replace bw:=bel_trans bw hb
 replace p0:=p0.below hb
 replace qS:=owns_below qS hb
 replace pX:=pX.below hb
 replace qG:=owns_below qG hb
 clear hb
 clear hk9
 go_wp2_with fail
 refine (markBugS_any BG _ 1 xs _ (by omega) (by omega) (by omega) qG).mono ?_
 rintro e v2 ⟨rfl,qG2,g2⟩
 replace p0:=p0.kept g2 (own_ne_blk qG p0 (by decide))
 replace pX:=pX.kept g2 (own_ne_blk qG pX (by decide))
 replace qS:=fnExactAllBugs_heap qS fun j hj=>g2.block j (qS.lt j hj).2 (fun e=>by have h1:=(qG.lt j e.symm).1;have:=bv _ hj;omega)
 replace bw:=bw.grown g2 bw.size (fun k e=>by have h1:=(qG.lt k e).1;omega)
 clear g2 qG
 have qG:=qG2
 clear qG2
 have hh2:decide (1+(xs.length:Int)*3<0)=false:=by simp;omega
 have hh3:((1+(xs.length:Int)*3) != (1+(xs.length:Int)*3))=false:=by simp
 go_wp2_with fail
 refine (heldBugS_any BG _ 1 xs _ (by omega) (by omega) (by omega) qG).mono ?_
 rintro e h1b ⟨rfl,rfl⟩
 go_wp2_with (first | refine wpList_load_blk rfl 64 _ rfl w.heap.size rfl p0 _ Tryz.underlying64 rfl (by kernel_rfl) ?_)
 refine (kT _ (h0.below bw)).mono ?_
 rintro e wa2 ⟨rfl,hO,hb⟩
 have hA:=hO.codes
 clear hO
 generalize v2.heap.size+3=ga at hA ⊢
 replace bw:=bel_trans bw hb
 replace p0:=p0.below hb
 replace qS:=owns_below qS hb
 replace pX:=pX.below hb
 replace qG:=owns_below qG hb
 clear hb
 go_wp2_with fail
 refine (kI _ _ _ _ hA (hG.below bw)).mono ?_
 rintro e xc ⟨⟨vH,rfl,qH⟩,hb⟩
 obtain ⟨vHa,vHc,rfl,_,_⟩:=bugs_sliceR qH hfit
 replace bw:=bel_trans bw hb
 replace p0:=p0.below hb
 replace qS:=owns_below qS hb
 replace pX:=pX.below hb
 replace qG:=owns_below qG hb
 clear hb hA
 clear kI
 go_wp2_with fail
 refine (eqBugS_same vHa vSa xs.length vHc vSc xs _ (instrs_rowS qH hfit) (instrs_rowS qS hfit)).mono ?_
 rintro e y9 ⟨rfl,hb⟩
 replace bw:=bel_trans bw hb
 replace p0:=p0.below hb
 replace qS:=owns_below qS hb
 replace pX:=pX.below hb
 replace qG:=owns_below qG hb
 clear hb qH
 go_wp2_with fail
 refine (heldBugS_any BG _ 1 xs _ (by omega) (by omega) (by omega) qG).mono ?_
 rintro e h2b ⟨rfl,rfl⟩
 go_wp2
 go_ret
 exact ⟨rfl,bw⟩


def locJ (rows:List (List I3)) (m:V4) (j:Nat):List I3:=((enabM rows m 3).take j).foldl (fun out k=>mergeB out (foundM rows m k)) (deadM rows m)
theorem locJ_zero (rows:List (List I3)) (m:V4):locJ rows m 0=deadM rows m:=rfl
theorem locJ_succ {rows:List (List I3)} {m:V4} {j:Nat} {k:Int} (h:(enabM rows m 3)[j]?=some k):locJ rows m (j+1)=mergeB (locJ rows m j) (foundM rows m k):=by
 unfold locJ
 rw [List.take_add_one,h]
 simp [List.foldl_append]
theorem locJ_all {rows:List (List I3)} {m:V4} {j:Nat} (h:(enabM rows m 3).length≤j):locJ rows m j=localS rows m:=by
 unfold locJ localS
 rw [List.take_of_length_le h]
theorem dead_ok (rows:List (List I3)) (m:V4):(∀ x ∈ deadM rows m,okB x=true)∧(deadM rows m).length≤1:=by
 unfold deadM
 split
 ·exact ⟨fun x hx=>by simp at hx;subst hx;rfl,by simp⟩
 ·exact ⟨fun x hx=>by simp at hx,by simp⟩
theorem locJ_ok {rows:List (List I3)} {m:V4} (hp:progOk rows=true) (hs:shapeOk m=true):∀ j,(∀ x ∈ locJ rows m j,okB x=true)∧(locJ rows m j).length≤1+2*j
 | 0=>by rw [locJ_zero];exact dead_ok rows m
 | j+1=>by
  have ih:=locJ_ok hp hs j
  cases h:(enabM rows m 3)[j]? with
  | none =>
   have e:locJ rows m (j+1)=locJ rows m j:=by unfold locJ;rw [List.take_add_one,h];simp
   rw [e]
   exact ⟨ih.1,by omega⟩
  | some k =>
   have hf:=foundM_ok hp hs (enab_halt (List.mem_of_getElem? h))
   rw [locJ_succ h]
   exact ⟨mergeB_ok ih.1 hf.1,by have:=mergeB_len (locJ rows m j) (foundM rows m k);have:=hf.2;omega⟩
theorem loc_len {rows:List (List I3)} {m:V4} (hp:progOk rows=true) (hs:shapeOk m=true):(∀ x ∈ localS rows m,okB x=true)∧(localS rows m).length≤7:=by
 have h:=locJ_ok hp hs (enabM rows m 3).length
 rw [locJ_all (Nat.le_refl _)] at h
 have:=enabM_len rows m 3
 exact ⟨h.1,by omega⟩

theorem l06Local_is {w:World} {a:Option Addr} {cap:Nat} {cs:Sl × Sl × Sl} {rows:List (List I3)} {s:S4} {m:V4} (hR:RowsAt w a cs rows) (h:Vmem w s m) (hp:progOk rows=true) (hs:shapeOk m=true) :
  Calls Tryz.prog 110 #[.agg #[.slice a 3 cap],s.val] w fun e w'=>BugsOne e w' w.heap.size (localS rows m)∧Below w.heap.size w w':=by
 obtain ⟨i0,hi9,hz0,hz1,hz2⟩:=info_parts info_bug
 obtain ⟨⟨t0a,t0n,t0c⟩,⟨t1a,t1n,t1c⟩,⟨t2a,t2n,t2c⟩,⟨t3a,t3n,t3c⟩⟩:=s
 have ut:S4.val ((t0a,t0n,t0c),(t1a,t1n,t1c),(t2a,t2n,t2c),(t3a,t3n,t3c))=.agg #[.slice t0a t0n t0c,.slice t1a t1n t1c,.slice t2a t2n t2c,.slice t3a t3n t3c]:=rfl
 have kU:=fun (W:World) (b:Below w.heap.size w W)=>l03Stuck_is a 3 cap rows ((t0a,t0n,t0c),(t1a,t1n,t1c),(t2a,t2n,t2c),(t3a,t3n,t3c)) m cs W rfl (hR.below b) (h.below b) hp hs
 have kE:=fun (W:World) (b:Below w.heap.size w W)=>l03Enabled_is a 3 cap rows ((t0a,t0n,t0c),(t1a,t1n,t1c),(t2a,t2n,t2c),(t3a,t3n,t3c)) m cs W rfl (hR.below b) (h.below b) hp hs
 rw [ut] at kU kE ⊢
 have bw:Below w.heap.size w (((w.alloc (.cells #[.slice a 3 cap] 25)).alloc (.cells #[.slice t0a t0n t0c,.slice t1a t1n t1c,.slice t2a t2n t2c,.slice t3a t3n t3c] 33)).alloc (.cells #[] 53)):=by go_grown
 have pP:Blk (((w.alloc (.cells #[.slice a 3 cap] 25)).alloc (.cells #[.slice t0a t0n t0c,.slice t1a t1n t1c,.slice t2a t2n t2c,.slice t3a t3n t3c] 33)).alloc (.cells #[] 53)) w.heap.size 25 [.slice a 3 cap]:=blkOld _ (blkOld _ (blkAt _ _ _ rfl))
 have pS:Blk (((w.alloc (.cells #[.slice a 3 cap] 25)).alloc (.cells #[.slice t0a t0n t0c,.slice t1a t1n t1c,.slice t2a t2n t2c,.slice t3a t3n t3c] 33)).alloc (.cells #[] 53)) (w.heap.size+1) 33 [.slice t0a t0n t0c,.slice t1a t1n t1c,.slice t2a t2n t2c,.slice t3a t3n t3c]:=blkOld _ (blkAt _ _ _ (by simp))
 have q:(((w.alloc (.cells #[.slice a 3 cap] 25)).alloc (.cells #[.slice t0a t0n t0c,.slice t1a t1n t1c,.slice t2a t2n t2c,.slice t3a t3n t3c] 33)).alloc (.cells #[] 53)).ownsRow w.heap.size 53 3 (.slice (some ⟨w.heap.size+1+1,0,none⟩) 0 0) 0 []:=by
  have h9:=own_emptyB ((w.alloc (.cells #[.slice a 3 cap] 25)).alloc (.cells #[.slice t0a t0n t0c,.slice t1a t1n t1c,.slice t2a t2n t2c,.slice t3a t3n t3c] 33)) 53 3 w.heap.size (by simp;omega)
  simpa using h9
 obtain ⟨g0,hg0⟩:∃ g0,g0=w.heap.size+1+1:=⟨_,rfl⟩
 go_enter Tryz.func110,Tryz.ntmps110
 go_wp2_with fail
 rw [← hg0] at q ⊢
 clear hg0
 generalize ((w.alloc (.cells #[.slice a 3 cap] 25)).alloc (.cells #[.slice t0a t0n t0c,.slice t1a t1n t1c,.slice t2a t2n t2c,.slice t3a t3n t3c] 33)).alloc (.cells #[] 53)=U at *
 have kUx:=kU U bw
 clear kU
 go_wp2_with (first | refine wpList_load_blk rfl 25 _ rfl w.heap.size rfl pP _ Tryz.underlying25 rfl (by kernel_rfl) ?_ | refine wpList_load_blk rfl 33 _ rfl (w.heap.size+1) rfl pS _ Tryz.underlying33 rfl (by kernel_rfl) ?_)
 refine kUx.mono ?_
 rintro e w1 ⟨rfl,hb⟩
 replace bw:=bel_trans bw hb
 replace pP:=pP.below hb
 replace pS:=pS.below hb
 replace q:=owns_below q hb
 clear hb kUx
 have key:∀ (W:World) (v:Value),Hid (W.ownsRow w.heap.size 53 3 v (deadM rows m).length (flat (deadM rows m)))→Hid (W.ownsRow w.heap.size 53 3 v (locJ rows m 0).length (flat (locJ rows m 0))):=fun W v h=>h
 cases hst:stuckM rows m
 ·have HQ:Hid (w1.ownsRow w.heap.size 53 3 (.slice (some ⟨g0,0,none⟩) 0 0) (deadM rows m).length (flat (deadM rows m))):=by
   unfold deadM
   rw [hst]
   exact q
  clear q hst
  have kEx:=kE w1 bw
  clear kE
  go_wp2_with (first | refine wpList_load_blk rfl 25 _ rfl w.heap.size rfl pP _ Tryz.underlying25 rfl (by kernel_rfl) ?_ | refine wpList_load_blk rfl 33 _ rfl (w.heap.size+1) rfl pS _ Tryz.underlying33 rfl (by kernel_rfl) ?_)
  refine kEx.mono ?_
  rintro e w6 ⟨⟨⟨la,ln,lc⟩,rfl,hL⟩,hb⟩
  replace bw:=bel_trans bw hb
  replace pP:=pP.below hb
  replace pS:=pS.below hb
  have HQ2:=key w6 _ (owns_below HQ.out hb)
  clear hb kEx HQ key
  have hLn:(enabM rows m 3).length=ln:=by have:=hL.1;simpa using this
  have hl3:=enabM_len rows m 3
  go_wp2_with fail
  go_loopw [5,7] (fun s5 s7 wr=>∃ j:Nat,s7=.int .i64 j∧j≤ln∧Hid (wr.ownsRow w.heap.size 53 3 s5 (locJ rows m j).length (flat (locJ rows m j)))∧Below w6.heap.size w6 wr) (fun _ s7 _=>ln - (intOf s7).toNat)
  case atStart=>exact ⟨0,rfl,Nat.zero_le _,HQ2,Below.refl _ _⟩
  case round =>
   clear HQ2
   obtain ⟨j,rfl,hjn,HQ,bq⟩:=hrel
   have q:=HQ.out
   obtain ⟨va,vn,vc,rfl⟩:=own_slice6 q
   obtain ⟨hlo,hll⟩:=locJ_ok hp hs j
   replace bw:=bel_trans bw bq
   replace pP:=pP.below bq
   replace pS:=pS.below bq
   replace hL:=hL.below bq
   clear HQ
   by_cases hlt2:j<ln
   ·have hkj:(enabM rows m 3)[j]?=some ((enabM rows m 3).getD j 0):=by rw [List.getD,List.getElem?_eq_getElem (by omega)];rfl
    have hz:=enab_halt (List.mem_of_getElem? hkj)
    obtain ⟨h0k,h2k,hd9,_⟩:=halt_can hz
    obtain ⟨k,hk⟩:∃ k:Nat,(enabM rows m 3).getD j 0=(k:Int):=⟨_,(Int.toNat_of_nonneg h0k).symm⟩
    obtain ⟨lb,lo,rfl,hc,hlb⟩:=ints_cellS hL.ints (show j<ln from hlt2)
    rw [hk] at hkj hz hd9 h0k h2k hc
    rw [Int.toNat_natCast] at hd9
    have hk3:k<3:=by omega
    clear hk hlb
    have hfo:=foundM_ok hp hs hz
    have HLS:Hid (locJ rows m (j+1)=mergeB (locJ rows m j) (foundM rows m (k:Int))):=locJ_succ hkj
    have kP:=fun (W:World) (b:Below w.heap.size w W)=>l04Found_is (cap:=cap) (hR.below b) (h.below b) hp hs hk3 hd9
    rw [ut] at kP
    generalize (goM rows m (k:Int)).1=z at *
    generalize foundM rows m (k:Int)=fs at *
    have hlt3:(j:Int)<(ln:Int):=by omega
    have hj0:(0:Int)≤(j:Int):=by omega
    clear hkj hz hd9
    go_wp2_with fail
    have hb9:Below wr.heap.size wr wr.drew:=by go_grown
    refine wp_region_held_drew (S:=(fun w'=>w'.cell? ⟨w.heap.size,0,none⟩=some (.slice a 3 cap)∧w'.cell? ⟨w.heap.size+1,0,none⟩=some (.slice t0a t0n t0c)∧w'.cell? ⟨w.heap.size+1,1,none⟩=some (.slice t1a t1n t1c)∧w'.cell? ⟨w.heap.size+1,2,none⟩=some (.slice t2a t2n t2c)∧w'.cell? ⟨w.heap.size+1,3,none⟩=some (.slice t3a t3n t3c)∧w'.cell? ⟨lb,lo+j,none⟩=some (.int .i64 (k:Int)))) (by kernel_rfl) ⟨by simpa using pP.cell 0,by simpa using pS.cell 0,by simpa using pS.cell 1,by simpa using pS.cell 2,by simpa using pS.cell 3,hc⟩ (fun hS0=>?_)
    refine tkm 0 28 (.agg #[.slice a 3 cap]) ?_
    refine tkm 1 29 (.agg #[.slice t0a t0n t0c,.slice t1a t1n t1c,.slice t2a t2n t2c,.slice t3a t3n t3c]) ?_
    refine tkm 2 30 (.slice (some ⟨lb,lo,none⟩) ln lc) ?_
    refine tkm 3 31 (.int .i64 (j:Int)) ?_
    refine tkm 4 32 (.pointer (some ⟨lb,lo+j,none⟩)) ?_
    refine tkm 5 33 (.int .i64 (k:Int)) ?_
    replace bw:=bel_trans bw hb9
    replace bq:=bel_trans bq hb9
    replace q:=owns_below q hb9
    clear hb9
    generalize wr.drew=V at *
    refine wpAnyH_ready (rs:=[6,10]) (by kernel_rfl) (by simp) ?_
    refine AllReadyH.cons (o:=⟨some 34,_,_,_,_,_⟩) rfl (fun K hK=>?_) (AllReadyH.cons (o:=⟨some 8,_,_,_,_,_⟩) rfl (fun K hK=>?_) AllReadyH.nil)
    ·have kPx:=kP V bw
     go_simp
     refine kPx.mono ?_
     rintro e V1 ⟨⟨⟨⟨z0a,z0n,z0c⟩,⟨z1a,z1n,z1c⟩,⟨z2a,z2n,z2c⟩,⟨z3a,z3n,z3c⟩⟩,v9,rfl,hO2,qf⟩,hb1⟩
     have uz:S4.val ((z0a,z0n,z0c),(z1a,z1n,z1c),(z2a,z2n,z2c),(z3a,z3n,z3c))=.agg #[.slice z0a z0n z0c,.slice z1a z1n z1c,.slice z2a z2n z2c,.slice z3a z3n z3c]:=rfl
     rw [uz]
     clear uz
     obtain ⟨fa,fc,rfl,hI9,hGd9⟩:=bugs_sliceR qf (fun x hx=>okB_fitsQ (hfo.1 x hx))
     clear hGd9 hO2 hI9
     go_wp2_with fail
     refine hK.out _ _ ⟨cells_kept hb1 _ _ hS0.1,cells_kept hb1 _ _ hS0.2.1,cells_kept hb1 _ _ hS0.2.2.1,cells_kept hb1 _ _ hS0.2.2.2.1,cells_kept hb1 _ _ hS0.2.2.2.2.1,cells_kept hb1 _ _ hS0.2.2.2.2.2⟩ (fun hS5=>?_)
     clear hK kPx
     try simp only [Act.put,tka,tkb,tkc]
     refine tkm 7 27 (.tuple #[.agg #[.slice z0a z0n z0c,.slice z1a z1n z1c,.slice z2a z2n z2c,.slice z3a z3n z3c],.slice fa fs.length fc]) ?_
     refine tkm 8 35 (.agg #[.slice z0a z0n z0c,.slice z1a z1n z1c,.slice z2a z2n z2c,.slice z3a z3n z3c]) ?_
     refine tkm 9 36 (.slice fa fs.length fc) ?_
     refine tkr 10 8 (fun K hK=>?_)
     have hb2:Below V1.heap.size V1 (V1.alloc (.cells #[.slice none 0 0,.slice none 0 0,.slice none 0 0,.slice none 0 0] 33)):=by go_grown
     have pX:Blk (V1.alloc (.cells #[.slice none 0 0,.slice none 0 0,.slice none 0 0,.slice none 0 0] 33)) V1.heap.size 33 [.slice none 0 0,.slice none 0 0,.slice none 0 0,.slice none 0 0]:=blkAt _ _ _ rfl
     replace qf:=owns_below qf hb2
     have hbA:=bel_trans hb1 hb2
     have hYV:V.heap.size≤V1.heap.size:=hb1.size
     go_simp
     refine hK.out _ _ ⟨cells_kept hbA _ _ hS0.1,cells_kept hbA _ _ hS0.2.1,cells_kept hbA _ _ hS0.2.2.1,cells_kept hbA _ _ hS0.2.2.2.1,cells_kept hbA _ _ hS0.2.2.2.2.1,cells_kept hbA _ _ hS0.2.2.2.2.2⟩ (fun hS6=>?_)
     clear hK hb1 hb2
     generalize (V1.alloc (.cells #[.slice none 0 0,.slice none 0 0,.slice none 0 0,.slice none 0 0] 33))=V2 at *
     generalize V1.heap.size=Y at *
     try simp only [Act.put,tka,tkb,tkc]
     refine tkz 11 (fun K hK=>?_)
     refine step_store_blkD rfl 33 _ _ rfl Y [.slice z0a z0n z0c,.slice z1a z1n z1c,.slice z2a z2n z2c,.slice z3a z3n z3c] rfl rfl pX (by kernel_rfl) rfl rfl ?_
     intro V8 pX8 g8
     have hbig:=hbA.grown g8 hbA.size (fun q hq=>by cases hq;exact hYV)
     replace qf:=qf.kept g8 (own_apart_blk qf pX (by decide))
     obtain ⟨fa9,fc9,ef9,hI8,hGd8⟩:=bugs_sliceR qf (fun x hx=>okB_fitsQ (hfo.1 x hx))
     cases ef9
     clear hGd8 qf
     refine hK.out _ _ ⟨cells_kept hbig _ _ hS0.1,cells_kept hbig _ _ hS0.2.1,cells_kept hbig _ _ hS0.2.2.1,cells_kept hbig _ _ hS0.2.2.2.1,cells_kept hbig _ _ hS0.2.2.2.2.1,cells_kept hbig _ _ hS0.2.2.2.2.2⟩ (fun hS7=>?_)
     clear hK pX g8 hbA hYV pX8
     try simp only [Act.put,tka,tkb,tkc]
     refine tkm 12 9 (.slice fa fs.length fc) ?_
     refine wpAnyH_done (by kernel_rfl) ?_ _
     replace bw:=bel_trans bw hbig
     replace bq:=bel_trans bq hbig
     replace q:=owns_below q hbig
     clear hbig hS0 hS5 hS6 hS7 pP pS kP hc hL
     obtain ⟨va9,vc9,ev9,hIv,hGv⟩:=bugs_sliceR q (fun x hx=>okB_fitsQ (hlo x hx))
     cases ev9
     have kM:=l04Merge_is va (locJ rows m j).length vc (locJ rows m j) fa fs.length fc fs V8 hIv hI8 (by omega) (by have:=hfo.2;omega)
     clear hIv hGv hI8 q
     go_wp2_with fail
     refine kM.mono ?_
     rintro e V10 ⟨⟨v6,rfl,q6⟩,hb⟩
     have hV8:=bw.size
     have HQ9:Hid (V10.ownsRow w.heap.size 53 3 v6 (locJ rows m (j+1)).length (flat (locJ rows m (j+1)))):=by rw [HLS.out];exact own_lower q6 hV8
     have bq9:=bel_trans bq hb
     clear hb q6 kM HLS bq bw
     go_wp2
     go_roundw
     case rel=>exact ⟨j+1,by go_num,by omega,HQ9,bq9⟩
     case measure=>simp [intOf];omega
    ·have hb1:Below V.heap.size V (V.alloc (.cells #[.slice none 0 0,.slice none 0 0,.slice none 0 0,.slice none 0 0] 33)):=by go_grown
     have pX:Blk (V.alloc (.cells #[.slice none 0 0,.slice none 0 0,.slice none 0 0,.slice none 0 0] 33)) V.heap.size 33 [.slice none 0 0,.slice none 0 0,.slice none 0 0,.slice none 0 0]:=blkAt _ _ _ rfl
     have hYV:V.heap.size≤V.heap.size:=Nat.le_refl _
     go_simp
     refine hK.out _ _ ⟨cells_kept hb1 _ _ hS0.1,cells_kept hb1 _ _ hS0.2.1,cells_kept hb1 _ _ hS0.2.2.1,cells_kept hb1 _ _ hS0.2.2.2.1,cells_kept hb1 _ _ hS0.2.2.2.2.1,cells_kept hb1 _ _ hS0.2.2.2.2.2⟩ (fun hS6=>?_)
     clear hK
     have kPx:=kP _ (bel_trans bw hb1)
     generalize (V.alloc (.cells #[.slice none 0 0,.slice none 0 0,.slice none 0 0,.slice none 0 0] 33))=V2 at *
     obtain ⟨Y,hY⟩:∃ Y,Y=V.heap.size:=⟨_,rfl⟩
     rw [← hY] at pX hYV ⊢
     replace hYV:V.heap.size≤Y:=by omega
     clear hY
     try simp only [Act.put,tka,tkb,tkc]
     refine tkr 6 34 (fun K hK=>?_)
     go_simp
     refine kPx.mono ?_
     rintro e V3 ⟨⟨⟨⟨z0a,z0n,z0c⟩,⟨z1a,z1n,z1c⟩,⟨z2a,z2n,z2c⟩,⟨z3a,z3n,z3c⟩⟩,v9,rfl,hO2,qf⟩,hb2⟩
     have uz:S4.val ((z0a,z0n,z0c),(z1a,z1n,z1c),(z2a,z2n,z2c),(z3a,z3n,z3c))=.agg #[.slice z0a z0n z0c,.slice z1a z1n z1c,.slice z2a z2n z2c,.slice z3a z3n z3c]:=rfl
     rw [uz]
     clear uz
     obtain ⟨fa,fc,rfl,hI9,hGd9⟩:=bugs_sliceR qf (fun x hx=>okB_fitsQ (hfo.1 x hx))
     clear hGd9 hO2 hI9
     go_wp2_with fail
     have hbA:=bel_trans hb1 hb2
     replace pX:=pX.below hb2
     refine hK.out _ _ ⟨cells_kept hbA _ _ hS0.1,cells_kept hbA _ _ hS0.2.1,cells_kept hbA _ _ hS0.2.2.1,cells_kept hbA _ _ hS0.2.2.2.1,cells_kept hbA _ _ hS0.2.2.2.2.1,cells_kept hbA _ _ hS0.2.2.2.2.2⟩ (fun hS5=>?_)
     clear hK kPx hb1 hb2
     try simp only [Act.put,tka,tkb,tkc]
     refine tkm 7 27 (.tuple #[.agg #[.slice z0a z0n z0c,.slice z1a z1n z1c,.slice z2a z2n z2c,.slice z3a z3n z3c],.slice fa fs.length fc]) ?_
     refine tkm 8 35 (.agg #[.slice z0a z0n z0c,.slice z1a z1n z1c,.slice z2a z2n z2c,.slice z3a z3n z3c]) ?_
     refine tkm 9 36 (.slice fa fs.length fc) ?_
     refine tkz 11 (fun K hK=>?_)
     refine step_store_blkD rfl 33 _ _ rfl Y [.slice z0a z0n z0c,.slice z1a z1n z1c,.slice z2a z2n z2c,.slice z3a z3n z3c] rfl rfl pX (by kernel_rfl) rfl rfl ?_
     intro V8 pX8 g8
     have hbig:=hbA.grown g8 hbA.size (fun q hq=>by cases hq;exact hYV)
     replace qf:=qf.kept g8 (own_apart_blk qf pX (by decide))
     obtain ⟨fa9,fc9,ef9,hI8,hGd8⟩:=bugs_sliceR qf (fun x hx=>okB_fitsQ (hfo.1 x hx))
     cases ef9
     clear hGd8 qf
     refine hK.out _ _ ⟨cells_kept hbig _ _ hS0.1,cells_kept hbig _ _ hS0.2.1,cells_kept hbig _ _ hS0.2.2.1,cells_kept hbig _ _ hS0.2.2.2.1,cells_kept hbig _ _ hS0.2.2.2.2.1,cells_kept hbig _ _ hS0.2.2.2.2.2⟩ (fun hS7=>?_)
     clear hK pX g8 hbA hYV pX8
     try simp only [Act.put,tka,tkb,tkc]
     refine tkm 12 9 (.slice fa fs.length fc) ?_
     refine wpAnyH_done (by kernel_rfl) ?_ _
     replace bw:=bel_trans bw hbig
     replace bq:=bel_trans bq hbig
     replace q:=owns_below q hbig
     clear hbig hS0 hS5 hS6 hS7 pP pS kP hc hL
     obtain ⟨va9,vc9,ev9,hIv,hGv⟩:=bugs_sliceR q (fun x hx=>okB_fitsQ (hlo x hx))
     cases ev9
     have kM:=l04Merge_is va (locJ rows m j).length vc (locJ rows m j) fa fs.length fc fs V8 hIv hI8 (by omega) (by have:=hfo.2;omega)
     clear hIv hGv hI8 q
     go_wp2_with fail
     refine kM.mono ?_
     rintro e V10 ⟨⟨v6,rfl,q6⟩,hb⟩
     have hV8:=bw.size
     have HQ9:Hid (V10.ownsRow w.heap.size 53 3 v6 (locJ rows m (j+1)).length (flat (locJ rows m (j+1)))):=by rw [HLS.out];exact own_lower q6 hV8
     have bq9:=bel_trans bq hb
     clear hb q6 kM HLS bq bw
     go_wp2
     go_roundw
     case rel=>exact ⟨j+1,by go_num,by omega,HQ9,bq9⟩
     case measure=>simp [intOf];omega
   ·have hge2:¬ (j:Int)<(ln:Int):=by omega
    have HG:Hid (BugsOne (.returned (.slice va vn vc)) wr w.heap.size (localS rows m)):=by
     rw [← locJ_all (j:=j) (by omega)]
     exact ⟨_,rfl,q⟩
    clear q hL pP pS
    go_wp2
    go_ret
    exact ⟨HG.out,bw⟩
 ·have HD:Hid (deadM rows m=[(14,0,0)]):=by rw [Hid];unfold deadM;rw [hst];rfl
  clear hst
  go_wp2_with (at_builtin;refine wpList_append_own_at _ rfl _ _ 45 rfl w.heap.size 53 i0 (.agg #[.int .i64 0,.int .i64 0,.int .i64 0]) 3 24 Tryz.underlying45 hi9 hz0 hz1 hz2 rfl (by decide) _ _ _ rfl (q.alloc _) ⟨w1.heap.size,0,none⟩ 1 1 [.int .i64 14,.int .i64 0,.int .i64 0] rfl rfl (three_new6 (blkAt _ _ _ rfl)) (three_one _ _ _) ?c3 ?c4 ?c5 ?_)
  case c3=>unfold maxLen;omega
  case c4=>omega
  case c5=>have:=bw.size;simp;omega
  intro v6 w4 q6 gr _ at6
  have ha:Below w1.heap.size w1 (w1.alloc (.cells #[.int .i64 14,.int .i64 0,.int .i64 0] 53)):=by go_grown
  replace pP:=(pP.below ha).kept gr (own_ne_blk9 (q.alloc _) (pP.below ha) (by decide))
  replace pS:=(pS.below ha).kept gr (own_ne_blk9 (q.alloc _) (pS.below ha) (by decide))
  replace bw:=(bel_trans bw ha).grown gr (bel_trans bw ha).size (fun k e=>(own_lt3 (q.alloc (.cells #[.int .i64 14,.int .i64 0,.int .i64 0] 53)) e).1)
  have HQ:Hid (w4.ownsRow w.heap.size 53 3 v6 (deadM rows m).length (flat (deadM rows m))):=by
   rw [HD.out]
   exact q6
  clear q q6 gr at6 ha HD
  have kEx:=kE w4 bw
  clear kE
  go_wp2_with (first | refine wpList_load_blk rfl 25 _ rfl w.heap.size rfl pP _ Tryz.underlying25 rfl (by kernel_rfl) ?_ | refine wpList_load_blk rfl 33 _ rfl (w.heap.size+1) rfl pS _ Tryz.underlying33 rfl (by kernel_rfl) ?_)
  refine kEx.mono ?_
  rintro e w6 ⟨⟨⟨la,ln,lc⟩,rfl,hL⟩,hb⟩
  replace bw:=bel_trans bw hb
  replace pP:=pP.below hb
  replace pS:=pS.below hb
  have HQ2:=key w6 _ (owns_below HQ.out hb)
  clear hb kEx HQ key
  have hLn:(enabM rows m 3).length=ln:=by have:=hL.1;simpa using this
  have hl3:=enabM_len rows m 3
  go_wp2_with fail
  go_loopw [5,7] (fun s5 s7 wr=>∃ j:Nat,s7=.int .i64 j∧j≤ln∧Hid (wr.ownsRow w.heap.size 53 3 s5 (locJ rows m j).length (flat (locJ rows m j)))∧Below w6.heap.size w6 wr) (fun _ s7 _=>ln - (intOf s7).toNat)
  case atStart=>exact ⟨0,rfl,Nat.zero_le _,HQ2,Below.refl _ _⟩
  case round =>
   clear HQ2
   obtain ⟨j,rfl,hjn,HQ,bq⟩:=hrel
   have q:=HQ.out
   obtain ⟨va,vn,vc,rfl⟩:=own_slice6 q
   obtain ⟨hlo,hll⟩:=locJ_ok hp hs j
   replace bw:=bel_trans bw bq
   replace pP:=pP.below bq
   replace pS:=pS.below bq
   replace hL:=hL.below bq
   clear HQ
   by_cases hlt2:j<ln
   ·have hkj:(enabM rows m 3)[j]?=some ((enabM rows m 3).getD j 0):=by rw [List.getD,List.getElem?_eq_getElem (by omega)];rfl
    have hz:=enab_halt (List.mem_of_getElem? hkj)
    obtain ⟨h0k,h2k,hd9,_⟩:=halt_can hz
    obtain ⟨k,hk⟩:∃ k:Nat,(enabM rows m 3).getD j 0=(k:Int):=⟨_,(Int.toNat_of_nonneg h0k).symm⟩
    obtain ⟨lb,lo,rfl,hc,hlb⟩:=ints_cellS hL.ints (show j<ln from hlt2)
    rw [hk] at hkj hz hd9 h0k h2k hc
    rw [Int.toNat_natCast] at hd9
    have hk3:k<3:=by omega
    clear hk hlb
    have hfo:=foundM_ok hp hs hz
    have HLS:Hid (locJ rows m (j+1)=mergeB (locJ rows m j) (foundM rows m (k:Int))):=locJ_succ hkj
    have kP:=fun (W:World) (b:Below w.heap.size w W)=>l04Found_is (cap:=cap) (hR.below b) (h.below b) hp hs hk3 hd9
    rw [ut] at kP
    generalize (goM rows m (k:Int)).1=z at *
    generalize foundM rows m (k:Int)=fs at *
    have hlt3:(j:Int)<(ln:Int):=by omega
    have hj0:(0:Int)≤(j:Int):=by omega
    clear hkj hz hd9
    go_wp2_with fail
    have hb9:Below wr.heap.size wr wr.drew:=by go_grown
    refine wp_region_held_drew (S:=(fun w'=>w'.cell? ⟨w.heap.size,0,none⟩=some (.slice a 3 cap)∧w'.cell? ⟨w.heap.size+1,0,none⟩=some (.slice t0a t0n t0c)∧w'.cell? ⟨w.heap.size+1,1,none⟩=some (.slice t1a t1n t1c)∧w'.cell? ⟨w.heap.size+1,2,none⟩=some (.slice t2a t2n t2c)∧w'.cell? ⟨w.heap.size+1,3,none⟩=some (.slice t3a t3n t3c)∧w'.cell? ⟨lb,lo+j,none⟩=some (.int .i64 (k:Int)))) (by kernel_rfl) ⟨by simpa using pP.cell 0,by simpa using pS.cell 0,by simpa using pS.cell 1,by simpa using pS.cell 2,by simpa using pS.cell 3,hc⟩ (fun hS0=>?_)
    refine tkm 0 28 (.agg #[.slice a 3 cap]) ?_
    refine tkm 1 29 (.agg #[.slice t0a t0n t0c,.slice t1a t1n t1c,.slice t2a t2n t2c,.slice t3a t3n t3c]) ?_
    refine tkm 2 30 (.slice (some ⟨lb,lo,none⟩) ln lc) ?_
    refine tkm 3 31 (.int .i64 (j:Int)) ?_
    refine tkm 4 32 (.pointer (some ⟨lb,lo+j,none⟩)) ?_
    refine tkm 5 33 (.int .i64 (k:Int)) ?_
    replace bw:=bel_trans bw hb9
    replace bq:=bel_trans bq hb9
    replace q:=owns_below q hb9
    clear hb9
    generalize wr.drew=V at *
    refine wpAnyH_ready (rs:=[6,10]) (by kernel_rfl) (by simp) ?_
    refine AllReadyH.cons (o:=⟨some 34,_,_,_,_,_⟩) rfl (fun K hK=>?_) (AllReadyH.cons (o:=⟨some 8,_,_,_,_,_⟩) rfl (fun K hK=>?_) AllReadyH.nil)
    ·have kPx:=kP V bw
     go_simp
     refine kPx.mono ?_
     rintro e V1 ⟨⟨⟨⟨z0a,z0n,z0c⟩,⟨z1a,z1n,z1c⟩,⟨z2a,z2n,z2c⟩,⟨z3a,z3n,z3c⟩⟩,v9,rfl,hO2,qf⟩,hb1⟩
     have uz:S4.val ((z0a,z0n,z0c),(z1a,z1n,z1c),(z2a,z2n,z2c),(z3a,z3n,z3c))=.agg #[.slice z0a z0n z0c,.slice z1a z1n z1c,.slice z2a z2n z2c,.slice z3a z3n z3c]:=rfl
     rw [uz]
     clear uz
     obtain ⟨fa,fc,rfl,hI9,hGd9⟩:=bugs_sliceR qf (fun x hx=>okB_fitsQ (hfo.1 x hx))
     clear hGd9 hO2 hI9
     go_wp2_with fail
     refine hK.out _ _ ⟨cells_kept hb1 _ _ hS0.1,cells_kept hb1 _ _ hS0.2.1,cells_kept hb1 _ _ hS0.2.2.1,cells_kept hb1 _ _ hS0.2.2.2.1,cells_kept hb1 _ _ hS0.2.2.2.2.1,cells_kept hb1 _ _ hS0.2.2.2.2.2⟩ (fun hS5=>?_)
     clear hK kPx
     try simp only [Act.put,tka,tkb,tkc]
     refine tkm 7 27 (.tuple #[.agg #[.slice z0a z0n z0c,.slice z1a z1n z1c,.slice z2a z2n z2c,.slice z3a z3n z3c],.slice fa fs.length fc]) ?_
     refine tkm 8 35 (.agg #[.slice z0a z0n z0c,.slice z1a z1n z1c,.slice z2a z2n z2c,.slice z3a z3n z3c]) ?_
     refine tkm 9 36 (.slice fa fs.length fc) ?_
     refine tkr 10 8 (fun K hK=>?_)
     have hb2:Below V1.heap.size V1 (V1.alloc (.cells #[.slice none 0 0,.slice none 0 0,.slice none 0 0,.slice none 0 0] 33)):=by go_grown
     have pX:Blk (V1.alloc (.cells #[.slice none 0 0,.slice none 0 0,.slice none 0 0,.slice none 0 0] 33)) V1.heap.size 33 [.slice none 0 0,.slice none 0 0,.slice none 0 0,.slice none 0 0]:=blkAt _ _ _ rfl
     replace qf:=owns_below qf hb2
     have hbA:=bel_trans hb1 hb2
     have hYV:V.heap.size≤V1.heap.size:=hb1.size
     go_simp
     refine hK.out _ _ ⟨cells_kept hbA _ _ hS0.1,cells_kept hbA _ _ hS0.2.1,cells_kept hbA _ _ hS0.2.2.1,cells_kept hbA _ _ hS0.2.2.2.1,cells_kept hbA _ _ hS0.2.2.2.2.1,cells_kept hbA _ _ hS0.2.2.2.2.2⟩ (fun hS6=>?_)
     clear hK hb1 hb2
     generalize (V1.alloc (.cells #[.slice none 0 0,.slice none 0 0,.slice none 0 0,.slice none 0 0] 33))=V2 at *
     generalize V1.heap.size=Y at *
     try simp only [Act.put,tka,tkb,tkc]
     refine tkz 11 (fun K hK=>?_)
     refine step_store_blkD rfl 33 _ _ rfl Y [.slice z0a z0n z0c,.slice z1a z1n z1c,.slice z2a z2n z2c,.slice z3a z3n z3c] rfl rfl pX (by kernel_rfl) rfl rfl ?_
     intro V8 pX8 g8
     have hbig:=hbA.grown g8 hbA.size (fun q hq=>by cases hq;exact hYV)
     replace qf:=qf.kept g8 (own_apart_blk qf pX (by decide))
     obtain ⟨fa9,fc9,ef9,hI8,hGd8⟩:=bugs_sliceR qf (fun x hx=>okB_fitsQ (hfo.1 x hx))
     cases ef9
     clear hGd8 qf
     refine hK.out _ _ ⟨cells_kept hbig _ _ hS0.1,cells_kept hbig _ _ hS0.2.1,cells_kept hbig _ _ hS0.2.2.1,cells_kept hbig _ _ hS0.2.2.2.1,cells_kept hbig _ _ hS0.2.2.2.2.1,cells_kept hbig _ _ hS0.2.2.2.2.2⟩ (fun hS7=>?_)
     clear hK pX g8 hbA hYV pX8
     try simp only [Act.put,tka,tkb,tkc]
     refine tkm 12 9 (.slice fa fs.length fc) ?_
     refine wpAnyH_done (by kernel_rfl) ?_ _
     replace bw:=bel_trans bw hbig
     replace bq:=bel_trans bq hbig
     replace q:=owns_below q hbig
     clear hbig hS0 hS5 hS6 hS7 pP pS kP hc hL
     obtain ⟨va9,vc9,ev9,hIv,hGv⟩:=bugs_sliceR q (fun x hx=>okB_fitsQ (hlo x hx))
     cases ev9
     have kM:=l04Merge_is va (locJ rows m j).length vc (locJ rows m j) fa fs.length fc fs V8 hIv hI8 (by omega) (by have:=hfo.2;omega)
     clear hIv hGv hI8 q
     go_wp2_with fail
     refine kM.mono ?_
     rintro e V10 ⟨⟨v6,rfl,q6⟩,hb⟩
     have hV8:=bw.size
     have HQ9:Hid (V10.ownsRow w.heap.size 53 3 v6 (locJ rows m (j+1)).length (flat (locJ rows m (j+1)))):=by rw [HLS.out];exact own_lower q6 hV8
     have bq9:=bel_trans bq hb
     clear hb q6 kM HLS bq bw
     go_wp2
     go_roundw
     case rel=>exact ⟨j+1,by go_num,by omega,HQ9,bq9⟩
     case measure=>simp [intOf];omega
    ·have hb1:Below V.heap.size V (V.alloc (.cells #[.slice none 0 0,.slice none 0 0,.slice none 0 0,.slice none 0 0] 33)):=by go_grown
     have pX:Blk (V.alloc (.cells #[.slice none 0 0,.slice none 0 0,.slice none 0 0,.slice none 0 0] 33)) V.heap.size 33 [.slice none 0 0,.slice none 0 0,.slice none 0 0,.slice none 0 0]:=blkAt _ _ _ rfl
     have hYV:V.heap.size≤V.heap.size:=Nat.le_refl _
     go_simp
     refine hK.out _ _ ⟨cells_kept hb1 _ _ hS0.1,cells_kept hb1 _ _ hS0.2.1,cells_kept hb1 _ _ hS0.2.2.1,cells_kept hb1 _ _ hS0.2.2.2.1,cells_kept hb1 _ _ hS0.2.2.2.2.1,cells_kept hb1 _ _ hS0.2.2.2.2.2⟩ (fun hS6=>?_)
     clear hK
     have kPx:=kP _ (bel_trans bw hb1)
     generalize (V.alloc (.cells #[.slice none 0 0,.slice none 0 0,.slice none 0 0,.slice none 0 0] 33))=V2 at *
     obtain ⟨Y,hY⟩:∃ Y,Y=V.heap.size:=⟨_,rfl⟩
     rw [← hY] at pX hYV ⊢
     replace hYV:V.heap.size≤Y:=by omega
     clear hY
     try simp only [Act.put,tka,tkb,tkc]
     refine tkr 6 34 (fun K hK=>?_)
     go_simp
     refine kPx.mono ?_
     rintro e V3 ⟨⟨⟨⟨z0a,z0n,z0c⟩,⟨z1a,z1n,z1c⟩,⟨z2a,z2n,z2c⟩,⟨z3a,z3n,z3c⟩⟩,v9,rfl,hO2,qf⟩,hb2⟩
     have uz:S4.val ((z0a,z0n,z0c),(z1a,z1n,z1c),(z2a,z2n,z2c),(z3a,z3n,z3c))=.agg #[.slice z0a z0n z0c,.slice z1a z1n z1c,.slice z2a z2n z2c,.slice z3a z3n z3c]:=rfl
     rw [uz]
     clear uz
     obtain ⟨fa,fc,rfl,hI9,hGd9⟩:=bugs_sliceR qf (fun x hx=>okB_fitsQ (hfo.1 x hx))
     clear hGd9 hO2 hI9
     go_wp2_with fail
     have hbA:=bel_trans hb1 hb2
     replace pX:=pX.below hb2
     refine hK.out _ _ ⟨cells_kept hbA _ _ hS0.1,cells_kept hbA _ _ hS0.2.1,cells_kept hbA _ _ hS0.2.2.1,cells_kept hbA _ _ hS0.2.2.2.1,cells_kept hbA _ _ hS0.2.2.2.2.1,cells_kept hbA _ _ hS0.2.2.2.2.2⟩ (fun hS5=>?_)
     clear hK kPx hb1 hb2
     try simp only [Act.put,tka,tkb,tkc]
     refine tkm 7 27 (.tuple #[.agg #[.slice z0a z0n z0c,.slice z1a z1n z1c,.slice z2a z2n z2c,.slice z3a z3n z3c],.slice fa fs.length fc]) ?_
     refine tkm 8 35 (.agg #[.slice z0a z0n z0c,.slice z1a z1n z1c,.slice z2a z2n z2c,.slice z3a z3n z3c]) ?_
     refine tkm 9 36 (.slice fa fs.length fc) ?_
     refine tkz 11 (fun K hK=>?_)
     refine step_store_blkD rfl 33 _ _ rfl Y [.slice z0a z0n z0c,.slice z1a z1n z1c,.slice z2a z2n z2c,.slice z3a z3n z3c] rfl rfl pX (by kernel_rfl) rfl rfl ?_
     intro V8 pX8 g8
     have hbig:=hbA.grown g8 hbA.size (fun q hq=>by cases hq;exact hYV)
     replace qf:=qf.kept g8 (own_apart_blk qf pX (by decide))
     obtain ⟨fa9,fc9,ef9,hI8,hGd8⟩:=bugs_sliceR qf (fun x hx=>okB_fitsQ (hfo.1 x hx))
     cases ef9
     clear hGd8 qf
     refine hK.out _ _ ⟨cells_kept hbig _ _ hS0.1,cells_kept hbig _ _ hS0.2.1,cells_kept hbig _ _ hS0.2.2.1,cells_kept hbig _ _ hS0.2.2.2.1,cells_kept hbig _ _ hS0.2.2.2.2.1,cells_kept hbig _ _ hS0.2.2.2.2.2⟩ (fun hS7=>?_)
     clear hK pX g8 hbA hYV pX8
     try simp only [Act.put,tka,tkb,tkc]
     refine tkm 12 9 (.slice fa fs.length fc) ?_
     refine wpAnyH_done (by kernel_rfl) ?_ _
     replace bw:=bel_trans bw hbig
     replace bq:=bel_trans bq hbig
     replace q:=owns_below q hbig
     clear hbig hS0 hS5 hS6 hS7 pP pS kP hc hL
     obtain ⟨va9,vc9,ev9,hIv,hGv⟩:=bugs_sliceR q (fun x hx=>okB_fitsQ (hlo x hx))
     cases ev9
     have kM:=l04Merge_is va (locJ rows m j).length vc (locJ rows m j) fa fs.length fc fs V8 hIv hI8 (by omega) (by have:=hfo.2;omega)
     clear hIv hGv hI8 q
     go_wp2_with fail
     refine kM.mono ?_
     rintro e V10 ⟨⟨v6,rfl,q6⟩,hb⟩
     have hV8:=bw.size
     have HQ9:Hid (V10.ownsRow w.heap.size 53 3 v6 (locJ rows m (j+1)).length (flat (locJ rows m (j+1)))):=by rw [HLS.out];exact own_lower q6 hV8
     have bq9:=bel_trans bq hb
     clear hb q6 kM HLS bq bw
     go_wp2
     go_roundw
     case rel=>exact ⟨j+1,by go_num,by omega,HQ9,bq9⟩
     case measure=>simp [intOf];omega
   ·have hge2:¬ (j:Int)<(ln:Int):=by omega
    have HG:Hid (BugsOne (.returned (.slice va vn vc)) wr w.heap.size (localS rows m)):=by
     rw [← locJ_all (j:=j) (by omega)]
     exact ⟨_,rfl,q⟩
    clear q hL pP pS
    go_wp2
    go_ret
    exact ⟨HG.out,bw⟩

def allJ (rows:List (List I3)) (S:List (Rec6 V4)) (i:Nat):List I3:=(S.take i).foldl (fun out r=>mergeB out (localS rows r.1)) []
theorem allJ_succ {rows:List (List I3)} {S:List (Rec6 V4)} {i:Nat} {r:Rec6 V4} (h:S[i]?=some r):allJ rows S (i+1)=mergeB (allJ rows S i) (localS rows r.1):=by
 unfold allJ
 rw [List.take_add_one,h]
 simp [List.foldl_append]
theorem allJ_ok {rows:List (List I3)} {S:List (Rec6 V4)} (hp:progOk rows=true) (hS:Shaped S):∀ i,(∀ x ∈ allJ rows S i,okB x=true)∧(allJ rows S i).length≤7*i
 | 0=>⟨fun x hx=>by simp [allJ] at hx,by simp [allJ]⟩
 | i+1=>by
  have ih:=allJ_ok hp hS i
  cases h:S[i]? with
  | none =>
   have e:allJ rows S (i+1)=allJ rows S i:=by unfold allJ;rw [List.take_add_one,h];simp
   rw [e]
   exact ⟨ih.1,by omega⟩
  | some r =>
   have hf:=loc_len hp (hS r (List.mem_of_getElem? h))
   rw [allJ_succ h]
   exact ⟨mergeB_ok ih.1 hf.1,by have:=mergeB_len (allJ rows S i) (localS rows r.1);have:=hf.2;omega⟩

def BgsGot (e:Ending) (w:World) (B:Nat) (rows:List (List I3)):Prop:=∃ v,e=.returned (.tuple #[v,.bool (decide ((fullS rows).length≤2000))])∧((fullS rows).length≤2000→w.ownsRow B 53 3 v (allS rows (fullS rows)).length (flat (allS rows (fullS rows))))
theorem l06Bugs_is {w:World} {a:Option Addr} {cap:Nat} {cs:Sl × Sl × Sl} {rows:List (List I3)} (hR:RowsAt w a cs rows) (hp:progOk rows=true) :
  Calls Tryz.prog 65 #[.agg #[.slice a 3 cap]] w fun e w'=>BgsGot e w' w.heap.size rows∧Below w.heap.size w w':=by
 have bw:Below w.heap.size w (w.alloc (.cells #[.slice a 3 cap] 25)):=by go_grown
 have pP:Blk (w.alloc (.cells #[.slice a 3 cap] 25)) w.heap.size 25 [.slice a 3 cap]:=blkAt _ _ _ rfl
 go_enter Tryz.func65,Tryz.ntmps65
 go_wp2_with fail
 generalize w.alloc (.cells #[.slice a 3 cap] 25)=U at *
 have kS:=l06States_is (cap:=cap) (hR.below bw) hp
 go_wp2_with (refine wpList_load_blk rfl 25 _ rfl w.heap.size rfl pP _ Tryz.underlying25 rfl (by kernel_rfl) ?_)
 refine kS.mono ?_
 rintro e w2 ⟨⟨v1,v2,v3,ts,fs,bs,rfl,hT,hF⟩,hb⟩
 have hbB:=bw.size
 replace bw:=bel_trans bw hb
 replace pP:=pP.below hb
 clear hb kS
 have hbs:=bw.size
 have q0:=own_emptyB w2 53 3 w.heap.size hbs
 have ha:Below w2.heap.size w2 (w2.alloc (.cells #[] 53)):=by go_grown
 have hks:=own_lower hT.ks hbB
 by_cases hf:(fullS rows).length≤2000
 ·obtain ⟨rfl,_,_⟩:=hF hf
  have hd:decide ((fullS rows).length≤2000)=true:=decide_eq_true hf
  have hpos:0<(fullS rows).length:=(List.getElem?_eq_some_iff.1 (fullS_head rows)).1
  have hSh:=fullS_shaped hp
  obtain ⟨gk,ck,rfl,hgc,_⟩:=own_some6 hks (by rw [keysL_len];exact hpos)
  have KL:Hid ((keysL (fullS rows)).length=(fullS rows).length):=keysL_len _
  have HQ:Hid ((w2.alloc (.cells #[] 53)).ownsRow w.heap.size 53 3 (.slice (some ⟨w2.heap.size,0,none⟩) 0 0) (allJ rows (fullS rows) 0).length (flat (allJ rows (fullS rows) 0))):=q0
  have HAll:Hid (∀ i,(fullS rows).length≤i→allJ rows (fullS rows) i=allS rows (fullS rows)):=fun i hi=>by unfold allJ allS;rw [List.take_of_length_le hi]
  replace bw:=bel_trans bw ha
  replace pP:=pP.below ha
  replace hks:=owns_below hks ha
  have HGot:Hid (∀ (W:World) (v:Value),W.ownsRow w.heap.size 53 3 v (allS rows (fullS rows)).length (flat (allS rows (fullS rows)))→BgsGot (.returned (.tuple #[v,.bool true])) W w.heap.size rows):=fun W v h=>⟨v,by rw [hd],fun _=>h⟩
  rw [hd]
  clear hF hT hgc q0 ha hbs hpos
  generalize fullS rows=S at *
  go_wp2_with fail
  generalize w2.alloc (.cells #[] 53)=wk at *
  generalize w2.heap.size=g0 at *
  go_loopw [8,9] (fun s8 s9 wr=>∃ i:Nat,s9=.int .i64 i∧i≤S.length∧Hid (wr.ownsRow w.heap.size 53 3 s8 (allJ rows S i).length (flat (allJ rows S i)))∧Below wk.heap.size wk wr) (fun _ s9 _=>S.length - (intOf s9).toNat)
  case atStart=>exact ⟨0,rfl,Nat.zero_le _,HQ,Below.refl _ _⟩
  case round =>
   clear HQ
   obtain ⟨i,rfl,hil,HQ,bq⟩:=hrel
   have q:=HQ.out
   obtain ⟨va,vn,vc,rfl⟩:=own_slice6 q
   obtain ⟨hlo,hll⟩:=allJ_ok hp hSh i
   clear HQ
   by_cases hlt:i<S.length
   ·obtain ⟨r,hr⟩:∃ r,S[i]?=some r:=⟨S[i],List.getElem?_eq_getElem hlt⟩
    have hs:shapeOk r.1=true:=hSh _ (List.mem_of_getElem? hr)
    have hkm:(keysL S)[i]?=some (keyT r.1):=by unfold keysL;rw [List.getElem?_map,hr];rfl
    have hc:=cells_kept bq _ _ (str_cell6 hks (by rw [KL.out];exact hlt) hkm)
    have hlt1:(i:Int)<((keysL S).length:Int):=by rw [KL.out];omega
    have hi0:(0:Int)≤(i:Int):=by omega
    have HAs:Hid (allJ rows S (i+1)=mergeB (allJ rows S i) (localS rows r.1)):=allJ_succ hr
    have kO:=l03Of_back hs wr
    have bw1:=bel_trans bw bq
    have pP1:=pP.below bq
    clear hkm hr
    go_wp2_with fail
    refine kO.mono ?_
    rintro e w3 ⟨⟨⟨⟨t0a,t0n,t0c⟩,⟨t1a,t1n,t1c⟩,⟨t2a,t2n,t2c⟩,⟨t3a,t3n,t3c⟩⟩,rfl,hV⟩,hb⟩
    have ut:S4.val ((t0a,t0n,t0c),(t1a,t1n,t1c),(t2a,t2n,t2c),(t3a,t3n,t3c))=.agg #[.slice t0a t0n t0c,.slice t1a t1n t1c,.slice t2a t2n t2c,.slice t3a t3n t3c]:=rfl
    rw [ut]
    replace bw1:=bel_trans bw1 hb
    replace pP1:=pP1.below hb
    replace bq:=bel_trans bq hb
    replace q:=owns_below q hb
    clear hb kO hc
    have pN:=Blk.new w3 33 [.slice none 0 0,.slice none 0 0,.slice none 0 0,.slice none 0 0]
    have hbN:Below w3.heap.size w3 (w3.alloc (.cells #[.slice none 0 0,.slice none 0 0,.slice none 0 0,.slice none 0 0] 33)):=by go_grown
    go_wp2_with (refine wpList_store_blk rfl 33 _ _ rfl w3.heap.size [.slice t0a t0n t0c,.slice t1a t1n t1c,.slice t2a t2n t2c,.slice t3a t3n t3c] rfl rfl pN (by kernel_rfl) rfl rfl ?_)
    intro w4 pS4 g4
    have pS:=pS4.out
    have hb4:Below w3.heap.size w3 w4:=hbN.grown g4 hbN.size (fun k e=>by cases e;exact Nat.le_refl _)
    replace bw1:=bel_trans bw1 hb4
    replace pP1:=pP1.below hb4
    replace bq:=bel_trans bq hb4
    replace q:=owns_below q hb4
    replace hV:=hV.below hb4
    clear pS4 g4 hbN pN hb4
    generalize w3.heap.size=X at *
    have fm:=(shape_fits9 hs).1
    have kL:=l06Local_is (cap:=cap) (hR.below bw1) (hV.mem fm) hp hs
    rw [ut] at kL
    have hlf:=loc_len hp hs
    generalize localS rows r.1=ls at *
    go_wp2_with (first | refine wpList_load_blk rfl 25 _ rfl w.heap.size rfl pP1 _ Tryz.underlying25 rfl (by kernel_rfl) ?_ | refine wpList_load_blk rfl 33 _ rfl X rfl pS _ Tryz.underlying33 rfl (by kernel_rfl) ?_)
    refine kL.mono ?_
    rintro e w5 ⟨⟨v5,rfl,q5⟩,hb⟩
    replace bw1:=bel_trans bw1 hb
    replace bq:=bel_trans bq hb
    replace q:=owns_below q hb
    obtain ⟨fa,fc,rfl,hI5,_⟩:=bugs_sliceR q5 (fun x hx=>okB_fitsQ (hlf.1 x hx))
    obtain ⟨va9,vc9,ev9,hIv,_⟩:=bugs_sliceR q (fun x hx=>okB_fitsQ (hlo x hx))
    cases ev9
    have kM:=l04Merge_is va (allJ rows S i).length vc (allJ rows S i) fa ls.length fc ls w5 hIv hI5 (by omega) (by have:=hlf.2;omega)
    clear kL hb hV pS pP1 q5 q hIv hI5 ut
    go_wp2_with fail
    refine kM.mono ?_
    rintro e w6 ⟨⟨v6,rfl,q6⟩,hb⟩
    have hw5:=bw1.size
    have HQ9:Hid (w6.ownsRow w.heap.size 53 3 v6 (allJ rows S (i+1)).length (flat (allJ rows S (i+1)))):=by rw [HAs.out];exact own_lower q6 hw5
    have bq9:=bel_trans bq hb
    clear hb q6 kM HAs bq bw1
    go_wp2
    go_roundw
    case rel=>exact ⟨i+1,by go_num,by omega,HQ9,bq9⟩
    case measure=>simp [intOf];omega
   ·have hge:¬ (i:Int)<((keysL S).length:Int):=by rw [KL.out];omega
    have bz:=bel_trans bw bq
    have HG:Hid (BgsGot (.returned (.tuple #[.slice va vn vc,.bool true])) wr w.heap.size rows):=HGot.out wr _ (by rw [← HAll.out i (by omega)];exact q)
    clear q bq
    go_wp2
    refine bodyPost_ret (by simp [results,Tryz.results65,go_sem];try rfl) rfl ?_
    exact ⟨HG.out,bz⟩
 ·have hd:decide ((fullS rows).length≤2000)=false:=decide_eq_false hf
  obtain ⟨ka,kn,kc,rfl⟩:=own_slice6 hks
  have bz:=bel_trans bw ha
  have HG:Hid (∀ v,BgsGot (.returned (.tuple #[v,.bool false])) (w2.alloc (.cells #[] 53)) w.heap.size rows):=fun v=>⟨v,by rw [hd],fun h9=>absurd h9 hf⟩
  rw [hd]
  clear hF hT q0 ha hks hf
  go_wp2_with fail
  go_loopw [8,9] (fun s8 s9 wr=>s8=.slice (some ⟨w2.heap.size,0,none⟩) 0 0∧s9=.int .i64 0∧wr=w2.alloc (.cells #[] 53)) (fun _ _ _=>0)
  case atStart=>exact ⟨rfl,rfl,rfl⟩
  case round =>
   obtain ⟨rfl,rfl,rfl⟩:=hrel
   by_cases hl0:(0:Int)<(kn:Int)
   ·go_wp2
    refine bodyPost_ret (by simp [results,Tryz.results65,go_sem];try rfl) rfl ?_
    exact ⟨HG.out _,bz⟩
   ·go_wp2
    refine bodyPost_ret (by simp [results,Tryz.results65,go_sem];try rfl) rfl ?_
    exact ⟨HG.out _,bz⟩

theorem specAllBugs_is (a:Option Addr) (len cap:Nat) (rows:List (List I3)) (w:World) (hC:Codes w a len cap rows) :
  Calls Tryz.prog 19 #[.agg #[.slice a len cap]] w fun e w'=>AbgGot e w' w.heap.size (bugsO rows) (codeF rows)∧Below w.heap.size w w':=by
 have kO:=fun (W:World) (b:Below w.heap.size w W)=>specProgramOK_is a len cap rows W (hC.below b)
 have bw:Below w.heap.size w (w.alloc (.cells #[.slice a len cap] 25)):=by go_grown
 have pP:Blk (w.alloc (.cells #[.slice a len cap] 25)) w.heap.size 25 [.slice a len cap]:=blkAt _ _ _ rfl
 go_enter Tryz.func19,Tryz.ntmps19
 go_wp2_with fail
 generalize w.alloc (.cells #[.slice a len cap] 25)=U at *
 have kOx:=kO U bw
 clear kO
 go_wp2_with (refine wpList_load_blk rfl 25 _ rfl w.heap.size rfl pP _ Tryz.underlying25 rfl (by kernel_rfl) ?_)
 refine kOx.mono ?_
 rintro e w1 ⟨rfl,hb⟩
 replace bw:=bel_trans bw hb
 replace pP:=pP.below hb
 clear hb kOx
 have hbs:=bw.size
 cases hp:progOk rows
 ·have HG:Hid (AbgGot (.returned (.tuple #[.slice (some ⟨w1.heap.size,0,none⟩) 0 0,.int .i64 1])) (w1.alloc (.cells #[] 53)) w.heap.size (bugsO rows) (codeF rows)):=by
   have e1:codeF rows=1:=by unfold codeF;rw [hp];rfl
   have e2:bugsO rows=[]:=by unfold bugsO;rw [e1];rfl
   rw [e1,e2]
   exact ⟨_,rfl,own_emptyB w1 53 3 w.heap.size hbs⟩
  have b2:Below w.heap.size w (w1.alloc (.cells #[] 53)):=bel_trans bw (by go_grown)
  go_wp2
  refine bodyPost_ret (by simp [results,Tryz.results19,go_sem];try rfl) rfl ?_
  exact ⟨HG.out,b2⟩
 ·obtain ⟨hl3,cs,hR⟩:=hC.rowsAt hp
  subst hl3
  have kS:=l06Bugs_is (cap:=cap) (hR.below bw) hp
  go_wp2_with (refine wpList_load_blk rfl 25 _ rfl w.heap.size rfl pP _ Tryz.underlying25 rfl (by kernel_rfl) ?_)
  refine kS.mono ?_
  rintro e w2 ⟨⟨v,rfl,hq⟩,hb⟩
  replace bw:=bel_trans bw hb
  clear hb kS
  by_cases hf:(fullS rows).length≤2000
  ·have q:=hq hf
   have hd:decide ((fullS rows).length≤2000)=true:=decide_eq_true hf
   have HG:Hid (AbgGot (.returned (.tuple #[v,.int .i64 0])) w2 w.heap.size (bugsO rows) (codeF rows)):=by
    have e1:codeF rows=0:=by unfold codeF;rw [hp,if_pos rfl,if_pos hf]
    have e2:bugsO rows=allS rows (fullS rows):=by unfold bugsO;rw [if_pos e1,all_same hf]
    rw [e1,e2]
    exact ⟨_,rfl,own_lower q hbs⟩
   clear hq q hf
   go_wp2
   refine bodyPost_ret (by simp [results,Tryz.results19,go_sem];try rfl) rfl ?_
   exact ⟨HG.out,bw⟩
  ·have hd:decide ((fullS rows).length≤2000)=false:=decide_eq_false hf
   have HG:Hid (AbgGot (.returned (.tuple #[.slice (some ⟨w2.heap.size,0,none⟩) 0 0,.int .i64 15])) (w2.alloc (.cells #[] 53)) w.heap.size (bugsO rows) (codeF rows)):=by
    have e1:codeF rows=15:=by unfold codeF;rw [hp,if_pos rfl,if_neg hf]
    have e2:bugsO rows=[]:=by unfold bugsO;rw [e1];rfl
    rw [e1,e2]
    exact ⟨_,rfl,own_emptyB w2 53 3 w.heap.size bw.size⟩
   have b2:Below w.heap.size w (w2.alloc (.cells #[] 53)):=bel_trans bw (by go_grown)
   clear hq hf
   go_wp2
   refine bodyPost_ret (by simp [results,Tryz.results19,go_sem];try rfl) rfl ?_
   exact ⟨HG.out,b2⟩


theorem allI_ok {rows:List (List I3)} {S:List (Rec6 V4)} (hp:progOk rows=true) (hS:Shaped S):∀ x ∈ allI rows S,okB x=true:=fun x hx=>by
 obtain ⟨r,hr,hx⟩:=mem_allI.1 hx
 unfold bugsI at hx
 split at hx
 ·simp at hx;subst hx;rfl
 ·obtain ⟨k,hk,hx⟩:=List.mem_flatMap.1 hx
  exact ownM_ok hp (hS r hr) (enab_halt hk) x hx
theorem flat_len6 {f:Rec6 V4→List I3} (hf:∀ r,(f r).length≤3):∀ S:List (Rec6 V4),(S.flatMap f).length≤3*S.length
 | []=>by simp
 | r::S=>by
  have:=flat_len6 hf S
  have:=hf r
  rw [List.flatMap_cons,List.length_append,List.length_cons]
  omega
theorem bugsO_ok (rows:List (List I3)):(∀ x ∈ bugsO rows,I3.fits x)∧(bugsO rows).length≤100000:=by
 unfold bugsO
 split
 ·rename_i h
  obtain ⟨hp,hf⟩:=code_parts h
  refine ⟨fun x hx=>okB_fitsQ (allI_ok hp (fullS_shaped hp) x hx),?_⟩
  unfold allI
  have h1:=mergeB_len ((fullS rows).flatMap fun r=>bugsI rows r.1) []
  have h2:=flat_len6 (f:=fun r=>bugsI rows r.1) (fun r=>bugsI_len6 rows r.1) (fullS rows)
  simp only [List.length_nil] at h1
  omega
 ·exact ⟨fun x hx=>by simp at hx,by simp⟩
theorem fnExactAllBugs_walk (a0:Option Addr) (n0 c0:Nat) (r0:List (List I3)) (w:World) (h0:Codes w a0 n0 c0 r0) (hG:VmShape w) :
  Calls Tryz.prog 6 #[.agg #[.slice a0 n0 c0]] w fun e w'=>e=.returned (.bool true)∧Below w.heap.size w w':=
 fnExactAllBugs_of a0 n0 c0 r0 (bugsO r0) (bugsO_ok r0).1 (bugsO_ok r0).2 (codeF r0) w h0 hG (fun a n c w hC=>specAllBugs_is a n c r0 w hC) (fun a n c w hC hV=>implAllBugs_is a n c r0 w hC hV)
theorem fnExactAllBugs_laid {W:World} (h:laidMetH Tryz.prog Rows.fnExactAllBugsRow.laid W):VmShape W:=vmShape_of_laid rfl h
theorem fnExactAllBugs_door_met (os:Os) (args:Array Value):laidMetH Tryz.prog Rows.fnExactAllBugsRow.laid ((World.doorLaid Tryz.prog 400 os).forCall (fun _ _=>0) ⟨#[],args,[]⟩).memory:=
 laidMetH_of_parts3 (fuel:=8) (laidMet_of_run' 8 (by kernel_rfl) (by kernel_rfl)) (by kernel_rfl) (by kernel_rfl)
end Go.Proofs.YtfpopbbmnbehiaaGreatDoor
