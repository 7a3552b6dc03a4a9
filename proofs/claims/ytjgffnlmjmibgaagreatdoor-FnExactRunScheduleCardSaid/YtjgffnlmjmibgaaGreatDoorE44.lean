/-
  Joined: RsW.
-/
import Derived.Test.YtjgffnlmjmibgaaGreatDoorE20
import Derived.Test.YtjgffnlmjmibgaaGreatDoorE43

namespace Go.Proofs.YtjgffnlmjmibgaaGreatDoor
set_option maxRecDepth 100000
set_option maxHeartbeats 16000000
open Go.RowKit
set_option linter.unusedVariables false
set_option linter.unusedSimpArgs false

theorem own_heap {w w':World} {b e s n:Nat} {v:Value} {xs:List Value} (h:w.ownsRow b e s v n xs) (hq:∀ j,v.ownBlock=some j→w'.heap[j]?=w.heap[j]?):w'.ownsRow b e s v n xs:=by
 refine ⟨h.1,?_⟩
 rcases h.2 with h0 | ⟨g,cap,cur,hv,hB,hg,rest⟩
 ·exact .inl h0
 ·exact .inr ⟨g,cap,cur,hv,hB,by rw [hq g (by rw [hv];rfl)];exact hg,rest⟩
def InV (t:S4) (j:Nat):Prop:=(Value.slice t.1.1 t.1.2.1 t.1.2.2).ownBlock=some j∨(Value.slice t.2.1.1 t.2.1.2.1 t.2.1.2.2).ownBlock=some j∨(Value.slice t.2.2.1.1 t.2.2.1.2.1 t.2.2.1.2.2).ownBlock=some j∨(Value.slice t.2.2.2.1 t.2.2.2.2.1 t.2.2.2.2.2).ownBlock=some j
theorem OwnV.heapM {w w':World} {b:Nat} {t:S4} {m:V4} (h:OwnV w b t m) (hq:∀ j,InV t j→w'.heap[j]?=w.heap[j]?):OwnV w' b t m:=
 ⟨⟨own_heap h.1.1 fun j hj=>hq j (.inl hj),own_heap h.1.2.1 fun j hj=>hq j (.inr (.inl hj)),own_heap h.1.2.2.1 fun j hj=>hq j (.inr (.inr (.inl hj))),own_heap h.1.2.2.2 fun j hj=>hq j (.inr (.inr (.inr hj)))⟩,h.2⟩
theorem OwnV.inM {w:World} {b:Nat} {t:S4} {m:V4} (h:OwnV w b t m) {j:Nat} (hj:InV t j):b≤j∧j<w.heap.size:=by
 rcases hj with hj | hj | hj | hj
 ·exact h.1.1.lt j hj
 ·exact h.1.2.1.lt j hj
 ·exact h.1.2.2.1.lt j hj
 ·exact h.1.2.2.2.lt j hj
theorem OwnV.keptButM {T:TypeId} {w w':World} {b:Nat} {t:S4} {m:V4} (h:OwnV w b t m) (k:KeptBut T w w') (hT:3≠T):OwnV w' b t m:=
 ⟨⟨k.owns h.1.1 hT,k.owns h.1.2.1 hT,k.owns h.1.2.2.1 hT,k.owns h.1.2.2.2 hT⟩,h.2⟩
theorem KeptBut.blkM {T:TypeId} {w w':World} {g t:Nat} {cs:List Value} (k:KeptBut T w w') (h:Blk w g t cs) (hT:t≠T):Blk w' g t cs:=k g _ t _ h hT
theorem inV_neM {w:World} {b B e s n:Nat} {t:S4} {m:V4} {v:Value} {xs:List Value} (h:OwnV w b t m) (hv:w.ownsRow B e s v n xs) (he:3≠e) {j:Nat} (hj:InV t j):v.ownBlock≠some j:=by
 intro hv9
 have key:∀ {v':Value} {n':Nat} {xs':List Value},w.ownsRow b 3 1 v' n' xs'→v'.ownBlock=some j→False:=fun h' e'=>by
  rcases owns_ne h' hv he with h0 | h0
  ·rw [h0] at e';cases e'
  ·exact h0 (e'.trans hv9.symm)
 rcases hj with hj | hj | hj | hj
 ·exact key h.1.1 hj
 ·exact key h.1.2.1 hj
 ·exact key h.1.2.2.1 hj
 ·exact key h.1.2.2.2 hj

theorem instrs_rowM {w:World} {B cap:Nat} {a:Option Addr} {xs:List I3} (h:w.ownsRow B 99 3 (.slice a xs.length cap) xs.length (flat xs)) (hf:∀ x ∈ xs,I3.fits x):Instrs w a xs.length cap xs:=by
 obtain ⟨a',c',e,hI,_⟩:=bugs_sliceR h hf
 cases e
 exact hI
theorem keptOff_blkM {w w':World} {b g T:Nat} {t:S4} {m:V4} {cs:List Value} (k:KeptOff t w w') (h:OwnV w b t m) (hB:Blk w g T cs) (hT:3≠T):Blk w' g T cs:=
 (k g hB.lt (own_ne_blk h.1.1 hB hT) (own_ne_blk h.1.2.1 hB hT) (own_ne_blk h.1.2.2.1 hB hT) (own_ne_blk h.1.2.2.2 hB hT)).trans hB
theorem keptOff_ownM {w w':World} {b B e s n:Nat} {t:S4} {m:V4} {v:Value} {xs:List Value} (k:KeptOff t w w') (h:OwnV w b t m) (hv:w.ownsRow B e s v n xs) (he:3≠e):w'.ownsRow B e s v n xs:=
 own_heap hv fun j hj=>k j (hv.lt j hj).2 (fun e9=>inV_neM h hv he (.inl e9) hj) (fun e9=>inV_neM h hv he (.inr (.inl e9)) hj) (fun e9=>inV_neM h hv he (.inr (.inr (.inl e9))) hj) (fun e9=>inV_neM h hv he (.inr (.inr (.inr e9))) hj)

theorem fnExactRunSchedule_of (a0:Option Addr) (n0 c0:Nat) (r0:List (List I3)) (a1:Option Addr) (n1 c1:Nat) (ks:List Int) (z:V4) (hfz:V4.fits z) (hlz:z.1.length≤1000∧z.2.1.length≤1000∧z.2.2.1.length≤1000∧z.2.2.2.length≤1000) (fs:List I3) (hff:∀ x ∈ fs,I3.fits x) (hlf:fs.length≤100000) (cd:Int) (w:World) (h0:Codes w a0 n0 c0 r0) (h1:Ints .i64 w a1 n1 c1 ks) (hG:VmShape w)
  (kS:∀ (a0:Option Addr) (n0 c0:Nat) (a1:Option Addr) (n1 c1:Nat) (w:World),Codes w a0 n0 c0 r0→Ints .i64 w a1 n1 c1 ks→Calls Tryz.prog 30 #[.agg #[.slice a0 n0 c0],.slice a1 n1 c1] w fun e w'=>RunGot e w' w.heap.size z fs cd∧Below w.heap.size w w')
  (kI:∀ (a0:Option Addr) (n0 c0:Nat) (a1:Option Addr) (n1 c1:Nat) (w:World),Codes w a0 n0 c0 r0→Ints .i64 w a1 n1 c1 ks→VmShape w→Calls Tryz.prog 12 #[.agg #[.slice a0 n0 c0],.slice a1 n1 c1] w fun e w'=>RunGot e w' w.heap.size z fs cd∧Below w.heap.size w w') :
  Calls Tryz.prog 7 #[.agg #[.slice a0 n0 c0],.slice a1 n1 c1] w fun e w'=>e=.returned (.bool true)∧Below w.heap.size w w':=by
 have kT:=fun W h=>toProgram_copy a0 n0 c0 r0 W h
 have kO:=fun W h=>toProgram_own a0 n0 c0 r0 W h
 have kL:=fun W h hl=>toIntS_any a1 n1 c1 ks W h hl
 have hcd:(cd != cd)=false:=by simp
 have bw:Below w.heap.size w (w.alloc (.cells #[.slice a0 n0 c0] 59)):=by go_grown
 have p0:Blk (w.alloc (.cells #[.slice a0 n0 c0] 59)) w.heap.size 59 [.slice a0 n0 c0]:=blkAt _ _ _ rfl
 by_cases g1:1048576<n1
 ·have g9:(1048576:Int)<(n1:Int):=by omega
  clear g1 kS kI kT kO kL p0
  go_enter Tryz.func7,Tryz.ntmps7
  go_wp2
  go_ret
  exact ⟨rfl,bw⟩
 have e1:¬ (1048576:Int)<(n1:Int):=by omega
 replace kL:=fun W h=>kL W h (by omega)
 have hn1:n1≤1048576:=by omega
 clear g1
 go_enter Tryz.func7,Tryz.ntmps7
 go_wp2_with fail
 generalize (w.alloc (.cells #[.slice a0 n0 c0] 59))=W0 at *
 go_wp2_with (first | refine wpList_load_blk rfl 59 _ rfl w.heap.size rfl p0 _ Tryz.underlying59 rfl (by kernel_rfl) ?_)
 have hz:=sizeLeft_or r0 1048576 (by omega)
 have hbd:=size_bounds (rows:=r0) (left:=1048576) (by omega)
 have hcb:=fun h=>sizeLeft_cnt (rows:=r0) (left:=1048576) h
 refine (szProgram_less a0 n0 c0 r0 1048576 _ (h0.below bw) (by omega) (by omega)).mono ?_
 rintro e wz ⟨rfl,hb⟩
 generalize sizeLeft 1048576 r0=zl at hz hbd hcb
 replace bw:=bel_trans bw hb
 replace p0:=p0.below hb
 clear hb
 rcases hz with rfl | ⟨yl,xl⟩
 ·clear hbd hcb
  go_wp2
  go_ret
  exact ⟨rfl,bw⟩
 obtain ⟨hr,hr'⟩:=hbd yl (by omega)
 have hcnt:=hcb yl
 have hlen:n0≤1048576:=by rw [← h0.1];exact hr
 replace kT:=fun W h=>kT W h hlen (fun t _=>hr' t)
 replace kO:=fun W h=>kO W h hlen (fun t _=>hr' t)
 have hcl:cntP r0 r0.length≤10000000:=by omega
 have hcj:∀ j,j≤r0.length→cntP r0 j≤10000000:=fun j hj=>by have:=cntP_mono r0 j;omega
 have HRJ:Hid (∀ j,j<r0.length→(r0.getD j []).length≤1048576):=fun j _=>hr' j
 clear hbd hcb hr hr' hlen hcnt
 have hn0:decide (zl<0)=false:=by simp;omega
 clear yl xl
 go_wp2_with (first | refine wpList_load_blk rfl 59 _ rfl w.heap.size rfl p0 _ Tryz.underlying59 rfl (by kernel_rfl) ?_)
 refine (kT _ (h0.below bw)).mono ?_
 rintro e wa ⟨rfl,hO,hb⟩
 have hA:=hO.codes
 clear hO
 generalize wz.heap.size+3=ga at hA ⊢
 replace bw:=bel_trans bw hb
 replace p0:=p0.below hb
 clear hb
 go_wp2_with fail
 refine (kL _ (h1.below bw)).mono ?_
 rintro e wb ⟨rfl,hO,hb⟩
 have hB:=Ints.of_owns hO
 clear hO
 generalize wa.heap.size=gb at hB ⊢
 replace hA:=hA.below hb
 replace bw:=bel_trans bw hb
 replace p0:=p0.below hb
 clear hb
 go_wp2_with fail
 refine (kS _ _ _ _ _ _ _ hA hB).mono ?_
 rintro e wS ⟨⟨⟨⟨s0a,s0n,s0c⟩,⟨s1a,s1n,s1c⟩,⟨s2a,s2n,s2c⟩,⟨s3a,s3n,s3c⟩⟩,vS,rfl,oS,qS⟩,hb⟩
 have us:S4.val ((s0a,s0n,s0c),(s1a,s1n,s1c),(s2a,s2n,s2c),(s3a,s3n,s3c))=.agg #[.slice s0a s0n s0c,.slice s1a s1n s1c,.slice s2a s2n s2c,.slice s3a s3n s3c]:=rfl
 rw [us]
 replace bw:=bel_trans bw hb
 replace p0:=p0.below hb
 clear hb hA hB kS
 have bS:∀ j,InV ((s0a,s0n,s0c),(s1a,s1n,s1c),(s2a,s2n,s2c),(s3a,s3n,s3c)) j→j<wS.heap.size:=fun j hj=>(oS.inM hj).2
 have bv:∀ j,vS.ownBlock=some j→j<wS.heap.size:=fun j hj=>(qS.lt j hj).2
 obtain ⟨vSa,vSc,rfl,iS,gS⟩:=bugs_sliceR qS hff
 clear iS gS
 have ha:Below wS.heap.size wS (wS.alloc (.cells #[.slice s0a s0n s0c,.slice s1a s1n s1c,.slice s2a s2n s2c,.slice s3a s3n s3c] 33)):=by go_grown
 have pW:Blk (wS.alloc (.cells #[.slice s0a s0n s0c,.slice s1a s1n s1c,.slice s2a s2n s2c,.slice s3a s3n s3c] 33)) wS.heap.size 33 [.slice s0a s0n s0c,.slice s1a s1n s1c,.slice s2a s2n s2c,.slice s3a s3n s3c]:=blkAt _ _ _ rfl
 replace bw:=bel_trans bw ha
 replace p0:=p0.below ha
 replace oS:=oS.below ha
 replace qS:=owns_below qS ha
 have hNS:wS.heap.size≤(wS.alloc (.cells #[.slice s0a s0n s0c,.slice s1a s1n s1c,.slice s2a s2n s2c,.slice s3a s3n s3c] 33)).heap.size:=ha.size
 clear ha
 go_wp2_with (first | refine wpList_load_blk rfl 59 _ rfl w.heap.size rfl p0 _ Tryz.underlying59 rfl (by kernel_rfl) ?_)
 generalize wS.alloc (.cells #[.slice s0a s0n s0c,.slice s1a s1n s1c,.slice s2a s2n s2c,.slice s3a s3n s3c] 33)=wS2 at *
 generalize wS.heap.size=GW at *
 refine (kO _ (h0.below bw)).mono ?_
 rintro e wx ⟨rfl,hP,hb⟩
 have hBx:w.heap.size≤wS2.heap.size+3:=by have:=bw.size;omega
 generalize hgx:wS2.heap.size+3=gx at hP hBx ⊢
 replace bw:=bel_trans bw hb
 replace p0:=p0.below hb
 replace oS:=oS.below hb
 replace qS:=owns_below qS hb
 replace pW:=pW.below hb
 have hNx:GW≤wx.heap.size:=Nat.le_trans hNS hb.size
 have hgxX:gx≤wx.heap.size:=by obtain ⟨vs9,h9,_⟩:=hP;have:=(h9.lt gx rfl).2;omega
 clear hb hNS hgx
 have ha:Below wx.heap.size wx (wx.alloc (.cells #[.slice (some ⟨gx,0,none⟩) n0 n0] 25)):=by go_grown
 have pX:Blk (wx.alloc (.cells #[.slice (some ⟨gx,0,none⟩) n0 n0] 25)) wx.heap.size 25 [.slice (some ⟨gx,0,none⟩) n0 n0]:=blkAt _ _ _ rfl
 replace bw:=bel_trans bw ha
 replace p0:=p0.below ha
 replace oS:=oS.below ha
 replace qS:=owns_below qS ha
 replace pW:=pW.below ha
 replace hP:=hP.below ha
 have hNp:wx.heap.size≤(wx.alloc (.cells #[.slice (some ⟨gx,0,none⟩) n0 n0] 25)).heap.size:=ha.size
 clear ha
 go_wp2_with fail
 generalize wx.alloc (.cells #[.slice (some ⟨gx,0,none⟩) n0 n0] 25)=wp at *
 generalize wx.heap.size=GX at *
 refine (kL _ (h1.below bw)).mono ?_
 rintro e wy ⟨rfl,oL,hb⟩
 have hgl:GW≤wp.heap.size:=Nat.le_trans hNx hNp
 have hgw:w.heap.size≤wp.heap.size:=bw.size
 replace bw:=bel_trans bw hb
 replace p0:=p0.below hb
 replace oS:=oS.below hb
 replace qS:=owns_below qS hb
 replace pW:=pW.below hb
 replace hP:=hP.below hb
 replace pX:=pX.below hb
 have hly:wp.heap.size<wy.heap.size:=(oL.lt _ rfl).2
 generalize wp.heap.size=gl at oL hgl hly hgw ⊢
 clear hb hNx hNp
 have hX:=hP.codes9 h0
 have hY:=Ints.of_owns oL
 go_wp2_with (first | refine wpList_load_blk rfl 25 _ rfl GX rfl pX _ Tryz.underlying25 rfl (by kernel_rfl) ?_)
 refine (kI _ _ _ _ _ _ _ hX hY (hG.below bw)).mono ?_
 rintro e wI ⟨⟨⟨⟨g0a,g0n,g0c⟩,⟨g1a,g1n,g1c⟩,⟨g2a,g2n,g2c⟩,⟨g3a,g3n,g3c⟩⟩,vG,rfl,oG,qG⟩,hb⟩
 have ug:S4.val ((g0a,g0n,g0c),(g1a,g1n,g1c),(g2a,g2n,g2c),(g3a,g3n,g3c))=.agg #[.slice g0a g0n g0c,.slice g1a g1n g1c,.slice g2a g2n g2c,.slice g3a g3n g3c]:=rfl
 rw [ug]
 replace bw:=bel_trans bw hb
 replace p0:=p0.below hb
 replace oS:=oS.below hb
 replace qS:=owns_below qS hb
 replace pW:=pW.below hb
 replace hP:=hP.below hb
 replace pX:=pX.below hb
 replace oL:=owns_below oL hb
 have hBGG:wy.heap.size≤wI.heap.size:=hb.size
 generalize wy.heap.size=BG at *
 clear hb hX hY
 obtain ⟨vGa,vGc,rfl,iG,gG⟩:=bugs_sliceR qG hff
 clear iG gG
 have ha:Below wI.heap.size wI (wI.alloc (.cells #[.slice g0a g0n g0c,.slice g1a g1n g1c,.slice g2a g2n g2c,.slice g3a g3n g3c] 33)):=by go_grown
 have pG:Blk (wI.alloc (.cells #[.slice g0a g0n g0c,.slice g1a g1n g1c,.slice g2a g2n g2c,.slice g3a g3n g3c] 33)) wI.heap.size 33 [.slice g0a g0n g0c,.slice g1a g1n g1c,.slice g2a g2n g2c,.slice g3a g3n g3c]:=blkAt _ _ _ rfl
 replace bw:=bel_trans bw ha
 replace p0:=p0.below ha
 replace oS:=oS.below ha
 replace qS:=owns_below qS ha
 replace pW:=pW.below ha
 replace hP:=hP.below ha
 replace pX:=pX.below ha
 replace oL:=owns_below oL ha
 replace oG:=oG.below ha
 replace qG:=owns_below qG ha
 clear ha
 have hGB:GW<BG:=Nat.lt_of_le_of_lt hgl hly
 have hwB:w.heap.size≤BG:=by omega
 have kE:=fun (W:World) (t:S4) (h:Vmem W t z) (h2:Vmem W ((s0a,s0n,s0c),(s1a,s1n,s1c),(s2a,s2n,s2c),(s3a,s3n,s3c)) z)=>eqVm_same t ((s0a,s0n,s0c),(s1a,s1n,s1c),(s2a,s2n,s2c),(s3a,s3n,s3c)) z W h h2
 rw [us] at kE
 have kEg:=fun W=>kE W ((g0a,g0n,g0c),(g1a,g1n,g1c),(g2a,g2n,g2c),(g3a,g3n,g3c))
 rw [ug] at kEg
 go_wp2_with (first | refine wpList_load_blk rfl 33 _ rfl wI.heap.size rfl pG _ Tryz.underlying33 rfl (by kernel_rfl) ?_ | refine wpList_load_blk rfl 33 _ rfl GW rfl pW _ Tryz.underlying33 rfl (by kernel_rfl) ?_)
 generalize wI.alloc (.cells #[.slice g0a g0n g0c,.slice g1a g1n g1c,.slice g2a g2n g2c,.slice g3a g3n g3c] 33)=U1 at *
 generalize wI.heap.size=GG at *
 refine (kEg _ (oG.mem hfz) (oS.mem hfz)).mono ?_
 rintro e u1 ⟨rfl,hb⟩
 replace bw:=bel_trans bw hb
 replace p0:=p0.below hb
 replace oS:=oS.below hb
 replace qS:=owns_below qS hb
 replace pW:=pW.below hb
 replace hP:=hP.below hb
 replace pX:=pX.below hb
 replace oL:=owns_below oL hb
 replace oG:=oG.below hb
 replace qG:=owns_below qG hb
 replace pG:=pG.below hb
 clear hb
 go_wp2_with fail
 refine (eqBugS_same vGa vSa fs.length vGc vSc fs _ (instrs_rowM qG hff) (instrs_rowM qS hff)).mono ?_
 rintro e u2 ⟨rfl,hb⟩
 replace bw:=bel_trans bw hb
 replace p0:=p0.below hb
 replace oS:=oS.below hb
 replace qS:=owns_below qS hb
 replace pW:=pW.below hb
 replace hP:=hP.below hb
 replace pX:=pX.below hb
 replace oL:=owns_below oL hb
 replace oG:=oG.below hb
 replace qG:=owns_below qG hb
 replace pG:=pG.below hb
 clear hb
 have b9:=pX.cell 0
 have b8:=p0.cell 0
 simp only [List.getElem?_cons_zero,List.getElem?_cons_succ] at b9 b8
 go_wp2_with fail
 have hdr:Below u2.heap.size u2 u2.drew:=by go_grown
 have bd:=bel_trans bw hdr
 have hX:=hP.codes9 h0
 refine wp_region_held_drew (S:=(fun w'=>w'.cell? ⟨GX,0,none⟩=some (.slice (some ⟨gx,0,none⟩) n0 n0)∧w'.cell? ⟨w.heap.size,0,none⟩=some (.slice a0 n0 c0))) (by kernel_rfl) ⟨b9,b8⟩ (fun hS0=>?_)
 refine tkm 0 63 (.agg #[.slice (some ⟨gx,0,none⟩) n0 n0]) ?_
 refine tkm 1 64 (.agg #[.slice a0 n0 c0]) ?_
 refine tkr 2 65 (fun K hK=>?_)
 go_simp
 refine (kT _ (h0.below bd)).mono ?_
 rintro e wk ⟨rfl,hO,hb1⟩
 go_wp2_with fail
 refine hK.out _ _ ?_ (fun hS1=>?_)
 ·exact ⟨cells_kept hb1 _ _ hS0.1,cells_kept hb1 _ _ hS0.2⟩
 clear hK
 have hK9:=hO.codes
 clear hO
 refine tkr 3 66 (fun K hK=>?_)
 go_simp
 refine (eqProgram_same _ _ _ _ _ r0 _ (hX.below (bel_trans hdr hb1)) hK9).mono ?_
 rintro e u3 ⟨rfl,hb2⟩
 go_wp2_with fail
 refine hK.out _ _ ?_ (fun hS2=>?_)
 ·exact ⟨cells_kept hb2 _ _ hS1.1,cells_kept hb2 _ _ hS1.2⟩
 clear hK
 refine tkm 4 67 (.bool false) ?_
 refine wpAnyH_done (by kernel_rfl) ?_ _
 have hb9:Below u2.heap.size u2 u3:=bel_trans hdr (bel_trans hb1 hb2)
 replace bw:=bel_trans bw hb9
 replace p0:=p0.below hb9
 replace oS:=oS.below hb9
 replace qS:=owns_below qS hb9
 replace pW:=pW.below hb9
 replace hP:=hP.below hb9
 replace pX:=pX.below hb9
 replace oL:=owns_below oL hb9
 replace oG:=oG.below hb9
 replace qG:=owns_below qG hb9
 replace pG:=pG.below hb9
 clear hb9 hb1 hb2 hdr bd hS0 hS1 hS2 b9 b8 hX hK9
 go_wp2_with fail
 refine (kL _ (h1.below bw)).mono ?_
 rintro e u4 ⟨rfl,hO,hb⟩
 have hM:=Ints.of_owns hO
 clear hO
 replace bw:=bel_trans bw hb
 replace p0:=p0.below hb
 replace oS:=oS.below hb
 replace qS:=owns_below qS hb
 replace pW:=pW.below hb
 replace hP:=hP.below hb
 replace pX:=pX.below hb
 replace oL:=owns_below oL hb
 replace oG:=oG.below hb
 replace qG:=owns_below qG hb
 replace pG:=pG.below hb
 clear hb
 go_wp2_with fail
 refine (eqIntS_same _ _ _ _ _ ks _ (Ints.of_owns oL) hM).mono ?_
 rintro e u5 ⟨rfl,d5,hd⟩
 subst hd
 have hb:=below_dN (w:=u4) d5
 replace bw:=bel_trans bw hb
 replace p0:=p0.below hb
 replace oS:=oS.below hb
 replace qS:=owns_below qS hb
 replace pW:=pW.below hb
 replace hP:=hP.below hb
 replace pX:=pX.below hb
 replace oL:=owns_below oL hb
 replace oG:=oG.below hb
 replace qG:=owns_below qG hb
 replace pG:=pG.below hb
 clear hb hM
 generalize u4.drewN d5=u5 at *
 have hBW:gx≤u5.heap.size:=by have:=(oL.lt gl rfl).2;have:=pX.lt;have:=hgxX;omega
 go_wp2_with (first | refine wpList_load_blk rfl 25 _ rfl GX rfl pX _ Tryz.underlying25 rfl (by kernel_rfl) ?_)
 refine (markProgram_own gx _ 1 r0 _ (by omega) (by omega) hcl hcj HRJ.out hBW hP).mono ?_
 rintro e u6 ⟨rfl,_,kb,hb⟩
 replace bw:=bel_transR bw (below_lowR hb hBx)
 replace p0:=kb.blkM p0 (by decide)
 replace pW:=kb.blkM pW (by decide)
 replace pX:=kb.blkM pX (by decide)
 replace pG:=kb.blkM pG (by decide)
 replace oS:=oS.keptButM kb (by decide)
 replace oG:=oG.keptButM kb (by decide)
 replace qS:=kb.owns qS (by decide)
 replace qG:=kb.owns qG (by decide)
 replace oL:=kb.owns oL (by decide)
 clear kb hb hP hBW
 have hc0:(0:Int)≤cntP r0 r0.length:=by omega
 go_wp2_with fail
 refine (markIntS_grown0 gl gl n1 n1 _ ks _ (by omega) (by omega) hn1 oL).mono ?_
 rintro e u7 ⟨rfl,_,g7⟩
 replace p0:=p0.kept g7 (fun e9=>own_ne_blk oL p0 (by decide) e9)
 replace pW:=pW.kept g7 (fun e9=>own_ne_blk oL pW (by decide) e9)
 replace pX:=pX.kept g7 (fun e9=>own_ne_blk oL pX (by decide) e9)
 replace pG:=pG.kept g7 (fun e9=>own_ne_blk oL pG (by decide) e9)
 replace oS:=oS.heapM fun j hj=>g7.block j (oS.inM hj).2 (fun e=>by cases e;have:=bS _ hj;omega)
 replace qS:=own_heap qS fun j hj=>g7.block j (qS.lt j hj).2 (fun e=>by cases e;have:=bv _ hj;omega)
 replace oG:=oG.heapM fun j hj=>g7.block j (oG.inM hj).2 (fun e=>by cases e;have:=(oG.inM hj).1;omega)
 replace qG:=own_heap qG fun j hj=>g7.block j (qG.lt j hj).2 (fun e=>by cases e;have:=(qG.lt _ hj).1;omega)
 replace bw:=bw.grown g7 bw.size (fun k e=>by cases e;omega)
 clear g7 oL
 have cg0:=pG.cell 0
 have cg1:=pG.cell 1
 have cg2:=pG.cell 2
 have cg3:=pG.cell 3
 simp only [List.getElem?_cons_zero,List.getElem?_cons_succ] at cg0 cg1 cg2 cg3
 have cs0:=pW.cell 0
 have cs1:=pW.cell 1
 have cs2:=pW.cell 2
 have cs3:=pW.cell 3
 simp only [List.getElem?_cons_zero,List.getElem?_cons_succ] at cs0 cs1 cs2 cs3
 have hk9:decide (1+(cntP r0 r0.length:Int)+(n1:Int)<0)=false:=by simp;omega
 go_wp2_with fail
 refine (kEg _ (oG.mem hfz) (oS.mem hfz)).mono ?_
 rintro e u8 ⟨rfl,hb⟩
 replace bw:=bel_trans bw hb
 replace p0:=p0.below hb
 replace oS:=oS.below hb
 replace qS:=owns_below qS hb
 replace pW:=pW.below hb
 replace pX:=pX.below hb
 replace oG:=oG.below hb
 replace qG:=owns_below qG hb
 replace pG:=pG.below hb
 clear hb cg0 cs0 cg1 cs1 cg2 cs2 cg3 cs3
 go_wp2_with fail
 refine (eqBugS_same vGa vSa fs.length vGc vSc fs _ (instrs_rowM qG hff) (instrs_rowM qS hff)).mono ?_
 rintro e u9 ⟨rfl,hb⟩
 replace bw:=bel_trans bw hb
 replace p0:=p0.below hb
 replace oS:=oS.below hb
 replace qS:=owns_below qS hb
 replace pW:=pW.below hb
 replace pX:=pX.below hb
 replace oG:=oG.below hb
 replace qG:=owns_below qG hb
 replace pG:=pG.below hb
 clear hb hk9 kEg
 have hBU:BG≤u9.heap.size:=by have:=pG.lt;have:=hBGG;omega
 have kM:=markVm_own BG ((g0a,g0n,g0c),(g1a,g1n,g1c),(g2a,g2n,g2c),(g3a,g3n,g3c)) 1 z u9 (by omega) (by omega) oG hBU (by omega) (by omega) (by omega) (by omega)
 rw [ug] at kM
 go_wp2_with (first | refine wpList_load_blk rfl 33 _ rfl GG rfl pG _ Tryz.underlying33 rfl (by kernel_rfl) ?_)
 refine kM.mono ?_
 rintro e v1 ⟨rfl,oG2,ko,hb⟩
 replace p0:=keptOff_blkM ko oG p0 (by decide)
 replace pW:=keptOff_blkM ko oG pW (by decide)
 replace pX:=keptOff_blkM ko oG pX (by decide)
 replace pG:=keptOff_blkM ko oG pG (by decide)
 replace qG:=keptOff_ownM ko oG qG (by decide)
 replace oS:=oS.heapM fun j hj=>hb.block j (by have:=bS _ hj;omega)
 replace qS:=own_heap qS fun j hj=>hb.block j (by have:=bv _ hj;omega)
 replace bw:=bel_transR bw (below_lowR hb hwB)
 clear kM ko hb oG hBU
 have oG:=oG2
 clear oG2
 have hcz:(0:Int)≤cntV z∧cntV z≤4000:=by unfold cntV;omega
 go_wp2_with fail
 refine (markBugS_any BG _ (1+cntV z) fs _ (by omega) (by omega) (by omega) qG).mono ?_
 rintro e v2 ⟨rfl,qG2,g2⟩
 replace p0:=p0.kept g2 (own_ne_blk qG p0 (by decide))
 replace pW:=pW.kept g2 (own_ne_blk qG pW (by decide))
 replace pX:=pX.kept g2 (own_ne_blk qG pX (by decide))
 replace pG:=pG.kept g2 (own_ne_blk qG pG (by decide))
 replace oG:=oG.heapM fun j hj=>g2.block j (oG.inM hj).2 (fun e=>inV_neM oG qG (by decide) hj e.symm)
 replace oS:=oS.heapM fun j hj=>g2.block j (oS.inM hj).2 (fun e=>by have h1:=(qG.lt j e.symm).1;have:=bS _ hj;omega)
 replace qS:=own_heap qS fun j hj=>g2.block j (qS.lt j hj).2 (fun e=>by have h1:=(qG.lt j e.symm).1;have:=bv _ hj;omega)
 replace bw:=bw.grown g2 bw.size (fun k e=>by have h1:=(qG.lt k e).1;omega)
 clear g2 qG
 have qG:=qG2
 clear qG2
 have kH:=heldVm_own9 ((g0a,g0n,g0c),(g1a,g1n,g1c),(g2a,g2n,g2c),(g3a,g3n,g3c)) z
 rw [ug] at kH
 have hh1:decide (1+cntV z<0)=false:=by simp;omega
 have hh2:decide (1+cntV z+(fs.length:Int)*3<0)=false:=by simp;omega
 have hh3:((1+cntV z+(fs.length:Int)*3) != (1+cntV z+(fs.length:Int)*3))=false:=by simp
 go_wp2_with (first | refine wpList_load_blk rfl 33 _ rfl GG rfl pG _ Tryz.underlying33 rfl (by kernel_rfl) ?_)
 refine (kH _ BG oG (by omega)).mono ?_
 rintro e h1a ⟨rfl,hb⟩
 replace bw:=bel_trans bw hb
 replace p0:=p0.below hb
 replace oS:=oS.below hb
 replace qS:=owns_below qS hb
 replace pW:=pW.below hb
 replace pX:=pX.below hb
 replace oG:=oG.below hb
 replace qG:=owns_below qG hb
 replace pG:=pG.below hb
 clear hb kH
 go_wp2_with fail
 refine (heldBugS_any BG _ (1+cntV z) fs _ (by omega) (by omega) (by omega) qG).mono ?_
 rintro e h1b ⟨rfl,rfl⟩
 go_wp2_with (first | refine wpList_load_blk rfl 59 _ rfl w.heap.size rfl p0 _ Tryz.underlying59 rfl (by kernel_rfl) ?_)
 refine (kT _ (h0.below bw)).mono ?_
 rintro e xa ⟨rfl,hO,hb⟩
 have hA:=hO.codes
 clear hO
 replace bw:=bel_trans bw hb
 replace p0:=p0.below hb
 replace oS:=oS.below hb
 replace qS:=owns_below qS hb
 replace pW:=pW.below hb
 replace pX:=pX.below hb
 replace oG:=oG.below hb
 replace qG:=owns_below qG hb
 replace pG:=pG.below hb
 clear hb
 generalize hga:h1a.heap.size+3=ga at hA ⊢
 clear hga
 go_wp2_with fail
 refine (kL _ (h1.below bw)).mono ?_
 rintro e xb ⟨rfl,hO,hb⟩
 have hB:=Ints.of_owns hO
 clear hO
 replace hA:=hA.below hb
 replace bw:=bel_trans bw hb
 replace p0:=p0.below hb
 replace oS:=oS.below hb
 replace qS:=owns_below qS hb
 replace pW:=pW.below hb
 replace pX:=pX.below hb
 replace oG:=oG.below hb
 replace qG:=owns_below qG hb
 replace pG:=pG.below hb
 clear hb
 generalize hgb:xa.heap.size=gb at hB ⊢
 clear hgb
 go_wp2_with fail
 refine (kI _ _ _ _ _ _ _ hA hB (hG.below bw)).mono ?_
 rintro e xc ⟨⟨⟨⟨h0a,h0n,h0c⟩,⟨h1a,h1n,h1c⟩,⟨h2a,h2n,h2c⟩,⟨h3a,h3n,h3c⟩⟩,vH,rfl,oH,qH⟩,hb⟩
 have uh:S4.val ((h0a,h0n,h0c),(h1a,h1n,h1c),(h2a,h2n,h2c),(h3a,h3n,h3c))=.agg #[.slice h0a h0n h0c,.slice h1a h1n h1c,.slice h2a h2n h2c,.slice h3a h3n h3c]:=rfl
 rw [uh]
 replace bw:=bel_trans bw hb
 replace p0:=p0.below hb
 replace oS:=oS.below hb
 replace qS:=owns_below qS hb
 replace pW:=pW.below hb
 replace pX:=pX.below hb
 replace oG:=oG.below hb
 replace qG:=owns_below qG hb
 replace pG:=pG.below hb
 clear hb hA hB kI
 obtain ⟨vHa,vHc,rfl,iH,gH⟩:=bugs_sliceR qH hff
 clear iH gH
 have ha:Below xc.heap.size xc (xc.alloc (.cells #[.slice h0a h0n h0c,.slice h1a h1n h1c,.slice h2a h2n h2c,.slice h3a h3n h3c] 33)):=by go_grown
 have pH:Blk (xc.alloc (.cells #[.slice h0a h0n h0c,.slice h1a h1n h1c,.slice h2a h2n h2c,.slice h3a h3n h3c] 33)) xc.heap.size 33 [.slice h0a h0n h0c,.slice h1a h1n h1c,.slice h2a h2n h2c,.slice h3a h3n h3c]:=blkAt _ _ _ rfl
 replace oH:=oH.below ha
 replace qH:=owns_below qH ha
 replace bw:=bel_trans bw ha
 replace p0:=p0.below ha
 replace oS:=oS.below ha
 replace qS:=owns_below qS ha
 replace pW:=pW.below ha
 replace pX:=pX.below ha
 replace oG:=oG.below ha
 replace qG:=owns_below qG ha
 replace pG:=pG.below ha
 clear ha
 have kEh:=fun W=>kE W ((h0a,h0n,h0c),(h1a,h1n,h1c),(h2a,h2n,h2c),(h3a,h3n,h3c))
 rw [uh] at kEh
 go_wp2_with (first | refine wpList_load_blk rfl 33 _ rfl xc.heap.size rfl pH _ Tryz.underlying33 rfl (by kernel_rfl) ?_ | refine wpList_load_blk rfl 33 _ rfl GW rfl pW _ Tryz.underlying33 rfl (by kernel_rfl) ?_)
 refine (kEh _ (oH.mem hfz) (oS.mem hfz)).mono ?_
 rintro e y1 ⟨rfl,hb⟩
 replace qH:=owns_below qH hb
 replace bw:=bel_trans bw hb
 replace p0:=p0.below hb
 replace oS:=oS.below hb
 replace qS:=owns_below qS hb
 replace pW:=pW.below hb
 replace pX:=pX.below hb
 replace oG:=oG.below hb
 replace qG:=owns_below qG hb
 replace pG:=pG.below hb
 clear hb oH pH
 go_wp2_with fail
 refine (eqBugS_same vHa vSa fs.length vHc vSc fs _ (instrs_rowM qH hff) (instrs_rowM qS hff)).mono ?_
 rintro e y2 ⟨rfl,hb⟩
 replace bw:=bel_trans bw hb
 replace p0:=p0.below hb
 replace oS:=oS.below hb
 replace qS:=owns_below qS hb
 replace pW:=pW.below hb
 replace pX:=pX.below hb
 replace oG:=oG.below hb
 replace qG:=owns_below qG hb
 replace pG:=pG.below hb
 clear hb qH kEh kE
 have kH:=heldVm_own9 ((g0a,g0n,g0c),(g1a,g1n,g1c),(g2a,g2n,g2c),(g3a,g3n,g3c)) z
 rw [ug] at kH
 go_wp2_with (first | refine wpList_load_blk rfl 33 _ rfl GG rfl pG _ Tryz.underlying33 rfl (by kernel_rfl) ?_)
 refine (kH _ BG oG (by omega)).mono ?_
 rintro e h2a ⟨rfl,hb⟩
 replace bw:=bel_trans bw hb
 replace p0:=p0.below hb
 replace oS:=oS.below hb
 replace qS:=owns_below qS hb
 replace pW:=pW.below hb
 replace pX:=pX.below hb
 replace oG:=oG.below hb
 replace qG:=owns_below qG hb
 replace pG:=pG.below hb
 clear hb kH
 go_wp2_with fail
 refine (heldBugS_any BG _ (1+cntV z) fs _ (by omega) (by omega) (by omega) qG).mono ?_
 rintro e h2b ⟨rfl,rfl⟩
 go_wp2
 go_ret
 exact ⟨rfl,bw⟩
end Go.Proofs.YtjgffnlmjmibgaaGreatDoor
