/-
  Joined: ClsW, ClsE, Vars.
-/
import Derived.WalkSmall
import Derived.ChangeOld
import Derived.Test.YtjgffnlmjmibgaaDoorN48

namespace Go.Proofs.YtjgffnlmjmibgaaDoor
set_option maxRecDepth 100000
set_option maxHeartbeats 16000000
open Go.RowKit
set_option linter.unusedVariables false
set_option linter.unusedSimpArgs false

theorem fnExactClassesOf_of (a0:Option Addr) (n0 c0:Nat) (r0:List (List I3)) (x0:Int) (x1:Int) (w:World) (h0:Codes w a0 n0 c0 r0) (hG:VmShape w)
  (kS:∀ (a0:Option Addr) (n0 c0:Nat) (w:World),Codes w a0 n0 c0 r0→Calls Tryd.prog 22 #[.agg #[.slice a0 n0 c0]] w fun e w'=>e=.returned (.tuple #[.int .i64 x0,.int .i64 x1])∧Below w.heap.size w w')
  (kI:∀ (a0:Option Addr) (n0 c0:Nat) (w:World),Codes w a0 n0 c0 r0→VmShape w→Calls Tryd.prog 23 #[.agg #[.slice a0 n0 c0]] w fun e w'=>e=.returned (.tuple #[.int .i64 x0,.int .i64 x1])∧Below w.heap.size w w') :
  Calls Tryd.prog 5 #[.agg #[.slice a0 n0 c0]] w fun e w'=>e=.returned (.bool true)∧Below w.heap.size w w':=by
 have kT:=fun W h=>toProgram_copy a0 n0 c0 r0 W h
 have bw:Below w.heap.size w (w.alloc (.cells #[.slice a0 n0 c0] 46)):=by go_grown
 have p0:Blk (w.alloc (.cells #[.slice a0 n0 c0] 46)) w.heap.size 46 [.slice a0 n0 c0]:=blkAt _ _ _ rfl
 go_enter Tryd.func5,Tryd.ntmps5
 go_wp2_with fail
 generalize (w.alloc (.cells #[.slice a0 n0 c0] 46))=W0 at *
 go_wp2_with (first | refine wpList_load_blk rfl 46 _ rfl w.heap.size rfl p0 _ Tryd.underlying46 rfl (by kernel_rfl) ?_)
 have hz:=sizeLeft_or r0 1048576 (by omega)
 have hbd:=size_bounds (rows:=r0) (left:=1048576) (by omega)
 refine (szProgram_less a0 n0 c0 r0 1048576 _ (h0.below bw) (by omega) (by omega)).mono ?_
 rintro e wz ⟨rfl,hb⟩
 generalize sizeLeft 1048576 r0=zl at hz hbd
 replace bw:=bel_trans bw hb
 replace p0:=p0.below hb
 clear hb
 rcases hz with rfl | ⟨yl,xl⟩
 ·clear hbd
  go_wp2
  go_ret
  exact ⟨rfl,bw⟩
 obtain ⟨hr,hr'⟩:=hbd yl (by omega)
 have hlen:n0≤1048576:=by rw [← h0.1];exact hr
 replace kT:=fun W h=>kT W h hlen (fun t _=>hr' t)
 clear hbd hr hr' hlen
 have hn0:decide (zl<0)=false:=by simp;omega
 go_wp2_with (first | refine wpList_load_blk rfl 46 _ rfl w.heap.size rfl p0 _ Tryd.underlying46 rfl (by kernel_rfl) ?_)
 refine (kT _ (h0.below bw)).mono ?_
 rintro e wa ⟨rfl,hO,hb⟩
 have hA:=hO.codes
 clear hO
 generalize wz.heap.size+3=ga at hA ⊢
 replace bw:=bel_trans bw hb
 replace p0:=p0.below hb
 clear hb
 go_wp2_with fail
 refine (kS _ _ _ _ hA).mono ?_
 rintro e wr ⟨rfl,hb⟩
 replace bw:=bel_trans bw hb
 replace p0:=p0.below hb
 clear hb hA kS
 go_wp2_with (first | refine wpList_load_blk rfl 46 _ rfl w.heap.size rfl p0 _ Tryd.underlying46 rfl (by kernel_rfl) ?_)
 refine (kT _ (h0.below bw)).mono ?_
 rintro e wx ⟨rfl,hO,hb⟩
 have hX:=hO.codes
 clear hO
 generalize wr.heap.size+3=gx at hX ⊢
 replace bw:=bel_trans bw hb
 replace p0:=p0.below hb
 clear hb
 have ha:Below wx.heap.size wx (wx.alloc (.cells #[.slice (some ⟨gx,0,none⟩) n0 n0] 25)):=by go_grown
 have pX:Blk (wx.alloc (.cells #[.slice (some ⟨gx,0,none⟩) n0 n0] 25)) wx.heap.size 25 [.slice (some ⟨gx,0,none⟩) n0 n0]:=blkAt _ _ _ rfl
 replace bw:=bel_trans bw ha
 replace p0:=p0.below ha
 replace hX:=hX.below ha
 clear ha
 have hne0:(x0 != x0)=false:=by simp
 have hne1:(x1 != x1)=false:=by simp
 go_wp2_with (first | refine wpList_load_blk rfl 25 _ rfl wx.heap.size rfl pX _ Tryd.underlying25 rfl (by kernel_rfl) ?_)
 generalize (wx.alloc (.cells #[.slice (some ⟨gx,0,none⟩) n0 n0] 25))=wp at *
 generalize wx.heap.size=GX at *
 refine (kI _ _ _ _ hX (hG.below bw)).mono ?_
 rintro e wj ⟨rfl,hb⟩
 replace bw:=bel_trans bw hb
 replace p0:=p0.below hb
 replace hX:=hX.below hb
 replace pX:=pX.below hb
 clear hb kI
 have c9:=pX.cell 0
 have c8:=p0.cell 0
 simp only [List.getElem?_cons_zero,List.getElem?_cons_succ] at c9 c8
 go_wp2_with fail
 have hdr:Below wj.heap.size wj wj.drew:=by go_grown
 have bd:=bel_trans bw hdr
 refine wp_region_held_drew (S:=(fun w'=>w'.cell? ⟨GX,0,none⟩=some (.slice (some ⟨gx,0,none⟩) n0 n0)∧w'.cell? ⟨w.heap.size,0,none⟩=some (.slice a0 n0 c0))) (by kernel_rfl) ⟨c9,c8⟩ (fun hS0=>?_)
 refine tkm 0 35 (.agg #[.slice (some ⟨gx,0,none⟩) n0 n0]) ?_
 refine tkm 1 36 (.agg #[.slice a0 n0 c0]) ?_
 refine tkr 2 37 (fun K hK=>?_)
 go_simp
 refine (kT _ (h0.below bd)).mono ?_
 rintro e wk ⟨rfl,hO,hb1⟩
 go_wp2_with fail
 refine hK.out _ _ ?_ (fun hS1=>?_)
 ·exact ⟨cells_kept hb1 _ _ hS0.1,cells_kept hb1 _ _ hS0.2⟩
 clear hK
 have hK9:=hO.codes
 clear hO
 refine tkr 3 38 (fun K hK=>?_)
 go_simp
 refine (eqProgram_same _ _ _ _ _ r0 _ (hX.below (bel_trans hdr hb1)) hK9).mono ?_
 rintro e wl ⟨rfl,hb2⟩
 go_wp2_with fail
 refine hK.out _ _ ?_ (fun hS2=>?_)
 ·exact ⟨cells_kept hb2 _ _ hS1.1,cells_kept hb2 _ _ hS1.2⟩
 clear hK
 refine tkm 4 39 (.bool false) ?_
 refine wpAnyH_done (by kernel_rfl) ?_ _
 have hb9:Below wj.heap.size wj wl:=bel_trans hdr (bel_trans hb1 hb2)
 replace bw:=bel_trans bw hb9
 clear hb9 hb1 hb2 hdr bd hS0 hS1 hS2 c9 c8 hX pX p0 kT hK9
 go_wp2
 go_ret
 exact ⟨rfl,bw⟩


def CutCl (U W:World) (r:List (List Int) × Bool) (s6 s7:Value):Prop:=∃ rb ro rn rk,s6=.slice (some ⟨rb,ro,none⟩) rn rk∧s7=.bool r.2∧RowsI W (some ⟨rb,ro,none⟩) rn rk r.1∧Below U.heap.size U W

theorem specClassesOf_is (a:Option Addr) (len cap:Nat) (rows:List (List I3)) (w:World) (hC:Codes w a len cap rows) :
  Calls Tryd.prog 22 #[.agg #[.slice a len cap]] w fun e w'=>e=.returned (.tuple #[.int .i64 (clsV rows),.int .i64 (clsC rows)])∧Below w.heap.size w w':=by
 have kN:=specNewVm_is
 have fz:=(shape_fits9 zero_shape).1
 have bw:Below w.heap.size w (w.alloc (.cells #[.slice a len cap] 25)):=by go_grown
 have pP:Blk (w.alloc (.cells #[.slice a len cap] 25)) w.heap.size 25 [.slice a len cap]:=blkAt _ _ _ rfl
 have kC:=specCountRuns_is a len cap rows _ (hC.below bw)
 have HC9:Hid (clsC rows=if codeF rows=0 then (if cntM rows zeroV≤5000 then (if (clsG rows).length≤300 then 0 else 15) else 15) else codeF rows):=rfl
 have HV9:Hid (clsV rows=if clsC rows=0 then ((clsG rows).length:Int) else 0):=rfl
 have HCV:Hid (countV rows=if codeF rows=0 then (cntM rows zeroV:Int) else 0):=rfl
 have HCP:Hid (codeF rows=0→progOk rows=true):=fun h=>(code_parts h).1
 have HGA:Hid (((gatF rows 19 zeroV [] ([],true)).2=true→(gatF rows 19 zeroV [] ([],true)).1=clsG rows∧(clsG rows).length≤300)∧((gatF rows 19 zeroV [] ([],true)).2=false→300<(clsG rows).length)):=gat_all rows
 generalize clsC rows=rc at *
 generalize clsV rows=rv at *
 generalize countV rows=cv at *
 generalize codeF rows=cf at *
 go_enter Tryd.func22,Tryd.ntmps22
 go_wp2_with fail
 generalize (w.alloc (.cells #[.slice a len cap] 25))=U0 at *
 go_wp2_with (refine wpList_load_blk rfl 25 _ rfl w.heap.size rfl pP _ Tryd.underlying25 rfl (by kernel_rfl) ?_)
 refine kC.mono ?_
 rintro e U ⟨rfl,hb⟩
 replace bw:=bel_trans bw hb
 replace pP:=pP.below hb
 clear hb kC
 by_cases hcf:cf=0
 ·subst hcf
  have hp:=HCP.out rfl
  have hcv:=HCV.out
  rw [if_pos rfl] at hcv
  subst hcv
  replace HC9:Hid (rc=(if cntM rows zeroV≤5000 then (if (clsG rows).length≤300 then 0 else 15) else 15)):=by rw [Hid,HC9.out,if_pos rfl]
  clear HCP HCV
  by_cases h5:cntM rows zeroV≤5000
  ·replace HC9:Hid (rc=(if (clsG rows).length≤300 then 0 else 15)):=by rw [Hid,HC9.out,if_pos h5]
   have h5':¬ (5000<(cntM rows zeroV:Int)):=by omega
   generalize cntM rows zeroV=cn at *
   obtain ⟨hlen,cs,hR⟩:=hC.rowsAt hp
   subst hlen
   replace hR:=hR.below bw
   have kX:=fun (W:World) (b:Below U.heap.size U W) (t:S4) (lb ob:Nat) (h:Vmem W t zeroV)=>classes_all (cap:=cap) hp 19 zeroV [] [] zero_shape (by have:=left_18 hp zeroV;omega) ⟨rfl,rfl⟩ (by simp) (by simp) W a cs t lb 0 0 ob 0 0 (hR.below b) h ⟨rfl,Nat.le_refl _,by unfold maxLen;omega,.inl rfl⟩ ⟨rfl,Nat.le_refl _,by unfold maxLen;omega,[],⟨rfl,fun j hj=>by simp at hj⟩,.inl rfl⟩
   simp only [List.length_nil] at kX
   generalize gatF rows 19 zeroV [] ([],true)=r at *
   clear hC hR hp
   go_wp2_with fail
   go_cut [6,7] from 8 (fun s6 s7 W=>CutCl U W r s6 s7)
   case first =>
    have bz:Below U.heap.size U U.drew:=by go_grown
    refine wp_region_held_drew (S:=(fun w'=>w'.cell? ⟨w.heap.size,0,none⟩=some (.slice a 3 cap))) (by kernel_rfl) (by simpa using pP.cell 0) (fun hS0=>?_)
    refine tkm 0 19 (.agg #[.slice a 3 cap]) ?_
    clear pP
    have hS:=hS0
    clear hS0
    generalize U.drew=V0 at *
    refine wpAnyH_ready (rs:=[1,2,3]) (by kernel_rfl) (by simp) ?_
    refine AllReadyH.cons (o:=⟨some 20,_,_,_,_,_⟩) rfl (fun K hK=>?_) (AllReadyH.cons (o:=⟨some 21,_,_,_,_,_⟩) rfl (fun K hK=>?_) (AllReadyH.cons (o:=⟨some 22,_,_,_,_,_⟩) rfl (fun K hK=>?_) AllReadyH.nil))
    ·go_simp
     refine (kN V0).mono ?_
     rintro e V1 ⟨⟨⟨⟨t0a,t0n,t0c⟩,⟨t1a,t1n,t1c⟩,⟨t2a,t2n,t2c⟩,⟨t3a,t3n,t3c⟩⟩,rfl,hO⟩,hb⟩
     have ut:S4.val ((t0a,t0n,t0c),(t1a,t1n,t1c),(t2a,t2n,t2c),(t3a,t3n,t3c))=.agg #[.slice t0a t0n t0c,.slice t1a t1n t1c,.slice t2a t2n t2c,.slice t3a t3n t3c]:=rfl
     rw [ut]
     have hS9:=cells_kept hb _ _ hS
     replace bz:=bel_trans bz hb
     go_wp2_with fail
     refine hK.out _ _ hS9 (fun _=>?_)
     clear hK hS hb
     have hS:=hS9
     clear hS9
     try simp only [Act.put,tka,tkb,tkc]
     refine wpAnyH_ready (rs:=[2,3]) (by kernel_rfl) (by simp) ?_
     refine AllReadyH.cons (o:=⟨some 21,_,_,_,_,_⟩) rfl (fun K hK=>?_) (AllReadyH.cons (o:=⟨some 22,_,_,_,_,_⟩) rfl (fun K hK=>?_) AllReadyH.nil)
     ·have hb:Below V1.heap.size V1 (V1.alloc (.cells #[] 3)):=by go_grown
      have hS9:=cells_kept hb _ _ hS
      replace bz:=bel_trans bz hb
      replace hO:=hO.below hb
      go_simp
      refine hK.out _ _ hS9 (fun _=>?_)
      clear hK hS hb
      have hS:=hS9
      clear hS9
      generalize (V1.alloc (.cells #[] 3))=V2 at *
      obtain ⟨L1,hL⟩:∃ x,x=V1.heap.size:=⟨_,rfl⟩
      rw [← hL]
      clear hL
      try simp only [Act.put,tka,tkb,tkc]
      refine tkr 3 22 (fun K hK=>?_)
      have hb:Below V2.heap.size V2 (V2.alloc (.cells #[] 27)):=by go_grown
      have hS9:=cells_kept hb _ _ hS
      replace bz:=bel_trans bz hb
      replace hO:=hO.below hb
      go_simp
      refine hK.out _ _ hS9 (fun _=>?_)
      clear hK hS hb
      have hS:=hS9
      clear hS9
      generalize (V2.alloc (.cells #[] 27))=V3 at *
      obtain ⟨O1,hL⟩:∃ x,x=V2.heap.size:=⟨_,rfl⟩
      rw [← hL]
      clear hL
      try simp only [Act.put,tka,tkb,tkc]
      refine tkr 4 23 (fun K hK=>?_)
      have kx:=kX V3 bz ((t0a,t0n,t0c),(t1a,t1n,t1c),(t2a,t2n,t2c),(t3a,t3n,t3c)) L1 O1 (hO.mem fz)
      rw [ut] at kx
      go_simp
      refine kx.mono ?_
      rintro e V9 ⟨⟨rb,ro,rn,rk,rfl,hRw⟩,hb⟩
      have hS0:=cells_kept hb _ _ hS
      replace bz:=bel_trans bz hb
      go_wp2_with fail
      refine hK.out _ _ hS0 (fun _=>?_)
      clear hK hS hb kx
      try simp only [Act.put,tka,tkb,tkc]
      refine tkm 5 18 (.tuple #[.slice (some ⟨rb,ro,none⟩) rn rk,.bool r.2]) ?_
      refine tkm 6 24 (.slice (some ⟨rb,ro,none⟩) rn rk) ?_
      refine tkm 7 25 (.bool r.2) ?_
      refine tkm 8 6 (.slice (some ⟨rb,ro,none⟩) rn rk) ?_
      refine tkm 9 7 (.bool r.2) ?_
      refine wpAnyH_done (by kernel_rfl) ?_ _
      go_wp2_with fail
      go_meet
      case rel=>exact ⟨rb,ro,rn,rk,rfl,rfl,hRw,bz⟩
     ·have hb:Below V1.heap.size V1 (V1.alloc (.cells #[] 27)):=by go_grown
      have hS9:=cells_kept hb _ _ hS
      replace bz:=bel_trans bz hb
      replace hO:=hO.below hb
      go_simp
      refine hK.out _ _ hS9 (fun _=>?_)
      clear hK hS hb
      have hS:=hS9
      clear hS9
      generalize (V1.alloc (.cells #[] 27))=V2 at *
      obtain ⟨O1,hL⟩:∃ x,x=V1.heap.size:=⟨_,rfl⟩
      rw [← hL]
      clear hL
      try simp only [Act.put,tka,tkb,tkc]
      refine tkr 2 21 (fun K hK=>?_)
      have hb:Below V2.heap.size V2 (V2.alloc (.cells #[] 3)):=by go_grown
      have hS9:=cells_kept hb _ _ hS
      replace bz:=bel_trans bz hb
      replace hO:=hO.below hb
      go_simp
      refine hK.out _ _ hS9 (fun _=>?_)
      clear hK hS hb
      have hS:=hS9
      clear hS9
      generalize (V2.alloc (.cells #[] 3))=V3 at *
      obtain ⟨L1,hL⟩:∃ x,x=V2.heap.size:=⟨_,rfl⟩
      rw [← hL]
      clear hL
      try simp only [Act.put,tka,tkb,tkc]
      refine tkr 4 23 (fun K hK=>?_)
      have kx:=kX V3 bz ((t0a,t0n,t0c),(t1a,t1n,t1c),(t2a,t2n,t2c),(t3a,t3n,t3c)) L1 O1 (hO.mem fz)
      rw [ut] at kx
      go_simp
      refine kx.mono ?_
      rintro e V9 ⟨⟨rb,ro,rn,rk,rfl,hRw⟩,hb⟩
      have hS0:=cells_kept hb _ _ hS
      replace bz:=bel_trans bz hb
      go_wp2_with fail
      refine hK.out _ _ hS0 (fun _=>?_)
      clear hK hS hb kx
      try simp only [Act.put,tka,tkb,tkc]
      refine tkm 5 18 (.tuple #[.slice (some ⟨rb,ro,none⟩) rn rk,.bool r.2]) ?_
      refine tkm 6 24 (.slice (some ⟨rb,ro,none⟩) rn rk) ?_
      refine tkm 7 25 (.bool r.2) ?_
      refine tkm 8 6 (.slice (some ⟨rb,ro,none⟩) rn rk) ?_
      refine tkm 9 7 (.bool r.2) ?_
      refine wpAnyH_done (by kernel_rfl) ?_ _
      go_wp2_with fail
      go_meet
      case rel=>exact ⟨rb,ro,rn,rk,rfl,rfl,hRw,bz⟩
    ·have hb:Below V0.heap.size V0 (V0.alloc (.cells #[] 3)):=by go_grown
     have hS9:=cells_kept hb _ _ hS
     replace bz:=bel_trans bz hb
     go_simp
     refine hK.out _ _ hS9 (fun _=>?_)
     clear hK hS hb
     have hS:=hS9
     clear hS9
     generalize (V0.alloc (.cells #[] 3))=V1 at *
     obtain ⟨L1,hL⟩:∃ x,x=V0.heap.size:=⟨_,rfl⟩
     rw [← hL]
     clear hL
     try simp only [Act.put,tka,tkb,tkc]
     refine wpAnyH_ready (rs:=[1,3]) (by kernel_rfl) (by simp) ?_
     refine AllReadyH.cons (o:=⟨some 20,_,_,_,_,_⟩) rfl (fun K hK=>?_) (AllReadyH.cons (o:=⟨some 22,_,_,_,_,_⟩) rfl (fun K hK=>?_) AllReadyH.nil)
     ·go_simp
      refine (kN V1).mono ?_
      rintro e V2 ⟨⟨⟨⟨t0a,t0n,t0c⟩,⟨t1a,t1n,t1c⟩,⟨t2a,t2n,t2c⟩,⟨t3a,t3n,t3c⟩⟩,rfl,hO⟩,hb⟩
      have ut:S4.val ((t0a,t0n,t0c),(t1a,t1n,t1c),(t2a,t2n,t2c),(t3a,t3n,t3c))=.agg #[.slice t0a t0n t0c,.slice t1a t1n t1c,.slice t2a t2n t2c,.slice t3a t3n t3c]:=rfl
      rw [ut]
      have hS9:=cells_kept hb _ _ hS
      replace bz:=bel_trans bz hb
      go_wp2_with fail
      refine hK.out _ _ hS9 (fun _=>?_)
      clear hK hS hb
      have hS:=hS9
      clear hS9
      try simp only [Act.put,tka,tkb,tkc]
      refine tkr 3 22 (fun K hK=>?_)
      have hb:Below V2.heap.size V2 (V2.alloc (.cells #[] 27)):=by go_grown
      have hS9:=cells_kept hb _ _ hS
      replace bz:=bel_trans bz hb
      replace hO:=hO.below hb
      go_simp
      refine hK.out _ _ hS9 (fun _=>?_)
      clear hK hS hb
      have hS:=hS9
      clear hS9
      generalize (V2.alloc (.cells #[] 27))=V3 at *
      obtain ⟨O1,hL⟩:∃ x,x=V2.heap.size:=⟨_,rfl⟩
      rw [← hL]
      clear hL
      try simp only [Act.put,tka,tkb,tkc]
      refine tkr 4 23 (fun K hK=>?_)
      have kx:=kX V3 bz ((t0a,t0n,t0c),(t1a,t1n,t1c),(t2a,t2n,t2c),(t3a,t3n,t3c)) L1 O1 (hO.mem fz)
      rw [ut] at kx
      go_simp
      refine kx.mono ?_
      rintro e V9 ⟨⟨rb,ro,rn,rk,rfl,hRw⟩,hb⟩
      have hS0:=cells_kept hb _ _ hS
      replace bz:=bel_trans bz hb
      go_wp2_with fail
      refine hK.out _ _ hS0 (fun _=>?_)
      clear hK hS hb kx
      try simp only [Act.put,tka,tkb,tkc]
      refine tkm 5 18 (.tuple #[.slice (some ⟨rb,ro,none⟩) rn rk,.bool r.2]) ?_
      refine tkm 6 24 (.slice (some ⟨rb,ro,none⟩) rn rk) ?_
      refine tkm 7 25 (.bool r.2) ?_
      refine tkm 8 6 (.slice (some ⟨rb,ro,none⟩) rn rk) ?_
      refine tkm 9 7 (.bool r.2) ?_
      refine wpAnyH_done (by kernel_rfl) ?_ _
      go_wp2_with fail
      go_meet
      case rel=>exact ⟨rb,ro,rn,rk,rfl,rfl,hRw,bz⟩
     ·have hb:Below V1.heap.size V1 (V1.alloc (.cells #[] 27)):=by go_grown
      have hS9:=cells_kept hb _ _ hS
      replace bz:=bel_trans bz hb
      go_simp
      refine hK.out _ _ hS9 (fun _=>?_)
      clear hK hS hb
      have hS:=hS9
      clear hS9
      generalize (V1.alloc (.cells #[] 27))=V2 at *
      obtain ⟨O1,hL⟩:∃ x,x=V1.heap.size:=⟨_,rfl⟩
      rw [← hL]
      clear hL
      try simp only [Act.put,tka,tkb,tkc]
      refine tkr 1 20 (fun K hK=>?_)
      go_simp
      refine (kN V2).mono ?_
      rintro e V3 ⟨⟨⟨⟨t0a,t0n,t0c⟩,⟨t1a,t1n,t1c⟩,⟨t2a,t2n,t2c⟩,⟨t3a,t3n,t3c⟩⟩,rfl,hO⟩,hb⟩
      have ut:S4.val ((t0a,t0n,t0c),(t1a,t1n,t1c),(t2a,t2n,t2c),(t3a,t3n,t3c))=.agg #[.slice t0a t0n t0c,.slice t1a t1n t1c,.slice t2a t2n t2c,.slice t3a t3n t3c]:=rfl
      rw [ut]
      have hS9:=cells_kept hb _ _ hS
      replace bz:=bel_trans bz hb
      go_wp2_with fail
      refine hK.out _ _ hS9 (fun _=>?_)
      clear hK hS hb
      have hS:=hS9
      clear hS9
      try simp only [Act.put,tka,tkb,tkc]
      refine tkr 4 23 (fun K hK=>?_)
      have kx:=kX V3 bz ((t0a,t0n,t0c),(t1a,t1n,t1c),(t2a,t2n,t2c),(t3a,t3n,t3c)) L1 O1 (hO.mem fz)
      rw [ut] at kx
      go_simp
      refine kx.mono ?_
      rintro e V9 ⟨⟨rb,ro,rn,rk,rfl,hRw⟩,hb⟩
      have hS0:=cells_kept hb _ _ hS
      replace bz:=bel_trans bz hb
      go_wp2_with fail
      refine hK.out _ _ hS0 (fun _=>?_)
      clear hK hS hb kx
      try simp only [Act.put,tka,tkb,tkc]
      refine tkm 5 18 (.tuple #[.slice (some ⟨rb,ro,none⟩) rn rk,.bool r.2]) ?_
      refine tkm 6 24 (.slice (some ⟨rb,ro,none⟩) rn rk) ?_
      refine tkm 7 25 (.bool r.2) ?_
      refine tkm 8 6 (.slice (some ⟨rb,ro,none⟩) rn rk) ?_
      refine tkm 9 7 (.bool r.2) ?_
      refine wpAnyH_done (by kernel_rfl) ?_ _
      go_wp2_with fail
      go_meet
      case rel=>exact ⟨rb,ro,rn,rk,rfl,rfl,hRw,bz⟩
    ·have hb:Below V0.heap.size V0 (V0.alloc (.cells #[] 27)):=by go_grown
     have hS9:=cells_kept hb _ _ hS
     replace bz:=bel_trans bz hb
     go_simp
     refine hK.out _ _ hS9 (fun _=>?_)
     clear hK hS hb
     have hS:=hS9
     clear hS9
     generalize (V0.alloc (.cells #[] 27))=V1 at *
     obtain ⟨O1,hL⟩:∃ x,x=V0.heap.size:=⟨_,rfl⟩
     rw [← hL]
     clear hL
     try simp only [Act.put,tka,tkb,tkc]
     refine wpAnyH_ready (rs:=[1,2]) (by kernel_rfl) (by simp) ?_
     refine AllReadyH.cons (o:=⟨some 20,_,_,_,_,_⟩) rfl (fun K hK=>?_) (AllReadyH.cons (o:=⟨some 21,_,_,_,_,_⟩) rfl (fun K hK=>?_) AllReadyH.nil)
     ·go_simp
      refine (kN V1).mono ?_
      rintro e V2 ⟨⟨⟨⟨t0a,t0n,t0c⟩,⟨t1a,t1n,t1c⟩,⟨t2a,t2n,t2c⟩,⟨t3a,t3n,t3c⟩⟩,rfl,hO⟩,hb⟩
      have ut:S4.val ((t0a,t0n,t0c),(t1a,t1n,t1c),(t2a,t2n,t2c),(t3a,t3n,t3c))=.agg #[.slice t0a t0n t0c,.slice t1a t1n t1c,.slice t2a t2n t2c,.slice t3a t3n t3c]:=rfl
      rw [ut]
      have hS9:=cells_kept hb _ _ hS
      replace bz:=bel_trans bz hb
      go_wp2_with fail
      refine hK.out _ _ hS9 (fun _=>?_)
      clear hK hS hb
      have hS:=hS9
      clear hS9
      try simp only [Act.put,tka,tkb,tkc]
      refine tkr 2 21 (fun K hK=>?_)
      have hb:Below V2.heap.size V2 (V2.alloc (.cells #[] 3)):=by go_grown
      have hS9:=cells_kept hb _ _ hS
      replace bz:=bel_trans bz hb
      replace hO:=hO.below hb
      go_simp
      refine hK.out _ _ hS9 (fun _=>?_)
      clear hK hS hb
      have hS:=hS9
      clear hS9
      generalize (V2.alloc (.cells #[] 3))=V3 at *
      obtain ⟨L1,hL⟩:∃ x,x=V2.heap.size:=⟨_,rfl⟩
      rw [← hL]
      clear hL
      try simp only [Act.put,tka,tkb,tkc]
      refine tkr 4 23 (fun K hK=>?_)
      have kx:=kX V3 bz ((t0a,t0n,t0c),(t1a,t1n,t1c),(t2a,t2n,t2c),(t3a,t3n,t3c)) L1 O1 (hO.mem fz)
      rw [ut] at kx
      go_simp
      refine kx.mono ?_
      rintro e V9 ⟨⟨rb,ro,rn,rk,rfl,hRw⟩,hb⟩
      have hS0:=cells_kept hb _ _ hS
      replace bz:=bel_trans bz hb
      go_wp2_with fail
      refine hK.out _ _ hS0 (fun _=>?_)
      clear hK hS hb kx
      try simp only [Act.put,tka,tkb,tkc]
      refine tkm 5 18 (.tuple #[.slice (some ⟨rb,ro,none⟩) rn rk,.bool r.2]) ?_
      refine tkm 6 24 (.slice (some ⟨rb,ro,none⟩) rn rk) ?_
      refine tkm 7 25 (.bool r.2) ?_
      refine tkm 8 6 (.slice (some ⟨rb,ro,none⟩) rn rk) ?_
      refine tkm 9 7 (.bool r.2) ?_
      refine wpAnyH_done (by kernel_rfl) ?_ _
      go_wp2_with fail
      go_meet
      case rel=>exact ⟨rb,ro,rn,rk,rfl,rfl,hRw,bz⟩
     ·have hb:Below V1.heap.size V1 (V1.alloc (.cells #[] 3)):=by go_grown
      have hS9:=cells_kept hb _ _ hS
      replace bz:=bel_trans bz hb
      go_simp
      refine hK.out _ _ hS9 (fun _=>?_)
      clear hK hS hb
      have hS:=hS9
      clear hS9
      generalize (V1.alloc (.cells #[] 3))=V2 at *
      obtain ⟨L1,hL⟩:∃ x,x=V1.heap.size:=⟨_,rfl⟩
      rw [← hL]
      clear hL
      try simp only [Act.put,tka,tkb,tkc]
      refine tkr 1 20 (fun K hK=>?_)
      go_simp
      refine (kN V2).mono ?_
      rintro e V3 ⟨⟨⟨⟨t0a,t0n,t0c⟩,⟨t1a,t1n,t1c⟩,⟨t2a,t2n,t2c⟩,⟨t3a,t3n,t3c⟩⟩,rfl,hO⟩,hb⟩
      have ut:S4.val ((t0a,t0n,t0c),(t1a,t1n,t1c),(t2a,t2n,t2c),(t3a,t3n,t3c))=.agg #[.slice t0a t0n t0c,.slice t1a t1n t1c,.slice t2a t2n t2c,.slice t3a t3n t3c]:=rfl
      rw [ut]
      have hS9:=cells_kept hb _ _ hS
      replace bz:=bel_trans bz hb
      go_wp2_with fail
      refine hK.out _ _ hS9 (fun _=>?_)
      clear hK hS hb
      have hS:=hS9
      clear hS9
      try simp only [Act.put,tka,tkb,tkc]
      refine tkr 4 23 (fun K hK=>?_)
      have kx:=kX V3 bz ((t0a,t0n,t0c),(t1a,t1n,t1c),(t2a,t2n,t2c),(t3a,t3n,t3c)) L1 O1 (hO.mem fz)
      rw [ut] at kx
      go_simp
      refine kx.mono ?_
      rintro e V9 ⟨⟨rb,ro,rn,rk,rfl,hRw⟩,hb⟩
      have hS0:=cells_kept hb _ _ hS
      replace bz:=bel_trans bz hb
      go_wp2_with fail
      refine hK.out _ _ hS0 (fun _=>?_)
      clear hK hS hb kx
      try simp only [Act.put,tka,tkb,tkc]
      refine tkm 5 18 (.tuple #[.slice (some ⟨rb,ro,none⟩) rn rk,.bool r.2]) ?_
      refine tkm 6 24 (.slice (some ⟨rb,ro,none⟩) rn rk) ?_
      refine tkm 7 25 (.bool r.2) ?_
      refine tkm 8 6 (.slice (some ⟨rb,ro,none⟩) rn rk) ?_
      refine tkm 9 7 (.bool r.2) ?_
      refine wpAnyH_done (by kernel_rfl) ?_ _
      go_wp2_with fail
      go_meet
      case rel=>exact ⟨rb,ro,rn,rk,rfl,rfl,hRw,bz⟩
   obtain ⟨rb,ro,rn,rk,rfl,rfl,hRw,bz⟩:=hcut
   replace bw:=bel_trans bw bz
   have hrn:=hRw.1
   clear kX kN pP bz fz
   obtain ⟨r1,r2⟩:=r
   simp only at hrn HGA ⊢
   cases r2
   ·have HF:Hid (rc=15∧rv=0):=by
     have h3:=HGA.out.2 rfl
     have e1:rc=15:=by rw [HC9.out,if_neg (by omega)]
     exact ⟨e1,by rw [HV9.out,e1];rfl⟩
    clear HC9 HV9 HGA hRw hrn
    go_wp2
    refine bodyPost_ret (by simp [results,Tryd.results22,go_sem];try rfl) rfl ?_
    exact ⟨by rw [HF.out.1,HF.out.2],bw⟩
   ·have HF:Hid (rc=0∧rv=(rn:Int)):=by
     obtain ⟨h3,h4⟩:=HGA.out.1 rfl
     have e1:rc=0:=by rw [HC9.out,if_pos h4]
     exact ⟨e1,by rw [HV9.out,if_pos e1,← h3,hrn]⟩
    clear HC9 HV9 HGA hRw hrn
    go_wp2
    refine bodyPost_ret (by simp [results,Tryd.results22,go_sem];try rfl) rfl ?_
    exact ⟨by rw [HF.out.1,HF.out.2],bw⟩
  ·have h5':5000<(cntM rows zeroV:Int):=by omega
   have HF:Hid (rc=15∧rv=0):=by
    have e1:rc=15:=by rw [HC9.out,if_neg h5]
    exact ⟨e1,by rw [HV9.out,e1];rfl⟩
   clear HC9 HV9 HGA
   go_wp2
   refine bodyPost_ret (by simp [results,Tryd.results22,go_sem];try rfl) rfl ?_
   exact ⟨by rw [HF.out.1,HF.out.2],bw⟩
 ·have hcn:(cf != 0)=true:=by simpa using hcf
  have HF:Hid (rc=cf∧rv=0):=by
   have e1:rc=cf:=by rw [HC9.out,if_neg hcf]
   exact ⟨e1,by rw [HV9.out,e1,if_neg hcf]⟩
  clear HC9 HV9 HCV HCP HGA
  go_wp2
  refine bodyPost_ret (by simp [results,Tryd.results22,go_sem];try rfl) rfl ?_
  exact ⟨by rw [HF.out.1,HF.out.2],bw⟩
theorem fnExactClassesOf_walk (a0:Option Addr) (n0 c0:Nat) (r0:List (List I3)) (w:World) (h0:Codes w a0 n0 c0 r0) (hG:VmShape w) :
  Calls Tryd.prog 5 #[.agg #[.slice a0 n0 c0]] w fun e w'=>e=.returned (.bool true)∧Below w.heap.size w w':=
 fnExactClassesOf_of a0 n0 c0 r0 (clsV r0) (clsC r0) w h0 hG (fun a n c w hC=>specClassesOf_is a n c r0 w hC) (fun a n c w hC hV=>implClassesOf_is a n c r0 w hC hV)
theorem fnExactClassesOf_laid {W:World} (h:laidMetH Tryd.prog Rows.fnExactClassesOfRow.laid W):VmShape W:=vmShape_of_laid rfl h
theorem fnExactClassesOf_door_met (os:Os) (args:Array Value):laidMetH Tryd.prog Rows.fnExactClassesOfRow.laid ((World.doorLaid Tryd.prog 400 os).forCall (fun _ _=>0) ⟨#[],args,[]⟩).memory:=
 laidMetH_of_parts3 (fuel:=8) (laidMet_of_run' 8 (by kernel_rfl) (by kernel_rfl)) (by kernel_rfl) (by kernel_rfl)


def varsFit (P:Program) (ns:List String):Bool:=ns.all fun n =>
 match P.globalNamed n with
 | some g=>match (P.globals[g]?).map (·.type) with
  | some t=>P.readableRec t && decide (t<P.types.size)
  | none=>false
 | none=>false

theorem var?_lt {P:Program} {W:World} {n:String} {g:Nat} {cs:Array Value} (hg:P.globalNamed n=some g) (hv:W.var? P n=some cs):g<W.heap.size:=by
 rcases Nat.lt_or_ge g W.heap.size with h | h
 ·exact h
 ·unfold World.var? at hv
  simp [hg,Array.getElem?_eq_none h] at hv

theorem vars_below {H:Type} {enc:TypeId × Value→H} {P:Program} {W W':World} (hl:laidOutB P=true) (bel:Below W.heap.size W W') :
  ∀ {ns:List String} {gs:List (DataW H)} {ps:List MemPlace},varsFit P ns=true→DataW.TrodVars enc P W (fun _=>true) ns gs ps→DataW.TrodVars enc P W' (fun b=>decide (b<W.heap.size)) ns gs ps
 | [],[],ps,_,h=>h
 | [],_::_,_,_,h=>by cases h
 | _::_,[],_,_,h=>by cases h
 | n::ns,d::ds,ps,hf,h=>by
  obtain ⟨g,t,cs,fuel,p,q,hg,ht,hv,hd,hr,e⟩:=h
  simp only [varsFit,List.all_cons,Bool.and_eq_true] at hf
  obtain ⟨hf1,hf2⟩:=hf
  rw [hg] at hf1
  simp only [ht,Bool.and_eq_true,decide_eq_true_eq] at hf1
  obtain ⟨fuel',hd'⟩:=Below.trod hl hf1.1 hf1.2 (v:=.agg cs) (⟨fuel,by simpa [Value.cells] using hd⟩:DataW.Trod enc P W 0 (fun _=>true) true t (.agg cs) d p) bel (DataW.trod_lt fuel _ _ _ hd)
  exact ⟨g,t,cs,fuel',p,q,hg,ht,var?_below bel hg (var?_lt hg hv) hv,by simpa [Value.cells] using hd',vars_below hl bel hf2 hr,e⟩

theorem vars_len {H:Type} {enc:TypeId × Value→H} {P:Program} {W:World} {spare:Nat→Bool}:∀ {ns:List String} {gs:List (DataW H)} {ps:List MemPlace},DataW.TrodVars enc P W spare ns gs ps→gs.length=ns.length
 | [],[],_,_=>rfl
 | [],_::_,_,h=>by cases h
 | _::_,[],_,h=>by cases h
 | _::_,_::_,_,h=>by
  obtain ⟨_,_,_,_,_,_,_,_,_,_,hr,_⟩:=h
  simp [vars_len hr]
end Go.Proofs.YtjgffnlmjmibgaaDoor
