/-
  Joined: FulB, CnrW.
-/
import Derived.Test.YtfpopbbmnbehiaaDoorA34
import Derived.Test.YtfpopbbmnbehiaaDoorA41

namespace Go.Proofs.YtfpopbbmnbehiaaDoor
set_option maxRecDepth 100000
set_option maxHeartbeats 16000000
set_option linter.unusedVariables false

def remM (rows:List (List I3)) (m:V4) (k:Nat):Nat:=(codeM rows k).length - (m.1.getD k 0).toNat
theorem rem_step {rows:List (List I3)} {m:V4} (hp:progOk rows=true) (hs:shapeOk m=true) {k:Nat} (hk:k<3) (hd:doneM rows m k=false) :
  remM rows (goM rows m k).1 k+1≤remM rows m k∧∀ j,j≠k→remM rows (goM rows m k).1 j=remM rows m j:=by
 have h1:=stepM_own hp hs hk hd
 have hb:=shape_bounds hs
 have hpc:=getD_in hb.1 (by omega) k
 have hlt:m.1.getD k 0<(codeM rows k).length:=by
  unfold doneM at hd
  rw [decide_eq_false_iff_not] at hd
  omega
 rw [goM_natC]
 refine ⟨?_,fun j hj=>?_⟩
 ·unfold remM
  omega
 ·unfold remM
  rw [stepM_other m _ hj]

open Go.RowKit
set_option linter.unusedSimpArgs false

theorem fnExactCountRuns_of (a0:Option Addr) (n0 c0:Nat) (r0:List (List I3)) (x0:Int) (x1:Int) (w:World) (h0:Codes w a0 n0 c0 r0) (hG:VmShape w)
  (kS:∀ (a0:Option Addr) (n0 c0:Nat) (w:World),Codes w a0 n0 c0 r0→Calls Tryd.prog 22 #[.agg #[.slice a0 n0 c0]] w fun e w'=>e=.returned (.tuple #[.int .i64 x0,.int .i64 x1])∧Below w.heap.size w w')
  (kI:∀ (a0:Option Addr) (n0 c0:Nat) (w:World),Codes w a0 n0 c0 r0→VmShape w→Calls Tryd.prog 23 #[.agg #[.slice a0 n0 c0]] w fun e w'=>e=.returned (.tuple #[.int .i64 x0,.int .i64 x1])∧Below w.heap.size w w') :
  Calls Tryd.prog 5 #[.agg #[.slice a0 n0 c0]] w fun e w'=>e=.returned (.bool true)∧Below w.heap.size w w':=by
 have kT:=fun W h=>toProgram_copy a0 n0 c0 r0 W h
 have bw:Below w.heap.size w (w.alloc (.cells #[.slice a0 n0 c0] 24)):=by go_grown
 have p0:Blk (w.alloc (.cells #[.slice a0 n0 c0] 24)) w.heap.size 24 [.slice a0 n0 c0]:=blkAt _ _ _ rfl
 go_enter Tryd.func5,Tryd.ntmps5
 go_wp2_with fail
 generalize (w.alloc (.cells #[.slice a0 n0 c0] 24))=W0 at *
 go_wp2_with (first | refine wpList_load_blk rfl 24 _ rfl w.heap.size rfl p0 _ Tryd.underlying24 rfl (by kernel_rfl) ?_)
 have hz:=sizeLeft_or r0 1048576 (by omega)
 have hbd:=size_bounds (rows:=r0) (left:=1048576) (by omega)
 refine (szProgram_less a0 n0 c0 r0 1048576 _ (h0.below bw) (by omega) (by omega)).mono ?_
 rintro e wz ⟨rfl,hb⟩
 generalize sizeLeft 1048576 r0=zl at hz hbd
 replace bw:=bel_trans bw hb
 replace p0:=p0.below hb
 clear hb
 rcases hz with rfl | ⟨yl,xl⟩
 ·clear hbd
  go_wp2
  go_ret
  exact ⟨rfl,bw⟩
 obtain ⟨hr,hr'⟩:=hbd yl (by omega)
 have hlen:n0≤1048576:=by rw [← h0.1];exact hr
 replace kT:=fun W h=>kT W h hlen (fun t _=>hr' t)
 clear hbd hr hr' hlen
 have hn0:decide (zl<0)=false:=by simp;omega
 go_wp2_with (first | refine wpList_load_blk rfl 24 _ rfl w.heap.size rfl p0 _ Tryd.underlying24 rfl (by kernel_rfl) ?_)
 refine (kT _ (h0.below bw)).mono ?_
 rintro e wa ⟨rfl,hO,hb⟩
 have hA:=hO.codes
 clear hO
 generalize wz.heap.size+3=ga at hA ⊢
 replace bw:=bel_trans bw hb
 replace p0:=p0.below hb
 clear hb
 go_wp2_with fail
 refine (kS _ _ _ _ hA).mono ?_
 rintro e wr ⟨rfl,hb⟩
 replace bw:=bel_trans bw hb
 replace p0:=p0.below hb
 clear hb hA kS
 go_wp2_with (first | refine wpList_load_blk rfl 24 _ rfl w.heap.size rfl p0 _ Tryd.underlying24 rfl (by kernel_rfl) ?_)
 refine (kT _ (h0.below bw)).mono ?_
 rintro e wx ⟨rfl,hO,hb⟩
 have hX:=hO.codes
 clear hO
 generalize wr.heap.size+3=gx at hX ⊢
 replace bw:=bel_trans bw hb
 replace p0:=p0.below hb
 clear hb
 have ha:Below wx.heap.size wx (wx.alloc (.cells #[.slice (some ⟨gx,0,none⟩) n0 n0] 31)):=by go_grown
 have pX:Blk (wx.alloc (.cells #[.slice (some ⟨gx,0,none⟩) n0 n0] 31)) wx.heap.size 31 [.slice (some ⟨gx,0,none⟩) n0 n0]:=blkAt _ _ _ rfl
 replace bw:=bel_trans bw ha
 replace p0:=p0.below ha
 replace hX:=hX.below ha
 clear ha
 have hne0:(x0 != x0)=false:=by simp
 have hne1:(x1 != x1)=false:=by simp
 go_wp2_with (first | refine wpList_load_blk rfl 31 _ rfl wx.heap.size rfl pX _ Tryd.underlying31 rfl (by kernel_rfl) ?_)
 generalize (wx.alloc (.cells #[.slice (some ⟨gx,0,none⟩) n0 n0] 31))=wp at *
 generalize wx.heap.size=GX at *
 refine (kI _ _ _ _ hX (hG.below bw)).mono ?_
 rintro e wj ⟨rfl,hb⟩
 replace bw:=bel_trans bw hb
 replace p0:=p0.below hb
 replace hX:=hX.below hb
 replace pX:=pX.below hb
 clear hb kI
 have c9:=pX.cell 0
 have c8:=p0.cell 0
 simp only [List.getElem?_cons_zero,List.getElem?_cons_succ] at c9 c8
 go_wp2_with fail
 have hdr:Below wj.heap.size wj wj.drew:=by go_grown
 have bd:=bel_trans bw hdr
 refine wp_region_held_drew (S:=(fun w'=>w'.cell? ⟨GX,0,none⟩=some (.slice (some ⟨gx,0,none⟩) n0 n0)∧w'.cell? ⟨w.heap.size,0,none⟩=some (.slice a0 n0 c0))) (by kernel_rfl) ⟨c9,c8⟩ (fun hS0=>?_)
 refine tkm 0 35 (.agg #[.slice (some ⟨gx,0,none⟩) n0 n0]) ?_
 refine tkm 1 36 (.agg #[.slice a0 n0 c0]) ?_
 refine tkr 2 37 (fun K hK=>?_)
 go_simp
 refine (kT _ (h0.below bd)).mono ?_
 rintro e wk ⟨rfl,hO,hb1⟩
 go_wp2_with fail
 refine hK.out _ _ ?_ (fun hS1=>?_)
 ·exact ⟨cells_kept hb1 _ _ hS0.1,cells_kept hb1 _ _ hS0.2⟩
 clear hK
 have hK9:=hO.codes
 clear hO
 refine tkr 3 38 (fun K hK=>?_)
 go_simp
 refine (eqProgram_same _ _ _ _ _ r0 _ (hX.below (bel_trans hdr hb1)) hK9).mono ?_
 rintro e wl ⟨rfl,hb2⟩
 go_wp2_with fail
 refine hK.out _ _ ?_ (fun hS2=>?_)
 ·exact ⟨cells_kept hb2 _ _ hS1.1,cells_kept hb2 _ _ hS1.2⟩
 clear hK
 refine tkm 4 39 (.bool false) ?_
 refine wpAnyH_done (by kernel_rfl) ?_ _
 have hb9:Below wj.heap.size wj wl:=bel_trans hdr (bel_trans hb1 hb2)
 replace bw:=bel_trans bw hb9
 clear hb9 hb1 hb2 hdr bd hS0 hS1 hS2 c9 c8 hX pX p0 kT hK9
 go_wp2
 go_ret
 exact ⟨rfl,bw⟩
end Go.Proofs.YtfpopbbmnbehiaaDoor
