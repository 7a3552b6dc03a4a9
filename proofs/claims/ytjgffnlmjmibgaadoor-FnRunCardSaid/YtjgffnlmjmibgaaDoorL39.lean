/-
  Joined: RpF.
-/
import Derived.Test.YtjgffnlmjmibgaaDoorL38

namespace Go.Proofs.YtjgffnlmjmibgaaDoor
set_option maxRecDepth 100000
set_option maxHeartbeats 16000000
open Go.RowKit
set_option linter.unusedVariables false
set_option linter.unusedSimpArgs false

theorem newReplay_of (a:Option Addr) (len cap:Nat) (w:World) (c:Int) (da0:Option Addr) (dn0 dc0:Nat) (da1:Option Addr) (dn1 dc1:Nat) (da2:Option Addr) (dn2 dc2:Nat) (p0 p1 p2 v0 v1 v2 v3 h0 h1 x0 y0 x1 y1 x2 y2:Int)
  (kM:∀ (W:World) (s:S4),Below w.heap.size w W→Vmem W s zeroV→Calls Tryd.prog 50 #[.agg #[.slice a len cap],s.val] W fun e w'=>e=.returned (.tuple #[.agg #[.slice da0 dn0 dc0,.int .i64 p0,.int .i64 x0,.int .i64 y0,.slice da1 dn1 dc1,.int .i64 p1,.int .i64 x1,.int .i64 y1,.slice da2 dn2 dc2,.int .i64 p2,.int .i64 x2,.int .i64 y2,.int .i64 v0,.int .i64 v1,.int .i64 v2,.int .i64 v3,.int .i64 h0,.int .i64 h1],.int .i64 c])∧Below W.heap.size W w') :
  Calls Tryd.prog 27 #[.agg #[.slice a len cap]] w fun e w'=>e=.returned (.tuple #[.agg #[.slice da0 dn0 dc0,.int .i64 p0,.int .i64 x0,.int .i64 y0,.slice da1 dn1 dc1,.int .i64 p1,.int .i64 x1,.int .i64 y1,.slice da2 dn2 dc2,.int .i64 p2,.int .i64 x2,.int .i64 y2,.int .i64 v0,.int .i64 v1,.int .i64 v2,.int .i64 v3,.int .i64 h0,.int .i64 h1,.slice none 0 0],.int .i64 c])∧Below w.heap.size w w':=by
 have fz:=(shape_fits9 zero_shape).1
 have kN:=implNewVm_is
 have bw:Below w.heap.size w ((w.alloc (.cells #[.slice a len cap] 25)).alloc (.cells #[.slice none 0 0,.int .i64 0,.int .i64 0,.int .i64 0,.slice none 0 0,.int .i64 0,.int .i64 0,.int .i64 0,.slice none 0 0,.int .i64 0,.int .i64 0,.int .i64 0,.int .i64 0,.int .i64 0,.int .i64 0,.int .i64 0,.int .i64 0,.int .i64 0,.slice none 0 0] 71)):=by go_grown
 have pP:Blk ((w.alloc (.cells #[.slice a len cap] 25)).alloc (.cells #[.slice none 0 0,.int .i64 0,.int .i64 0,.int .i64 0,.slice none 0 0,.int .i64 0,.int .i64 0,.int .i64 0,.slice none 0 0,.int .i64 0,.int .i64 0,.int .i64 0,.int .i64 0,.int .i64 0,.int .i64 0,.int .i64 0,.int .i64 0,.int .i64 0,.slice none 0 0] 71)) w.heap.size 25 [.slice a len cap]:=blkOld _ (blkAt _ _ _ rfl)
 have pR:Blk ((w.alloc (.cells #[.slice a len cap] 25)).alloc (.cells #[.slice none 0 0,.int .i64 0,.int .i64 0,.int .i64 0,.slice none 0 0,.int .i64 0,.int .i64 0,.int .i64 0,.slice none 0 0,.int .i64 0,.int .i64 0,.int .i64 0,.int .i64 0,.int .i64 0,.int .i64 0,.int .i64 0,.int .i64 0,.int .i64 0,.slice none 0 0] 71)) (w.heap.size+1) 71 [.slice none 0 0,.int .i64 0,.int .i64 0,.int .i64 0,.slice none 0 0,.int .i64 0,.int .i64 0,.int .i64 0,.slice none 0 0,.int .i64 0,.int .i64 0,.int .i64 0,.int .i64 0,.int .i64 0,.int .i64 0,.int .i64 0,.int .i64 0,.int .i64 0,.slice none 0 0]:=blkAt _ _ _ (by simp)
 have hsz:w.heap.size+2≤((w.alloc (.cells #[.slice a len cap] 25)).alloc (.cells #[.slice none 0 0,.int .i64 0,.int .i64 0,.int .i64 0,.slice none 0 0,.int .i64 0,.int .i64 0,.int .i64 0,.slice none 0 0,.int .i64 0,.int .i64 0,.int .i64 0,.int .i64 0,.int .i64 0,.int .i64 0,.int .i64 0,.int .i64 0,.int .i64 0,.slice none 0 0] 71)).heap.size:=by simp
 go_enter Tryd.func27,Tryd.ntmps27
 go_wp2_with fail
 generalize ((w.alloc (.cells #[.slice a len cap] 25)).alloc (.cells #[.slice none 0 0,.int .i64 0,.int .i64 0,.int .i64 0,.slice none 0 0,.int .i64 0,.int .i64 0,.int .i64 0,.slice none 0 0,.int .i64 0,.int .i64 0,.int .i64 0,.int .i64 0,.int .i64 0,.int .i64 0,.int .i64 0,.int .i64 0,.int .i64 0,.slice none 0 0] 71))=U at *
 have cP:U.cell? ⟨w.heap.size,0,none⟩=some (.slice a len cap):=by simpa using pP.cell 0
 refine wp_region_held_drew (S:=(fun w'=>w'.cell? ⟨w.heap.size,0,none⟩=some (.slice a len cap))) (by kernel_rfl) cP (fun hS0=>?_)
 refine tkm 0 7 (.agg #[.slice a len cap]) ?_
 refine wpAnyH_ready (rs:=[1,6]) (by kernel_rfl) (by simp) ?_
 refine AllReadyH.cons (o:=⟨some 8,_,_,_,_,_⟩) rfl (fun K hK=>?_) (AllReadyH.cons (o:=⟨some 4,_,_,_,_,_⟩) rfl (fun K hK=>?_) AllReadyH.nil)
 ·have hdr:Below U.heap.size U U.drew:=by go_grown
  replace cP:=cells_kept hdr _ _ cP
  replace pP:=pP.below hdr
  replace pR:=pR.below hdr
  replace bw:=bel_trans bw hdr
  replace hsz:w.heap.size+2≤U.drew.heap.size:=hsz
  clear hdr
  generalize U.drew=Ud at *
  go_simp
  refine (kN _).mono ?_
  rintro e U1 ⟨⟨s4,rfl,hO⟩,hb⟩
  replace cP:=cells_kept hb _ _ cP
  replace pP:=pP.below hb
  replace pR:=pR.below hb
  replace bw:=bel_trans bw hb
  replace hsz:w.heap.size+2≤U1.heap.size:=Nat.le_trans hsz hb.size
  go_wp2_with fail
  refine hK.out _ _ cP (fun hS1=>?_)
  clear hK hb
  try simp only [Act.put,tka,tkb,tkc]
  refine wpAnyH_ready (rs:=[2,6]) (by kernel_rfl) (by simp) ?_
  refine AllReadyH.cons (o:=⟨some 9,_,_,_,_,_⟩) rfl (fun K hK=>?_) (AllReadyH.cons (o:=⟨some 4,_,_,_,_,_⟩) rfl (fun K hK=>?_) AllReadyH.nil)
  ·go_simp
   refine (kM _ s4 bw (hO.mem fz)).mono ?_
   rintro e U2 ⟨rfl,hb⟩
   replace cP:=cells_kept hb _ _ cP
   replace pP:=pP.below hb
   replace pR:=pR.below hb
   replace bw:=bel_trans bw hb
   replace hO:=hO.below hb
   replace hsz:w.heap.size+2≤U2.heap.size:=Nat.le_trans hsz hb.size
   go_wp2_with fail
   refine hK.out _ _ cP (fun hS2=>?_)
   clear hK hb
   try simp only [Act.put,tka,tkb,tkc]
   refine tkm 3 6 (.tuple #[.agg #[.slice da0 dn0 dc0,.int .i64 p0,.int .i64 x0,.int .i64 y0,.slice da1 dn1 dc1,.int .i64 p1,.int .i64 x1,.int .i64 y1,.slice da2 dn2 dc2,.int .i64 p2,.int .i64 x2,.int .i64 y2,.int .i64 v0,.int .i64 v1,.int .i64 v2,.int .i64 v3,.int .i64 h0,.int .i64 h1],.int .i64 c]) ?_
   refine tkm 4 10 (.agg #[.slice da0 dn0 dc0,.int .i64 p0,.int .i64 x0,.int .i64 y0,.slice da1 dn1 dc1,.int .i64 p1,.int .i64 x1,.int .i64 y1,.slice da2 dn2 dc2,.int .i64 p2,.int .i64 x2,.int .i64 y2,.int .i64 v0,.int .i64 v1,.int .i64 v2,.int .i64 v3,.int .i64 h0,.int .i64 h1]) ?_
   refine tkm 5 11 (.int .i64 c) ?_
   refine tkr 6 4 (fun K hK=>?_)
   have hb:Below U2.heap.size U2 (U2.alloc (.cells #[.slice none 0 0,.int .i64 0,.int .i64 0,.int .i64 0,.slice none 0 0,.int .i64 0,.int .i64 0,.int .i64 0,.slice none 0 0,.int .i64 0,.int .i64 0,.int .i64 0,.int .i64 0,.int .i64 0,.int .i64 0,.int .i64 0,.int .i64 0,.int .i64 0] 69)):=by go_grown
   have pM:Blk (U2.alloc (.cells #[.slice none 0 0,.int .i64 0,.int .i64 0,.int .i64 0,.slice none 0 0,.int .i64 0,.int .i64 0,.int .i64 0,.slice none 0 0,.int .i64 0,.int .i64 0,.int .i64 0,.int .i64 0,.int .i64 0,.int .i64 0,.int .i64 0,.int .i64 0,.int .i64 0] 69)) U2.heap.size 69 [.slice none 0 0,.int .i64 0,.int .i64 0,.int .i64 0,.slice none 0 0,.int .i64 0,.int .i64 0,.int .i64 0,.slice none 0 0,.int .i64 0,.int .i64 0,.int .i64 0,.int .i64 0,.int .i64 0,.int .i64 0,.int .i64 0,.int .i64 0,.int .i64 0]:=blkAt _ _ _ rfl
   replace cP:=cells_kept hb _ _ cP
   replace pP:=pP.below hb
   replace pR:=pR.below hb
   replace bw:=bel_trans bw hb
   replace hO:=hO.below hb
   have hXM:w.heap.size+2≤U2.heap.size:=hsz
   replace hsz:w.heap.size+2≤(U2.alloc (.cells #[.slice none 0 0,.int .i64 0,.int .i64 0,.int .i64 0,.slice none 0 0,.int .i64 0,.int .i64 0,.int .i64 0,.slice none 0 0,.int .i64 0,.int .i64 0,.int .i64 0,.int .i64 0,.int .i64 0,.int .i64 0,.int .i64 0,.int .i64 0,.int .i64 0] 69)).heap.size:=Nat.le_trans hsz hb.size
   go_simp
   refine hK.out _ _ cP (fun hS3=>?_)
   clear hK hb
   generalize (U2.alloc (.cells #[.slice none 0 0,.int .i64 0,.int .i64 0,.int .i64 0,.slice none 0 0,.int .i64 0,.int .i64 0,.int .i64 0,.slice none 0 0,.int .i64 0,.int .i64 0,.int .i64 0,.int .i64 0,.int .i64 0,.int .i64 0,.int .i64 0,.int .i64 0,.int .i64 0] 69))=U3 at *
   generalize U2.heap.size=XM at *
   try simp only [Act.put,tka,tkb,tkc]
   refine tkz 7 (fun K hK=>?_)
   refine step_store_blkD rfl 69 _ _ rfl XM [.slice da0 dn0 dc0,.int .i64 p0,.int .i64 x0,.int .i64 y0,.slice da1 dn1 dc1,.int .i64 p1,.int .i64 x1,.int .i64 y1,.slice da2 dn2 dc2,.int .i64 p2,.int .i64 x2,.int .i64 y2,.int .i64 v0,.int .i64 v1,.int .i64 v2,.int .i64 v3,.int .i64 h0,.int .i64 h1] rfl rfl pM (by kernel_rfl) rfl rfl ?_
   intro U9 pM2 g2
   have hne:w.heap.size≠XM:=by omega
   have hne1:w.heap.size+1≠XM:=by omega
   replace pP:=pP.kept g2 (fun e=>hne (by cases e;rfl))
   replace pR:=pR.kept g2 (fun e=>hne1 (by cases e;rfl))
   replace bw:=bw.grown g2 bw.size (fun k e=>by cases e;omega)
   refine hK.out _ _ (by simpa using pP.cell 0) (fun hS9=>?_)
   clear hK hO
   try simp only [Act.put,tka,tkb,tkc]
   refine tkm 8 5 (.int .i64 c) ?_
   refine wpAnyH_done (by kernel_rfl) ?_ _
   clear hS9 cP hS0 pM
   have pM:=pM2.out
   clear pM2 pP
   go_wp2_with (first | refine wpList_load_blk rfl 69 _ rfl XM rfl pM _ Tryd.underlying69 rfl (by kernel_rfl) ?_ | refine wpList_store_blk rfl 71 _ _ rfl (w.heap.size+1) [.slice da0 dn0 dc0,.int .i64 p0,.int .i64 x0,.int .i64 y0,.slice da1 dn1 dc1,.int .i64 p1,.int .i64 x1,.int .i64 y1,.slice da2 dn2 dc2,.int .i64 p2,.int .i64 x2,.int .i64 y2,.int .i64 v0,.int .i64 v1,.int .i64 v2,.int .i64 v3,.int .i64 h0,.int .i64 h1,.slice none 0 0] rfl rfl pR (by kernel_rfl) rfl rfl ?_)
   intro U10 pR2 g3
   have bw2:=bw.grown g3 bw.size (fun k e=>by cases e;omega)
   clear bw g2 g3 pM pR
   go_wp2_with fail
   refine bodyPost_ret (results_blk2 Tryd.results27 _ _ _ _ _ _ rfl pR2.out Tryd.underlying71 rfl (by kernel_rfl)) rfl ?_
   exact ⟨rfl,bw2⟩
  ·have hb:Below U1.heap.size U1 (U1.alloc (.cells #[.slice none 0 0,.int .i64 0,.int .i64 0,.int .i64 0,.slice none 0 0,.int .i64 0,.int .i64 0,.int .i64 0,.slice none 0 0,.int .i64 0,.int .i64 0,.int .i64 0,.int .i64 0,.int .i64 0,.int .i64 0,.int .i64 0,.int .i64 0,.int .i64 0] 69)):=by go_grown
   have pM:Blk (U1.alloc (.cells #[.slice none 0 0,.int .i64 0,.int .i64 0,.int .i64 0,.slice none 0 0,.int .i64 0,.int .i64 0,.int .i64 0,.slice none 0 0,.int .i64 0,.int .i64 0,.int .i64 0,.int .i64 0,.int .i64 0,.int .i64 0,.int .i64 0,.int .i64 0,.int .i64 0] 69)) U1.heap.size 69 [.slice none 0 0,.int .i64 0,.int .i64 0,.int .i64 0,.slice none 0 0,.int .i64 0,.int .i64 0,.int .i64 0,.slice none 0 0,.int .i64 0,.int .i64 0,.int .i64 0,.int .i64 0,.int .i64 0,.int .i64 0,.int .i64 0,.int .i64 0,.int .i64 0]:=blkAt _ _ _ rfl
   replace cP:=cells_kept hb _ _ cP
   replace pP:=pP.below hb
   replace pR:=pR.below hb
   replace bw:=bel_trans bw hb
   replace hO:=hO.below hb
   have hXM:w.heap.size+2≤U1.heap.size:=hsz
   replace hsz:w.heap.size+2≤(U1.alloc (.cells #[.slice none 0 0,.int .i64 0,.int .i64 0,.int .i64 0,.slice none 0 0,.int .i64 0,.int .i64 0,.int .i64 0,.slice none 0 0,.int .i64 0,.int .i64 0,.int .i64 0,.int .i64 0,.int .i64 0,.int .i64 0,.int .i64 0,.int .i64 0,.int .i64 0] 69)).heap.size:=Nat.le_trans hsz hb.size
   go_simp
   refine hK.out _ _ cP (fun hS4=>?_)
   clear hK hb
   generalize (U1.alloc (.cells #[.slice none 0 0,.int .i64 0,.int .i64 0,.int .i64 0,.slice none 0 0,.int .i64 0,.int .i64 0,.int .i64 0,.slice none 0 0,.int .i64 0,.int .i64 0,.int .i64 0,.int .i64 0,.int .i64 0,.int .i64 0,.int .i64 0,.int .i64 0,.int .i64 0] 69))=U4 at *
   generalize U1.heap.size=XM at *
   try simp only [Act.put,tka,tkb,tkc]
   refine tkr 2 9 (fun K hK=>?_)
   go_simp
   refine (kM _ s4 bw (hO.mem fz)).mono ?_
   rintro e U5 ⟨rfl,hb⟩
   replace cP:=cells_kept hb _ _ cP
   replace pP:=pP.below hb
   replace pR:=pR.below hb
   replace bw:=bel_trans bw hb
   replace pM:=pM.below hb
   replace hO:=hO.below hb
   replace hsz:w.heap.size+2≤U5.heap.size:=Nat.le_trans hsz hb.size
   go_wp2_with fail
   refine hK.out _ _ cP (fun hS5=>?_)
   clear hK hb
   try simp only [Act.put,tka,tkb,tkc]
   refine tkm 3 6 (.tuple #[.agg #[.slice da0 dn0 dc0,.int .i64 p0,.int .i64 x0,.int .i64 y0,.slice da1 dn1 dc1,.int .i64 p1,.int .i64 x1,.int .i64 y1,.slice da2 dn2 dc2,.int .i64 p2,.int .i64 x2,.int .i64 y2,.int .i64 v0,.int .i64 v1,.int .i64 v2,.int .i64 v3,.int .i64 h0,.int .i64 h1],.int .i64 c]) ?_
   refine tkm 4 10 (.agg #[.slice da0 dn0 dc0,.int .i64 p0,.int .i64 x0,.int .i64 y0,.slice da1 dn1 dc1,.int .i64 p1,.int .i64 x1,.int .i64 y1,.slice da2 dn2 dc2,.int .i64 p2,.int .i64 x2,.int .i64 y2,.int .i64 v0,.int .i64 v1,.int .i64 v2,.int .i64 v3,.int .i64 h0,.int .i64 h1]) ?_
   refine tkm 5 11 (.int .i64 c) ?_
   refine tkz 7 (fun K hK=>?_)
   refine step_store_blkD rfl 69 _ _ rfl XM [.slice da0 dn0 dc0,.int .i64 p0,.int .i64 x0,.int .i64 y0,.slice da1 dn1 dc1,.int .i64 p1,.int .i64 x1,.int .i64 y1,.slice da2 dn2 dc2,.int .i64 p2,.int .i64 x2,.int .i64 y2,.int .i64 v0,.int .i64 v1,.int .i64 v2,.int .i64 v3,.int .i64 h0,.int .i64 h1] rfl rfl pM (by kernel_rfl) rfl rfl ?_
   intro U9 pM2 g2
   have hne:w.heap.size≠XM:=by omega
   have hne1:w.heap.size+1≠XM:=by omega
   replace pP:=pP.kept g2 (fun e=>hne (by cases e;rfl))
   replace pR:=pR.kept g2 (fun e=>hne1 (by cases e;rfl))
   replace bw:=bw.grown g2 bw.size (fun k e=>by cases e;omega)
   refine hK.out _ _ (by simpa using pP.cell 0) (fun hS9=>?_)
   clear hK hO
   try simp only [Act.put,tka,tkb,tkc]
   refine tkm 8 5 (.int .i64 c) ?_
   refine wpAnyH_done (by kernel_rfl) ?_ _
   clear hS9 cP hS0 pM
   have pM:=pM2.out
   clear pM2 pP
   go_wp2_with (first | refine wpList_load_blk rfl 69 _ rfl XM rfl pM _ Tryd.underlying69 rfl (by kernel_rfl) ?_ | refine wpList_store_blk rfl 71 _ _ rfl (w.heap.size+1) [.slice da0 dn0 dc0,.int .i64 p0,.int .i64 x0,.int .i64 y0,.slice da1 dn1 dc1,.int .i64 p1,.int .i64 x1,.int .i64 y1,.slice da2 dn2 dc2,.int .i64 p2,.int .i64 x2,.int .i64 y2,.int .i64 v0,.int .i64 v1,.int .i64 v2,.int .i64 v3,.int .i64 h0,.int .i64 h1,.slice none 0 0] rfl rfl pR (by kernel_rfl) rfl rfl ?_)
   intro U10 pR2 g3
   have bw2:=bw.grown g3 bw.size (fun k e=>by cases e;omega)
   clear bw g2 g3 pM pR
   go_wp2_with fail
   refine bodyPost_ret (results_blk2 Tryd.results27 _ _ _ _ _ _ rfl pR2.out Tryd.underlying71 rfl (by kernel_rfl)) rfl ?_
   exact ⟨rfl,bw2⟩
 ·have hdr:Below U.heap.size U U.drew:=by go_grown
  replace cP:=cells_kept hdr _ _ cP
  replace pP:=pP.below hdr
  replace pR:=pR.below hdr
  replace bw:=bel_trans bw hdr
  replace hsz:w.heap.size+2≤U.drew.heap.size:=hsz
  clear hdr
  generalize U.drew=Ud at *
  have hb:Below Ud.heap.size Ud (Ud.alloc (.cells #[.slice none 0 0,.int .i64 0,.int .i64 0,.int .i64 0,.slice none 0 0,.int .i64 0,.int .i64 0,.int .i64 0,.slice none 0 0,.int .i64 0,.int .i64 0,.int .i64 0,.int .i64 0,.int .i64 0,.int .i64 0,.int .i64 0,.int .i64 0,.int .i64 0] 69)):=by go_grown
  have pM:Blk (Ud.alloc (.cells #[.slice none 0 0,.int .i64 0,.int .i64 0,.int .i64 0,.slice none 0 0,.int .i64 0,.int .i64 0,.int .i64 0,.slice none 0 0,.int .i64 0,.int .i64 0,.int .i64 0,.int .i64 0,.int .i64 0,.int .i64 0,.int .i64 0,.int .i64 0,.int .i64 0] 69)) Ud.heap.size 69 [.slice none 0 0,.int .i64 0,.int .i64 0,.int .i64 0,.slice none 0 0,.int .i64 0,.int .i64 0,.int .i64 0,.slice none 0 0,.int .i64 0,.int .i64 0,.int .i64 0,.int .i64 0,.int .i64 0,.int .i64 0,.int .i64 0,.int .i64 0,.int .i64 0]:=blkAt _ _ _ rfl
  replace cP:=cells_kept hb _ _ cP
  replace pP:=pP.below hb
  replace pR:=pR.below hb
  replace bw:=bel_trans bw hb
  have hXM:w.heap.size+2≤Ud.heap.size:=hsz
  replace hsz:w.heap.size+2≤(Ud.alloc (.cells #[.slice none 0 0,.int .i64 0,.int .i64 0,.int .i64 0,.slice none 0 0,.int .i64 0,.int .i64 0,.int .i64 0,.slice none 0 0,.int .i64 0,.int .i64 0,.int .i64 0,.int .i64 0,.int .i64 0,.int .i64 0,.int .i64 0,.int .i64 0,.int .i64 0] 69)).heap.size:=Nat.le_trans hsz hb.size
  go_simp
  refine hK.out _ _ cP (fun hS6=>?_)
  clear hK hb
  generalize (Ud.alloc (.cells #[.slice none 0 0,.int .i64 0,.int .i64 0,.int .i64 0,.slice none 0 0,.int .i64 0,.int .i64 0,.int .i64 0,.slice none 0 0,.int .i64 0,.int .i64 0,.int .i64 0,.int .i64 0,.int .i64 0,.int .i64 0,.int .i64 0,.int .i64 0,.int .i64 0] 69))=U6 at *
  generalize Ud.heap.size=XM at *
  try simp only [Act.put,tka,tkb,tkc]
  refine tkr 1 8 (fun K hK=>?_)
  go_simp
  refine (kN _).mono ?_
  rintro e U7 ⟨⟨s4,rfl,hO⟩,hb⟩
  replace cP:=cells_kept hb _ _ cP
  replace pP:=pP.below hb
  replace pR:=pR.below hb
  replace bw:=bel_trans bw hb
  replace pM:=pM.below hb
  replace hsz:w.heap.size+2≤U7.heap.size:=Nat.le_trans hsz hb.size
  go_wp2_with fail
  refine hK.out _ _ cP (fun hS7=>?_)
  clear hK hb
  try simp only [Act.put,tka,tkb,tkc]
  refine tkr 2 9 (fun K hK=>?_)
  go_simp
  refine (kM _ s4 bw (hO.mem fz)).mono ?_
  rintro e U8 ⟨rfl,hb⟩
  replace cP:=cells_kept hb _ _ cP
  replace pP:=pP.below hb
  replace pR:=pR.below hb
  replace bw:=bel_trans bw hb
  replace pM:=pM.below hb
  replace hO:=hO.below hb
  replace hsz:w.heap.size+2≤U8.heap.size:=Nat.le_trans hsz hb.size
  go_wp2_with fail
  refine hK.out _ _ cP (fun hS8=>?_)
  clear hK hb
  try simp only [Act.put,tka,tkb,tkc]
  refine tkm 3 6 (.tuple #[.agg #[.slice da0 dn0 dc0,.int .i64 p0,.int .i64 x0,.int .i64 y0,.slice da1 dn1 dc1,.int .i64 p1,.int .i64 x1,.int .i64 y1,.slice da2 dn2 dc2,.int .i64 p2,.int .i64 x2,.int .i64 y2,.int .i64 v0,.int .i64 v1,.int .i64 v2,.int .i64 v3,.int .i64 h0,.int .i64 h1],.int .i64 c]) ?_
  refine tkm 4 10 (.agg #[.slice da0 dn0 dc0,.int .i64 p0,.int .i64 x0,.int .i64 y0,.slice da1 dn1 dc1,.int .i64 p1,.int .i64 x1,.int .i64 y1,.slice da2 dn2 dc2,.int .i64 p2,.int .i64 x2,.int .i64 y2,.int .i64 v0,.int .i64 v1,.int .i64 v2,.int .i64 v3,.int .i64 h0,.int .i64 h1]) ?_
  refine tkm 5 11 (.int .i64 c) ?_
  refine tkz 7 (fun K hK=>?_)
  refine step_store_blkD rfl 69 _ _ rfl XM [.slice da0 dn0 dc0,.int .i64 p0,.int .i64 x0,.int .i64 y0,.slice da1 dn1 dc1,.int .i64 p1,.int .i64 x1,.int .i64 y1,.slice da2 dn2 dc2,.int .i64 p2,.int .i64 x2,.int .i64 y2,.int .i64 v0,.int .i64 v1,.int .i64 v2,.int .i64 v3,.int .i64 h0,.int .i64 h1] rfl rfl pM (by kernel_rfl) rfl rfl ?_
  intro U9 pM2 g2
  have hne:w.heap.size≠XM:=by omega
  have hne1:w.heap.size+1≠XM:=by omega
  replace pP:=pP.kept g2 (fun e=>hne (by cases e;rfl))
  replace pR:=pR.kept g2 (fun e=>hne1 (by cases e;rfl))
  replace bw:=bw.grown g2 bw.size (fun k e=>by cases e;omega)
  refine hK.out _ _ (by simpa using pP.cell 0) (fun hS9=>?_)
  clear hK hO
  try simp only [Act.put,tka,tkb,tkc]
  refine tkm 8 5 (.int .i64 c) ?_
  refine wpAnyH_done (by kernel_rfl) ?_ _
  clear hS9 cP hS0 pM
  have pM:=pM2.out
  clear pM2 pP
  go_wp2_with (first | refine wpList_load_blk rfl 69 _ rfl XM rfl pM _ Tryd.underlying69 rfl (by kernel_rfl) ?_ | refine wpList_store_blk rfl 71 _ _ rfl (w.heap.size+1) [.slice da0 dn0 dc0,.int .i64 p0,.int .i64 x0,.int .i64 y0,.slice da1 dn1 dc1,.int .i64 p1,.int .i64 x1,.int .i64 y1,.slice da2 dn2 dc2,.int .i64 p2,.int .i64 x2,.int .i64 y2,.int .i64 v0,.int .i64 v1,.int .i64 v2,.int .i64 v3,.int .i64 h0,.int .i64 h1,.slice none 0 0] rfl rfl pR (by kernel_rfl) rfl rfl ?_)
  intro U10 pR2 g3
  have bw2:=bw.grown g3 bw.size (fun k e=>by cases e;omega)
  clear bw g2 g3 pM pR
  go_wp2_with fail
  refine bodyPost_ret (results_blk2 Tryd.results27 _ _ _ _ _ _ rfl pR2.out Tryd.underlying71 rfl (by kernel_rfl)) rfl ?_
  exact ⟨rfl,bw2⟩

end Go.Proofs.YtjgffnlmjmibgaaDoor
