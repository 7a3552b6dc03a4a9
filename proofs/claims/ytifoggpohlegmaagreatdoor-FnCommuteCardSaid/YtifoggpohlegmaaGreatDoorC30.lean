/-
  Joined: RpF, RyE.
-/
import Derived.Test.YtifoggpohlegmaaGreatDoorC25
import Derived.Test.YtifoggpohlegmaaGreatDoorC29

namespace Go.Proofs.YtifoggpohlegmaaGreatDoor
set_option maxRecDepth 100000
set_option maxHeartbeats 16000000
open Go.RowKit
set_option linter.unusedVariables false
set_option linter.unusedSimpArgs false

theorem newReplay_of (a:Option Addr) (len cap:Nat) (w:World) (c:Int) (da0:Option Addr) (dn0 dc0:Nat) (da1:Option Addr) (dn1 dc1:Nat) (da2:Option Addr) (dn2 dc2:Nat) (p0 p1 p2 v0 v1 v2 v3 h0 h1 x0 y0 x1 y1 x2 y2:Int)
  (kM:∀ (W:World) (s:S4),Below w.heap.size w W→Vmem W s zeroV→Calls Tryz.prog 71 #[.agg #[.slice a len cap],s.val] W fun e w'=>e=.returned (.tuple #[.agg #[.slice da0 dn0 dc0,.int .i64 p0,.int .i64 x0,.int .i64 y0,.slice da1 dn1 dc1,.int .i64 p1,.int .i64 x1,.int .i64 y1,.slice da2 dn2 dc2,.int .i64 p2,.int .i64 x2,.int .i64 y2,.int .i64 v0,.int .i64 v1,.int .i64 v2,.int .i64 v3,.int .i64 h0,.int .i64 h1],.int .i64 c])∧Below W.heap.size W w') :
  Calls Tryz.prog 54 #[.agg #[.slice a len cap]] w fun e w'=>e=.returned (.tuple #[.agg #[.slice da0 dn0 dc0,.int .i64 p0,.int .i64 x0,.int .i64 y0,.slice da1 dn1 dc1,.int .i64 p1,.int .i64 x1,.int .i64 y1,.slice da2 dn2 dc2,.int .i64 p2,.int .i64 x2,.int .i64 y2,.int .i64 v0,.int .i64 v1,.int .i64 v2,.int .i64 v3,.int .i64 h0,.int .i64 h1,.slice none 0 0],.int .i64 c])∧Below w.heap.size w w':=by
 have fz:=(shape_fits9 zero_shape).1
 have kN:=implNewVm_is
 have bw:Below w.heap.size w ((w.alloc (.cells #[.slice a len cap] 25)).alloc (.cells #[.slice none 0 0,.int .i64 0,.int .i64 0,.int .i64 0,.slice none 0 0,.int .i64 0,.int .i64 0,.int .i64 0,.slice none 0 0,.int .i64 0,.int .i64 0,.int .i64 0,.int .i64 0,.int .i64 0,.int .i64 0,.int .i64 0,.int .i64 0,.int .i64 0,.slice none 0 0] 91)):=by go_grown
 have pP:Blk ((w.alloc (.cells #[.slice a len cap] 25)).alloc (.cells #[.slice none 0 0,.int .i64 0,.int .i64 0,.int .i64 0,.slice none 0 0,.int .i64 0,.int .i64 0,.int .i64 0,.slice none 0 0,.int .i64 0,.int .i64 0,.int .i64 0,.int .i64 0,.int .i64 0,.int .i64 0,.int .i64 0,.int .i64 0,.int .i64 0,.slice none 0 0] 91)) w.heap.size 25 [.slice a len cap]:=blkOld _ (blkAt _ _ _ rfl)
 have pR:Blk ((w.alloc (.cells #[.slice a len cap] 25)).alloc (.cells #[.slice none 0 0,.int .i64 0,.int .i64 0,.int .i64 0,.slice none 0 0,.int .i64 0,.int .i64 0,.int .i64 0,.slice none 0 0,.int .i64 0,.int .i64 0,.int .i64 0,.int .i64 0,.int .i64 0,.int .i64 0,.int .i64 0,.int .i64 0,.int .i64 0,.slice none 0 0] 91)) (w.heap.size+1) 91 [.slice none 0 0,.int .i64 0,.int .i64 0,.int .i64 0,.slice none 0 0,.int .i64 0,.int .i64 0,.int .i64 0,.slice none 0 0,.int .i64 0,.int .i64 0,.int .i64 0,.int .i64 0,.int .i64 0,.int .i64 0,.int .i64 0,.int .i64 0,.int .i64 0,.slice none 0 0]:=blkAt _ _ _ (by simp)
 have hsz:w.heap.size+2≤((w.alloc (.cells #[.slice a len cap] 25)).alloc (.cells #[.slice none 0 0,.int .i64 0,.int .i64 0,.int .i64 0,.slice none 0 0,.int .i64 0,.int .i64 0,.int .i64 0,.slice none 0 0,.int .i64 0,.int .i64 0,.int .i64 0,.int .i64 0,.int .i64 0,.int .i64 0,.int .i64 0,.int .i64 0,.int .i64 0,.slice none 0 0] 91)).heap.size:=by simp
 go_enter Tryz.func54,Tryz.ntmps54
 go_wp2_with fail
 generalize ((w.alloc (.cells #[.slice a len cap] 25)).alloc (.cells #[.slice none 0 0,.int .i64 0,.int .i64 0,.int .i64 0,.slice none 0 0,.int .i64 0,.int .i64 0,.int .i64 0,.slice none 0 0,.int .i64 0,.int .i64 0,.int .i64 0,.int .i64 0,.int .i64 0,.int .i64 0,.int .i64 0,.int .i64 0,.int .i64 0,.slice none 0 0] 91))=U at *
 have cP:U.cell? ⟨w.heap.size,0,none⟩=some (.slice a len cap):=by simpa using pP.cell 0
 refine wp_region_held_drew (S:=(fun w'=>w'.cell? ⟨w.heap.size,0,none⟩=some (.slice a len cap))) (by kernel_rfl) cP (fun hS0=>?_)
 refine tkm 0 7 (.agg #[.slice a len cap]) ?_
 refine wpAnyH_ready (rs:=[1,6]) (by kernel_rfl) (by simp) ?_
 refine AllReadyH.cons (o:=⟨some 8,_,_,_,_,_⟩) rfl (fun K hK=>?_) (AllReadyH.cons (o:=⟨some 4,_,_,_,_,_⟩) rfl (fun K hK=>?_) AllReadyH.nil)
 ·have hdr:Below U.heap.size U U.drew:=by go_grown
  replace cP:=cells_kept hdr _ _ cP
  replace pP:=pP.below hdr
  replace pR:=pR.below hdr
  replace bw:=bel_trans bw hdr
  replace hsz:w.heap.size+2≤U.drew.heap.size:=hsz
  clear hdr
  generalize U.drew=Ud at *
  go_simp
  refine (kN _).mono ?_
  rintro e U1 ⟨⟨s4,rfl,hO⟩,hb⟩
  replace cP:=cells_kept hb _ _ cP
  replace pP:=pP.below hb
  replace pR:=pR.below hb
  replace bw:=bel_trans bw hb
  replace hsz:w.heap.size+2≤U1.heap.size:=Nat.le_trans hsz hb.size
  go_wp2_with fail
  refine hK.out _ _ cP (fun hS1=>?_)
  clear hK hb
  try simp only [Act.put,tka,tkb,tkc]
  refine wpAnyH_ready (rs:=[2,6]) (by kernel_rfl) (by simp) ?_
  refine AllReadyH.cons (o:=⟨some 9,_,_,_,_,_⟩) rfl (fun K hK=>?_) (AllReadyH.cons (o:=⟨some 4,_,_,_,_,_⟩) rfl (fun K hK=>?_) AllReadyH.nil)
  ·go_simp
   refine (kM _ s4 bw (hO.mem fz)).mono ?_
   rintro e U2 ⟨rfl,hb⟩
   replace cP:=cells_kept hb _ _ cP
   replace pP:=pP.below hb
   replace pR:=pR.below hb
   replace bw:=bel_trans bw hb
   replace hO:=hO.below hb
   replace hsz:w.heap.size+2≤U2.heap.size:=Nat.le_trans hsz hb.size
   go_wp2_with fail
   refine hK.out _ _ cP (fun hS2=>?_)
   clear hK hb
   try simp only [Act.put,tka,tkb,tkc]
   refine tkm 3 6 (.tuple #[.agg #[.slice da0 dn0 dc0,.int .i64 p0,.int .i64 x0,.int .i64 y0,.slice da1 dn1 dc1,.int .i64 p1,.int .i64 x1,.int .i64 y1,.slice da2 dn2 dc2,.int .i64 p2,.int .i64 x2,.int .i64 y2,.int .i64 v0,.int .i64 v1,.int .i64 v2,.int .i64 v3,.int .i64 h0,.int .i64 h1],.int .i64 c]) ?_
   refine tkm 4 10 (.agg #[.slice da0 dn0 dc0,.int .i64 p0,.int .i64 x0,.int .i64 y0,.slice da1 dn1 dc1,.int .i64 p1,.int .i64 x1,.int .i64 y1,.slice da2 dn2 dc2,.int .i64 p2,.int .i64 x2,.int .i64 y2,.int .i64 v0,.int .i64 v1,.int .i64 v2,.int .i64 v3,.int .i64 h0,.int .i64 h1]) ?_
   refine tkm 5 11 (.int .i64 c) ?_
   refine tkr 6 4 (fun K hK=>?_)
   have hb:Below U2.heap.size U2 (U2.alloc (.cells #[.slice none 0 0,.int .i64 0,.int .i64 0,.int .i64 0,.slice none 0 0,.int .i64 0,.int .i64 0,.int .i64 0,.slice none 0 0,.int .i64 0,.int .i64 0,.int .i64 0,.int .i64 0,.int .i64 0,.int .i64 0,.int .i64 0,.int .i64 0,.int .i64 0] 89)):=by go_grown
   have pM:Blk (U2.alloc (.cells #[.slice none 0 0,.int .i64 0,.int .i64 0,.int .i64 0,.slice none 0 0,.int .i64 0,.int .i64 0,.int .i64 0,.slice none 0 0,.int .i64 0,.int .i64 0,.int .i64 0,.int .i64 0,.int .i64 0,.int .i64 0,.int .i64 0,.int .i64 0,.int .i64 0] 89)) U2.heap.size 89 [.slice none 0 0,.int .i64 0,.int .i64 0,.int .i64 0,.slice none 0 0,.int .i64 0,.int .i64 0,.int .i64 0,.slice none 0 0,.int .i64 0,.int .i64 0,.int .i64 0,.int .i64 0,.int .i64 0,.int .i64 0,.int .i64 0,.int .i64 0,.int .i64 0]:=blkAt _ _ _ rfl
   replace cP:=cells_kept hb _ _ cP
   replace pP:=pP.below hb
   replace pR:=pR.below hb
   replace bw:=bel_trans bw hb
   replace hO:=hO.below hb
   have hXM:w.heap.size+2≤U2.heap.size:=hsz
   replace hsz:w.heap.size+2≤(U2.alloc (.cells #[.slice none 0 0,.int .i64 0,.int .i64 0,.int .i64 0,.slice none 0 0,.int .i64 0,.int .i64 0,.int .i64 0,.slice none 0 0,.int .i64 0,.int .i64 0,.int .i64 0,.int .i64 0,.int .i64 0,.int .i64 0,.int .i64 0,.int .i64 0,.int .i64 0] 89)).heap.size:=Nat.le_trans hsz hb.size
   go_simp
   refine hK.out _ _ cP (fun hS3=>?_)
   clear hK hb
   generalize (U2.alloc (.cells #[.slice none 0 0,.int .i64 0,.int .i64 0,.int .i64 0,.slice none 0 0,.int .i64 0,.int .i64 0,.int .i64 0,.slice none 0 0,.int .i64 0,.int .i64 0,.int .i64 0,.int .i64 0,.int .i64 0,.int .i64 0,.int .i64 0,.int .i64 0,.int .i64 0] 89))=U3 at *
   generalize U2.heap.size=XM at *
   try simp only [Act.put,tka,tkb,tkc]
   refine tkz 7 (fun K hK=>?_)
   refine step_store_blkD rfl 89 _ _ rfl XM [.slice da0 dn0 dc0,.int .i64 p0,.int .i64 x0,.int .i64 y0,.slice da1 dn1 dc1,.int .i64 p1,.int .i64 x1,.int .i64 y1,.slice da2 dn2 dc2,.int .i64 p2,.int .i64 x2,.int .i64 y2,.int .i64 v0,.int .i64 v1,.int .i64 v2,.int .i64 v3,.int .i64 h0,.int .i64 h1] rfl rfl pM (by kernel_rfl) rfl rfl ?_
   intro U9 pM2 g2
   have hne:w.heap.size≠XM:=by omega
   have hne1:w.heap.size+1≠XM:=by omega
   replace pP:=pP.kept g2 (fun e=>hne (by cases e;rfl))
   replace pR:=pR.kept g2 (fun e=>hne1 (by cases e;rfl))
   replace bw:=bw.grown g2 bw.size (fun k e=>by cases e;omega)
   refine hK.out _ _ (by simpa using pP.cell 0) (fun hS9=>?_)
   clear hK hO
   try simp only [Act.put,tka,tkb,tkc]
   refine tkm 8 5 (.int .i64 c) ?_
   refine wpAnyH_done (by kernel_rfl) ?_ _
   clear hS9 cP hS0 pM
   have pM:=pM2.out
   clear pM2 pP
   go_wp2_with (first | refine wpList_load_blk rfl 89 _ rfl XM rfl pM _ Tryz.underlying89 rfl (by kernel_rfl) ?_ | refine wpList_store_blk rfl 91 _ _ rfl (w.heap.size+1) [.slice da0 dn0 dc0,.int .i64 p0,.int .i64 x0,.int .i64 y0,.slice da1 dn1 dc1,.int .i64 p1,.int .i64 x1,.int .i64 y1,.slice da2 dn2 dc2,.int .i64 p2,.int .i64 x2,.int .i64 y2,.int .i64 v0,.int .i64 v1,.int .i64 v2,.int .i64 v3,.int .i64 h0,.int .i64 h1,.slice none 0 0] rfl rfl pR (by kernel_rfl) rfl rfl ?_)
   intro U10 pR2 g3
   have bw2:=bw.grown g3 bw.size (fun k e=>by cases e;omega)
   clear bw g2 g3 pM pR
   go_wp2_with fail
   refine bodyPost_ret (results_blk2 Tryz.results54 _ _ _ _ _ _ rfl pR2.out Tryz.underlying91 rfl (by kernel_rfl)) rfl ?_
   exact ⟨rfl,bw2⟩
  ·have hb:Below U1.heap.size U1 (U1.alloc (.cells #[.slice none 0 0,.int .i64 0,.int .i64 0,.int .i64 0,.slice none 0 0,.int .i64 0,.int .i64 0,.int .i64 0,.slice none 0 0,.int .i64 0,.int .i64 0,.int .i64 0,.int .i64 0,.int .i64 0,.int .i64 0,.int .i64 0,.int .i64 0,.int .i64 0] 89)):=by go_grown
   have pM:Blk (U1.alloc (.cells #[.slice none 0 0,.int .i64 0,.int .i64 0,.int .i64 0,.slice none 0 0,.int .i64 0,.int .i64 0,.int .i64 0,.slice none 0 0,.int .i64 0,.int .i64 0,.int .i64 0,.int .i64 0,.int .i64 0,.int .i64 0,.int .i64 0,.int .i64 0,.int .i64 0] 89)) U1.heap.size 89 [.slice none 0 0,.int .i64 0,.int .i64 0,.int .i64 0,.slice none 0 0,.int .i64 0,.int .i64 0,.int .i64 0,.slice none 0 0,.int .i64 0,.int .i64 0,.int .i64 0,.int .i64 0,.int .i64 0,.int .i64 0,.int .i64 0,.int .i64 0,.int .i64 0]:=blkAt _ _ _ rfl
   replace cP:=cells_kept hb _ _ cP
   replace pP:=pP.below hb
   replace pR:=pR.below hb
   replace bw:=bel_trans bw hb
   replace hO:=hO.below hb
   have hXM:w.heap.size+2≤U1.heap.size:=hsz
   replace hsz:w.heap.size+2≤(U1.alloc (.cells #[.slice none 0 0,.int .i64 0,.int .i64 0,.int .i64 0,.slice none 0 0,.int .i64 0,.int .i64 0,.int .i64 0,.slice none 0 0,.int .i64 0,.int .i64 0,.int .i64 0,.int .i64 0,.int .i64 0,.int .i64 0,.int .i64 0,.int .i64 0,.int .i64 0] 89)).heap.size:=Nat.le_trans hsz hb.size
   go_simp
   refine hK.out _ _ cP (fun hS4=>?_)
   clear hK hb
   generalize (U1.alloc (.cells #[.slice none 0 0,.int .i64 0,.int .i64 0,.int .i64 0,.slice none 0 0,.int .i64 0,.int .i64 0,.int .i64 0,.slice none 0 0,.int .i64 0,.int .i64 0,.int .i64 0,.int .i64 0,.int .i64 0,.int .i64 0,.int .i64 0,.int .i64 0,.int .i64 0] 89))=U4 at *
   generalize U1.heap.size=XM at *
   try simp only [Act.put,tka,tkb,tkc]
   refine tkr 2 9 (fun K hK=>?_)
   go_simp
   refine (kM _ s4 bw (hO.mem fz)).mono ?_
   rintro e U5 ⟨rfl,hb⟩
   replace cP:=cells_kept hb _ _ cP
   replace pP:=pP.below hb
   replace pR:=pR.below hb
   replace bw:=bel_trans bw hb
   replace pM:=pM.below hb
   replace hO:=hO.below hb
   replace hsz:w.heap.size+2≤U5.heap.size:=Nat.le_trans hsz hb.size
   go_wp2_with fail
   refine hK.out _ _ cP (fun hS5=>?_)
   clear hK hb
   try simp only [Act.put,tka,tkb,tkc]
   refine tkm 3 6 (.tuple #[.agg #[.slice da0 dn0 dc0,.int .i64 p0,.int .i64 x0,.int .i64 y0,.slice da1 dn1 dc1,.int .i64 p1,.int .i64 x1,.int .i64 y1,.slice da2 dn2 dc2,.int .i64 p2,.int .i64 x2,.int .i64 y2,.int .i64 v0,.int .i64 v1,.int .i64 v2,.int .i64 v3,.int .i64 h0,.int .i64 h1],.int .i64 c]) ?_
   refine tkm 4 10 (.agg #[.slice da0 dn0 dc0,.int .i64 p0,.int .i64 x0,.int .i64 y0,.slice da1 dn1 dc1,.int .i64 p1,.int .i64 x1,.int .i64 y1,.slice da2 dn2 dc2,.int .i64 p2,.int .i64 x2,.int .i64 y2,.int .i64 v0,.int .i64 v1,.int .i64 v2,.int .i64 v3,.int .i64 h0,.int .i64 h1]) ?_
   refine tkm 5 11 (.int .i64 c) ?_
   refine tkz 7 (fun K hK=>?_)
   refine step_store_blkD rfl 89 _ _ rfl XM [.slice da0 dn0 dc0,.int .i64 p0,.int .i64 x0,.int .i64 y0,.slice da1 dn1 dc1,.int .i64 p1,.int .i64 x1,.int .i64 y1,.slice da2 dn2 dc2,.int .i64 p2,.int .i64 x2,.int .i64 y2,.int .i64 v0,.int .i64 v1,.int .i64 v2,.int .i64 v3,.int .i64 h0,.int .i64 h1] rfl rfl pM (by kernel_rfl) rfl rfl ?_
   intro U9 pM2 g2
   have hne:w.heap.size≠XM:=by omega
   have hne1:w.heap.size+1≠XM:=by omega
   replace pP:=pP.kept g2 (fun e=>hne (by cases e;rfl))
   replace pR:=pR.kept g2 (fun e=>hne1 (by cases e;rfl))
   replace bw:=bw.grown g2 bw.size (fun k e=>by cases e;omega)
   refine hK.out _ _ (by simpa using pP.cell 0) (fun hS9=>?_)
   clear hK hO
   try simp only [Act.put,tka,tkb,tkc]
   refine tkm 8 5 (.int .i64 c) ?_
   refine wpAnyH_done (by kernel_rfl) ?_ _
   clear hS9 cP hS0 pM
   have pM:=pM2.out
   clear pM2 pP
   go_wp2_with (first | refine wpList_load_blk rfl 89 _ rfl XM rfl pM _ Tryz.underlying89 rfl (by kernel_rfl) ?_ | refine wpList_store_blk rfl 91 _ _ rfl (w.heap.size+1) [.slice da0 dn0 dc0,.int .i64 p0,.int .i64 x0,.int .i64 y0,.slice da1 dn1 dc1,.int .i64 p1,.int .i64 x1,.int .i64 y1,.slice da2 dn2 dc2,.int .i64 p2,.int .i64 x2,.int .i64 y2,.int .i64 v0,.int .i64 v1,.int .i64 v2,.int .i64 v3,.int .i64 h0,.int .i64 h1,.slice none 0 0] rfl rfl pR (by kernel_rfl) rfl rfl ?_)
   intro U10 pR2 g3
   have bw2:=bw.grown g3 bw.size (fun k e=>by cases e;omega)
   clear bw g2 g3 pM pR
   go_wp2_with fail
   refine bodyPost_ret (results_blk2 Tryz.results54 _ _ _ _ _ _ rfl pR2.out Tryz.underlying91 rfl (by kernel_rfl)) rfl ?_
   exact ⟨rfl,bw2⟩
 ·have hdr:Below U.heap.size U U.drew:=by go_grown
  replace cP:=cells_kept hdr _ _ cP
  replace pP:=pP.below hdr
  replace pR:=pR.below hdr
  replace bw:=bel_trans bw hdr
  replace hsz:w.heap.size+2≤U.drew.heap.size:=hsz
  clear hdr
  generalize U.drew=Ud at *
  have hb:Below Ud.heap.size Ud (Ud.alloc (.cells #[.slice none 0 0,.int .i64 0,.int .i64 0,.int .i64 0,.slice none 0 0,.int .i64 0,.int .i64 0,.int .i64 0,.slice none 0 0,.int .i64 0,.int .i64 0,.int .i64 0,.int .i64 0,.int .i64 0,.int .i64 0,.int .i64 0,.int .i64 0,.int .i64 0] 89)):=by go_grown
  have pM:Blk (Ud.alloc (.cells #[.slice none 0 0,.int .i64 0,.int .i64 0,.int .i64 0,.slice none 0 0,.int .i64 0,.int .i64 0,.int .i64 0,.slice none 0 0,.int .i64 0,.int .i64 0,.int .i64 0,.int .i64 0,.int .i64 0,.int .i64 0,.int .i64 0,.int .i64 0,.int .i64 0] 89)) Ud.heap.size 89 [.slice none 0 0,.int .i64 0,.int .i64 0,.int .i64 0,.slice none 0 0,.int .i64 0,.int .i64 0,.int .i64 0,.slice none 0 0,.int .i64 0,.int .i64 0,.int .i64 0,.int .i64 0,.int .i64 0,.int .i64 0,.int .i64 0,.int .i64 0,.int .i64 0]:=blkAt _ _ _ rfl
  replace cP:=cells_kept hb _ _ cP
  replace pP:=pP.below hb
  replace pR:=pR.below hb
  replace bw:=bel_trans bw hb
  have hXM:w.heap.size+2≤Ud.heap.size:=hsz
  replace hsz:w.heap.size+2≤(Ud.alloc (.cells #[.slice none 0 0,.int .i64 0,.int .i64 0,.int .i64 0,.slice none 0 0,.int .i64 0,.int .i64 0,.int .i64 0,.slice none 0 0,.int .i64 0,.int .i64 0,.int .i64 0,.int .i64 0,.int .i64 0,.int .i64 0,.int .i64 0,.int .i64 0,.int .i64 0] 89)).heap.size:=Nat.le_trans hsz hb.size
  go_simp
  refine hK.out _ _ cP (fun hS6=>?_)
  clear hK hb
  generalize (Ud.alloc (.cells #[.slice none 0 0,.int .i64 0,.int .i64 0,.int .i64 0,.slice none 0 0,.int .i64 0,.int .i64 0,.int .i64 0,.slice none 0 0,.int .i64 0,.int .i64 0,.int .i64 0,.int .i64 0,.int .i64 0,.int .i64 0,.int .i64 0,.int .i64 0,.int .i64 0] 89))=U6 at *
  generalize Ud.heap.size=XM at *
  try simp only [Act.put,tka,tkb,tkc]
  refine tkr 1 8 (fun K hK=>?_)
  go_simp
  refine (kN _).mono ?_
  rintro e U7 ⟨⟨s4,rfl,hO⟩,hb⟩
  replace cP:=cells_kept hb _ _ cP
  replace pP:=pP.below hb
  replace pR:=pR.below hb
  replace bw:=bel_trans bw hb
  replace pM:=pM.below hb
  replace hsz:w.heap.size+2≤U7.heap.size:=Nat.le_trans hsz hb.size
  go_wp2_with fail
  refine hK.out _ _ cP (fun hS7=>?_)
  clear hK hb
  try simp only [Act.put,tka,tkb,tkc]
  refine tkr 2 9 (fun K hK=>?_)
  go_simp
  refine (kM _ s4 bw (hO.mem fz)).mono ?_
  rintro e U8 ⟨rfl,hb⟩
  replace cP:=cells_kept hb _ _ cP
  replace pP:=pP.below hb
  replace pR:=pR.below hb
  replace bw:=bel_trans bw hb
  replace pM:=pM.below hb
  replace hO:=hO.below hb
  replace hsz:w.heap.size+2≤U8.heap.size:=Nat.le_trans hsz hb.size
  go_wp2_with fail
  refine hK.out _ _ cP (fun hS8=>?_)
  clear hK hb
  try simp only [Act.put,tka,tkb,tkc]
  refine tkm 3 6 (.tuple #[.agg #[.slice da0 dn0 dc0,.int .i64 p0,.int .i64 x0,.int .i64 y0,.slice da1 dn1 dc1,.int .i64 p1,.int .i64 x1,.int .i64 y1,.slice da2 dn2 dc2,.int .i64 p2,.int .i64 x2,.int .i64 y2,.int .i64 v0,.int .i64 v1,.int .i64 v2,.int .i64 v3,.int .i64 h0,.int .i64 h1],.int .i64 c]) ?_
  refine tkm 4 10 (.agg #[.slice da0 dn0 dc0,.int .i64 p0,.int .i64 x0,.int .i64 y0,.slice da1 dn1 dc1,.int .i64 p1,.int .i64 x1,.int .i64 y1,.slice da2 dn2 dc2,.int .i64 p2,.int .i64 x2,.int .i64 y2,.int .i64 v0,.int .i64 v1,.int .i64 v2,.int .i64 v3,.int .i64 h0,.int .i64 h1]) ?_
  refine tkm 5 11 (.int .i64 c) ?_
  refine tkz 7 (fun K hK=>?_)
  refine step_store_blkD rfl 89 _ _ rfl XM [.slice da0 dn0 dc0,.int .i64 p0,.int .i64 x0,.int .i64 y0,.slice da1 dn1 dc1,.int .i64 p1,.int .i64 x1,.int .i64 y1,.slice da2 dn2 dc2,.int .i64 p2,.int .i64 x2,.int .i64 y2,.int .i64 v0,.int .i64 v1,.int .i64 v2,.int .i64 v3,.int .i64 h0,.int .i64 h1] rfl rfl pM (by kernel_rfl) rfl rfl ?_
  intro U9 pM2 g2
  have hne:w.heap.size≠XM:=by omega
  have hne1:w.heap.size+1≠XM:=by omega
  replace pP:=pP.kept g2 (fun e=>hne (by cases e;rfl))
  replace pR:=pR.kept g2 (fun e=>hne1 (by cases e;rfl))
  replace bw:=bw.grown g2 bw.size (fun k e=>by cases e;omega)
  refine hK.out _ _ (by simpa using pP.cell 0) (fun hS9=>?_)
  clear hK hO
  try simp only [Act.put,tka,tkb,tkc]
  refine tkm 8 5 (.int .i64 c) ?_
  refine wpAnyH_done (by kernel_rfl) ?_ _
  clear hS9 cP hS0 pM
  have pM:=pM2.out
  clear pM2 pP
  go_wp2_with (first | refine wpList_load_blk rfl 89 _ rfl XM rfl pM _ Tryz.underlying89 rfl (by kernel_rfl) ?_ | refine wpList_store_blk rfl 91 _ _ rfl (w.heap.size+1) [.slice da0 dn0 dc0,.int .i64 p0,.int .i64 x0,.int .i64 y0,.slice da1 dn1 dc1,.int .i64 p1,.int .i64 x1,.int .i64 y1,.slice da2 dn2 dc2,.int .i64 p2,.int .i64 x2,.int .i64 y2,.int .i64 v0,.int .i64 v1,.int .i64 v2,.int .i64 v3,.int .i64 h0,.int .i64 h1,.slice none 0 0] rfl rfl pR (by kernel_rfl) rfl rfl ?_)
  intro U10 pR2 g3
  have bw2:=bw.grown g3 bw.size (fun k e=>by cases e;omega)
  clear bw g2 g3 pM pR
  go_wp2_with fail
  refine bodyPost_ret (results_blk2 Tryz.results54 _ _ _ _ _ _ rfl pR2.out Tryz.underlying91 rfl (by kernel_rfl)) rfl ?_
  exact ⟨rfl,bw2⟩

namespace Rp
open Go.RowKit
set_option linter.unusedVariables false
set_option linter.unusedSimpArgs false
variable {fv : Value}

theorem enabled_is (g:Nat) (cs:Sl × Sl × Sl) (rows:List (List I3)) (m:V4) (w:World) (h:MachAt fv w g cs rows m) (hp:progOk rows=true) (hs:shapeOk m=true) :
  Calls Tryz.prog 72 #[.pointer (some ⟨g,0,none⟩)] w fun e w'=>(∃ s:Sl,e=.returned (.slice s.1 s.2.1 s.2.2)∧OwnI w' w.heap.size s (enabM rows m 3))∧Below w.heap.size w w':=by
 obtain ⟨i0,hi,hz0,hz1,hz2⟩:=info_parts info_int
 have kD:=fun (W:World) (hM:MachAt fv W g cs rows m) (k:Nat) (hk:k<3)=>doneT_is hM hk
 have kW:=fun (W:World) (hM:MachAt fv W g cs rows m) (k:Nat) (hk:k<3)=>waits_is hM hp hs hk
 go_enter Tryz.func72,Tryz.ntmps72
 go_wp2_with fail
 go_loopw [3,5] (fun so si wr=>∃ (k:Nat) (n:Nat) (v:Value),v=so∧k≤3∧si=.int .i64 k∧Hid (n=(enabM rows m k).length)∧wr.ownsRow w.heap.size 3 1 v n ((enabM rows m k).map (Value.int .i64))∧Below w.heap.size w wr) (fun _ si _=>3 - (intOf si).toNat)
 case atStart=>exact ⟨0,0,_,rfl,by omega,rfl,rfl,World.ownsRow_nil _ _ _ _,Below.refl _ _⟩
 case round =>
  obtain ⟨k,n,so,rfl,hk,rfl,HN,hr,hbw⟩:=hrel
  have hM:=h.below hbw
  by_cases hlt:k<3
  ·have hk3:(k:Int)<3:=by omega
   have kD1:=kD _ hM k hlt
   have hsz:=hbw.size
   cases hd:doneM rows m k
   ·rw [hd] at kD1
    go_wp2_with fail
    refine kD1.mono ?_
    rintro e w1 ⟨rfl,d,rfl⟩
    replace hM:MachAt fv (wr.drewN d) g cs rows m:=hM.below (below_dN _)
    replace hr:(wr.drewN d).ownsRow w.heap.size 3 1 so n ((enabM rows m k).map (Value.int .i64)):=hr
    replace hbw:Below w.heap.size w (wr.drewN d):=bel_trans hbw (below_dN _)
    replace hsz:w.heap.size≤(wr.drewN d).heap.size:=hsz
    generalize wr.drewN d=W1 at *
    have kW1:=kW _ hM k hlt
    clear kD1
    cases hw:waitM rows m k
    ·have hcan:canM rows m k=true:=by
      unfold waitM at hw
      unfold canM
      rw [hd] at hw ⊢
      simpa using hw
     rw [hw] at kW1
     go_wp2_with fail
     refine kW1.mono ?_
     rintro e w2 ⟨rfl,hb⟩
     replace hM:=hM.below hb
     replace hr:=owns_below hr hb
     replace hbw:=bel_trans hbw hb
     replace hsz:=hbw.size
     clear hb kW1
     have hn3:n≤3:=by have:=enabM_len rows m k;have:=HN.out;omega
     have HN2:Hid (n+1=(enabM rows m (k+1)).length):=by rw [Hid,enabM_yes hcan,List.length_append,← HN.out];rfl
     have HX:Hid (enabM rows m (k+1)=enabM rows m k++[(k:Int)]):=enabM_yes hcan
     go_wp2_with (at_builtin;refine wpList_append_own _ rfl _ _ 27 rfl w.heap.size 3 i0 (.int .i64 0) 1 8 Tryz.underlying27 hi hz0 hz1 hz2 rfl (by decide) _ _ _ rfl (hr.alloc _) ⟨w2.heap.size,0,none⟩ 1 1 [.int .i64 (k:Int)] rfl rfl (cell_one_new _ _ _) (by simp [Value.oneCell']) ?c3 ?c4 ?c5 ?_)
     case c3=>unfold maxLen;omega
     case c4=>omega
     case c5=>simp;omega
     intro v' wn hown' hgrow _
     have R:wn.ownsRow w.heap.size 3 1 v' (n+1) ((enabM rows m (k+1)).map (Value.int .i64)):=by
      rw [HX.out,List.map_append]
      exact hown'
     have bn:Below w.heap.size w wn:=(hbw.alloc hsz _).grown hgrow (by simp;omega) (fun k hk=>(hr.lt k hk).1)
     clear hown' hgrow hr hbw hM HX
     go_wp2
     go_roundw
     case rel=>exact ⟨k+1,n+1,_,rfl,by omega,by go_num,HN2,R,bn⟩
     case measure=>simp [intOf];omega
    ·have hcan:canM rows m k=false:=by
      unfold waitM at hw
      unfold canM
      rw [hd] at hw ⊢
      simpa using hw
     rw [hw] at kW1
     have HN2:Hid (n=(enabM rows m (k+1)).length):=by rw [Hid,enabM_no hcan];exact HN.out
     rw [← enabM_no hcan] at hr
     go_wp2_with fail
     refine kW1.mono ?_
     rintro e w2 ⟨rfl,hb⟩
     replace hM:=hM.below hb
     replace hr:=owns_below hr hb
     replace hbw:=bel_trans hbw hb
     clear hb kW1
     go_wp2
     go_roundw
     case rel=>exact ⟨k+1,n,_,rfl,by omega,by go_num,HN2,hr,hbw⟩
     case measure=>simp [intOf];omega
   ·have hcan:canM rows m k=false:=by unfold canM;rw [hd];rfl
    rw [hd] at kD1
    have HN2:Hid (n=(enabM rows m (k+1)).length):=by rw [Hid,enabM_no hcan];exact HN.out
    rw [← enabM_no hcan] at hr
    go_wp2_with fail
    refine kD1.mono ?_
    rintro e w1 ⟨rfl,d,rfl⟩
    replace hM:MachAt fv (wr.drewN d) g cs rows m:=hM.below (below_dN _)
    replace hr:(wr.drewN d).ownsRow w.heap.size 3 1 so n ((enabM rows m (k+1)).map (Value.int .i64)):=hr
    replace hbw:Below w.heap.size w (wr.drewN d):=bel_trans hbw (below_dN _)
    generalize wr.drewN d=W1 at *
    go_wp2
    go_roundw
    case rel=>exact ⟨k+1,n,_,rfl,by omega,by go_num,HN2,hr,hbw⟩
    case measure=>simp [intOf];omega
  ·obtain rfl:k=3:=by omega
   obtain ⟨a,c,rfl⟩:∃ a c,so=.slice a n c:=by
    rcases hr.2 with ⟨rfl,rfl⟩ | ⟨g',cap,cur,hv,_⟩
    ·exact ⟨none,0,rfl⟩
    ·exact ⟨_,cap,hv⟩
   clear kD kW hM
   go_wp2
   go_ret
   exact ⟨⟨(a,n,c),rfl,hr⟩,hbw⟩
theorem stuck_is (g:Nat) (cs:Sl × Sl × Sl) (rows:List (List I3)) (m:V4) (w:World) (h:MachAt fv w g cs rows m) (hp:progOk rows=true) (hs:shapeOk m=true) :
  Calls Tryz.prog 91 #[.pointer (some ⟨g,0,none⟩)] w fun e w'=>e=.returned (.bool (stuckM rows m))∧Below w.heap.size w w':=by
 have kE:=enabled_is g cs rows m w h hp hs
 have kD:=fun (W:World) (hM:MachAt fv W g cs rows m) (k:Nat) (hk:k<3)=>doneT_is hM hk
 obtain ⟨fin,hfin⟩:∃ fin,fin=stuckM rows m:=⟨_,rfl⟩
 rw [← hfin]
 have HF:Hid (fin=(decide (enabM rows m 3=[]) && leftM rows m 0)):=hfin
 clear hfin
 go_enter Tryz.func91,Tryz.ntmps91
 go_wp2_with fail
 refine kE.mono ?_
 rintro e w1 ⟨⟨⟨a,n,c⟩,rfl,ho⟩,hb⟩
 have hn:(enabM rows m 3).length=n:=by
  have:=ho.1
  simpa using this
 clear ho kE
 simp only
 by_cases h0:n=0
 ·subst h0
  have HL:Hid (fin=leftM rows m 0):=by rw [Hid,HF.out,List.eq_nil_of_length_eq_zero hn];rfl
  clear HF hn
  go_wp2_with fail
  go_loopw [8] (fun si wr=>∃ k:Nat,k≤3∧si=.int .i64 k∧Hid (fin=leftM rows m k)∧Below w.heap.size w wr) (fun si _=>3 - (intOf si).toNat)
  case atStart=>exact ⟨0,by omega,rfl,HL,hb⟩
  case round =>
   clear hb HL
   obtain ⟨k,hk,rfl,HL,hbw⟩:=hrel
   by_cases hlt:k<3
   ·have hk3:(k:Int)<3:=by omega
    have kD1:=kD _ (h.below hbw) k hlt
    have hst:=leftM_step rows m hlt
    have HS:Hid (leftM rows m k=(!doneM rows m k || leftM rows m (k+1))):=hst
    clear hst
    cases hd:doneM rows m k
    ·rw [hd] at kD1
     obtain rfl:fin=true:=by rw [HL.out,HS.out,hd];rfl
     clear HL HS
     go_wp2_with fail
     refine kD1.mono ?_
     rintro e w2 ⟨rfl,d,rfl⟩
     replace hbw:Below w.heap.size w (wr.drewN d):=bel_trans hbw (below_dN _)
     go_wp2
     go_ret
     exact ⟨rfl,hbw⟩
    ·rw [hd] at kD1
     have HL2:Hid (fin=leftM rows m (k+1)):=by rw [Hid,HL.out,HS.out,hd];rfl
     clear HL HS
     go_wp2_with fail
     refine kD1.mono ?_
     rintro e w2 ⟨rfl,d,rfl⟩
     replace hbw:Below w.heap.size w (wr.drewN d):=bel_trans hbw (below_dN _)
     generalize wr.drewN d=W1 at *
     go_wp2
     go_roundw
     case rel=>exact ⟨k+1,by omega,by go_num,HL2,hbw⟩
     case measure=>simp [intOf];omega
   ·obtain rfl:k=3:=by omega
    obtain rfl:fin=false:=HL.out.trans (leftM_end _ _)
    clear kD HL
    go_wp2
    go_ret
    exact ⟨rfl,hbw⟩
 ·obtain rfl:fin=false:=by
   rw [HF.out,decide_eq_false]
   ·rfl
   ·intro e
    rw [e] at hn
    exact h0 hn.symm
  have hpos:(0:Int)<(n:Int):=by omega
  clear HF hn kD
  go_wp2
  go_ret
  exact ⟨rfl,hb⟩

end Rp
end Go.Proofs.YtifoggpohlegmaaGreatDoor
