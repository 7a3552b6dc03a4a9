/-
  Joined: SlaS, VmLaid.
-/
import Derived.Test.YtifoggpohlegmaaGreatDoorRows
import Derived.ProofKit
import Derived.OpenShut
import Derived.LaidMore
import Derived.MakeChecks
import Derived.Stop.LaidErr
import Derived.Test.YtifoggpohlegmaaGreatDoorS44

namespace Go.Proofs.YtifoggpohlegmaaGreatDoor
set_option maxRecDepth 100000
set_option maxHeartbeats 16000000
open Go.RowKit
set_option linter.unusedVariables false
set_option linter.unusedSimpArgs false

theorem can_zero {rows:List (List I3)} (hp:progOk rows=true):CanS rows 19 zeroV [] (deadM rows zeroV,0,0):=⟨zero_shape,by have:=left_18 hp zeroV;omega,fun j hj=>by simp at hj,by simp,by simp,by have:=dead_le1 rows zeroV;simp only;omega,by simp,deadM_ok rows zeroV⟩

theorem l07All_is {w:World} {a:Option Addr} {cap:Nat} {cs:Sl × Sl × Sl} {rows:List (List I3)} (hR:RowsAt w a cs rows) (hp:progOk rows=true) :
  Calls Tryz.prog 96 #[.agg #[.slice a 3 cap]] w fun e w'=>SchGot e w' w.heap.size (slpO rows)∧Below w.heap.size w w':=by
 have kN:=specNewVm_is
 have fz:=(shape_fits9 zero_shape).1
 have hst:stuckM rows zeroV=false:=stuck_zero rows
 have kU:=fun (W:World) (b:Below w.heap.size w W) (t:S4) (h:Vmem W t zeroV)=>l03Stuck_is a 3 cap rows t zeroV cs W rfl (hR.below b) h hp zero_shape
 rw [hst] at kU
 have hd0:deadM rows zeroV=[]:=by unfold deadM;rw [hst];rfl
 have hcan:=can_zero hp
 rw [hd0] at hcan
 have kV:=fun (W:World) (b:Below w.heap.size w W) (t:S4) (h:Vmem W t zeroV) (sv:Value) (hn:sv≠.slice none 0 0) (B2:Nat) (hz:W.ownsRow B2 3 1 sv 0 []) (bv:Value) (qb:W.ownsRow w.heap.size 64 3 bv 0 [])=>search_is (cap:=cap) hp 19 zeroV [] ([],0,0) hcan W a cs t sv w.heap.size B2 bv (hR.below b) h hn hz qb b.size
 have HO:Hid (schS rows 19 zeroV [] ([],0,0)=slpO rows):=by unfold slpO;rw [hd0];rfl
 rw [HO.out] at kV
 clear hcan hd0 HO hst
 generalize slpO rows=rr at *
 obtain ⟨⟨rb,rr1,rr2⟩,rok⟩:=rr
 have bw:Below w.heap.size w (((w.alloc (.cells #[.slice a 3 cap] 25)).alloc (.cells #[.slice none 0 0,.int .i64 0,.int .i64 0] 70)).alloc (.cells #[] 64)):=by go_grown
 have pP:Blk (((w.alloc (.cells #[.slice a 3 cap] 25)).alloc (.cells #[.slice none 0 0,.int .i64 0,.int .i64 0] 70)).alloc (.cells #[] 64)) w.heap.size 25 [.slice a 3 cap]:=blkOld _ (blkOld _ (blkAt _ _ _ rfl))
 have pR:Blk (((w.alloc (.cells #[.slice a 3 cap] 25)).alloc (.cells #[.slice none 0 0,.int .i64 0,.int .i64 0] 70)).alloc (.cells #[] 64)) (w.heap.size+1) 70 [.slice none 0 0,.int .i64 0,.int .i64 0]:=blkOld _ (blkAt _ _ _ (by simp))
 have q0:(((w.alloc (.cells #[.slice a 3 cap] 25)).alloc (.cells #[.slice none 0 0,.int .i64 0,.int .i64 0] 70)).alloc (.cells #[] 64)).ownsRow w.heap.size 64 3 (.slice (some ⟨w.heap.size+1+1,0,none⟩) 0 0) 0 []:=by
  have h9:=own_emptyB ((w.alloc (.cells #[.slice a 3 cap] 25)).alloc (.cells #[.slice none 0 0,.int .i64 0,.int .i64 0] 70)) 64 3 w.heap.size (by simp;omega)
  simpa using h9
 have pN:=Blk.new (((w.alloc (.cells #[.slice a 3 cap] 25)).alloc (.cells #[.slice none 0 0,.int .i64 0,.int .i64 0] 70)).alloc (.cells #[] 64)) 70 [.slice none 0 0,.int .i64 0,.int .i64 0]
 have hsz:(((w.alloc (.cells #[.slice a 3 cap] 25)).alloc (.cells #[.slice none 0 0,.int .i64 0,.int .i64 0] 70)).alloc (.cells #[] 64)).heap.size=w.heap.size+1+1+1:=by simp
 obtain ⟨g0,hg0⟩:∃ g0,g0=w.heap.size+1+1:=⟨_,rfl⟩
 rw [hsz] at pN
 clear hsz
 have ha:Below (((w.alloc (.cells #[.slice a 3 cap] 25)).alloc (.cells #[.slice none 0 0,.int .i64 0,.int .i64 0] 70)).alloc (.cells #[] 64)).heap.size (((w.alloc (.cells #[.slice a 3 cap] 25)).alloc (.cells #[.slice none 0 0,.int .i64 0,.int .i64 0] 70)).alloc (.cells #[] 64)) ((((w.alloc (.cells #[.slice a 3 cap] 25)).alloc (.cells #[.slice none 0 0,.int .i64 0,.int .i64 0] 70)).alloc (.cells #[] 64)).alloc (.cells #[.slice none 0 0,.int .i64 0,.int .i64 0] 70)):=by go_grown
 go_enter Tryz.func96,Tryz.ntmps96
 go_wp2_with (refine wpList_store_blk rfl 70 _ _ rfl (w.heap.size+1+1+1) [.slice (some ⟨w.heap.size+1+1,0,none⟩) 0 0,.int .i64 0,.int .i64 0] rfl rfl pN (by kernel_rfl) rfl rfl ?_)
 intro U pX9 gU
 have pX:=pX9.out
 replace pP:=(pP.below ha).kept gU (by simp only [ne_eq,Option.some.injEq];omega)
 replace pR:=(pR.below ha).kept gU (by simp only [ne_eq,Option.some.injEq];omega)
 replace q0:=(owns_below q0 ha).kept gU (.inr (by simp [Value.ownBlock]))
 replace bw:=(bel_trans bw ha).grown gU (bel_trans bw ha).size (fun q e=>by cases e;omega)
 obtain ⟨X0,hX0⟩:∃ X0,X0=w.heap.size+1+1+1:=⟨_,rfl⟩
 rw [← hX0] at pX ⊢
 have hXw:w.heap.size+1<X0:=by omega
 clear hX0
 rw [← hg0] at pX q0 ⊢
 clear pX9 gU ha pN hg0
 have hdr:Below U.heap.size U U.drew:=by go_grown
 go_wp2_with fail
 refine wp_region_held_drew (S:=(fun w'=>w'.rangeAt w.heap.size 0 [.slice a 3 cap])) (by kernel_rfl) (blk_range pP) (fun hS0=>?_)
 refine wpAnyH_take (i:=0) (oi:=⟨some 7,_,_,_,_,_⟩) (v:=.agg ([.slice a 3 cap]).toArray) rfl (by kernel_rfl) (by kernel_rfl) (by kernel_rfl) (fun _ _ _ h=>h) (yieldsIf_load_mid (by rfl) 25 _ rfl w.heap.size 0 rfl [.slice a 3 cap] _ (fun _ h=>h) Tryz.underlying25 rfl (by kernel_rfl)) (by assumption) ?_
 simp only [Act.put,tka,tkb,tkc]
 replace pP:=pP.below hdr
 replace pR:=pR.below hdr
 replace pX:=pX.below hdr
 replace q0:=owns_below q0 hdr
 replace bw:=bel_trans bw hdr
 clear hdr
 generalize U.drew=V at *
 refine tkr 1 8 (fun K hK=>?_)
 go_simp
 refine (kN V).mono ?_
 rintro e V1 ⟨⟨⟨⟨t0a,t0n,t0c⟩,⟨t1a,t1n,t1c⟩,⟨t2a,t2n,t2c⟩,⟨t3a,t3n,t3c⟩⟩,rfl,hO⟩,hb1⟩
 have ut:S4.val ((t0a,t0n,t0c),(t1a,t1n,t1c),(t2a,t2n,t2c),(t3a,t3n,t3c))=.agg #[.slice t0a t0n t0c,.slice t1a t1n t1c,.slice t2a t2n t2c,.slice t3a t3n t3c]:=rfl
 rw [ut]
 replace pP:=pP.below hb1
 replace pR:=pR.below hb1
 replace pX:=pX.below hb1
 replace q0:=owns_below q0 hb1
 replace bw:=bel_trans bw hb1
 clear hb1
 go_wp2_with fail
 refine hK.out _ _ (blk_range pP) (fun hS1=>?_)
 clear hK
 try simp only [Act.put,tka,tkb,tkc]
 have kUx:=kU V1 bw ((t0a,t0n,t0c),(t1a,t1n,t1c),(t2a,t2n,t2c),(t3a,t3n,t3c)) (hO.mem fz)
 rw [ut] at kUx
 refine tkr 2 9 (fun K hK=>?_)
 go_simp
 refine kUx.mono ?_
 rintro e V2 ⟨rfl,hb2⟩
 replace pP:=pP.below hb2
 replace pR:=pR.below hb2
 replace pX:=pX.below hb2
 replace q0:=owns_below q0 hb2
 replace bw:=bel_trans bw hb2
 clear hb2 kUx kU ut hO
 go_wp2_with fail
 refine hK.out _ _ (blk_range pP) (fun hS2=>?_)
 clear hK
 try simp only [Act.put,tka,tkb,tkc]
 refine wpAnyH_done (by kernel_rfl) ?_ _
 clear hS0 hS1 hS2
 go_wp2_with fail
 have hdr:Below V2.heap.size V2 V2.drew:=by go_grown
 refine wp_region_held_drew (S:=(fun w'=>w'.rangeAt w.heap.size 0 [.slice a 3 cap]∧w'.rangeAt X0 0 [.slice (some ⟨g0,0,none⟩) 0 0,.int .i64 0,.int .i64 0])) (by kernel_rfl) ⟨blk_range pP,blk_range pX⟩ (fun hS0=>?_)
 refine wpAnyH_take (i:=0) (oi:=⟨some 16,_,_,_,_,_⟩) (v:=.agg ([.slice a 3 cap]).toArray) rfl (by kernel_rfl) (by kernel_rfl) (by kernel_rfl) (fun _ _ _ h=>h) (yieldsIf_load_mid (by rfl) 25 _ rfl w.heap.size 0 rfl [.slice a 3 cap] _ (fun _ h=>h.1) Tryz.underlying25 rfl (by kernel_rfl)) (by assumption) ?_
 simp only [Act.put,tka,tkb,tkc]
 refine wpAnyH_take (i:=3) (oi:=⟨some 19,_,_,_,_,_⟩) (v:=.agg ([.slice (some ⟨g0,0,none⟩) 0 0,.int .i64 0,.int .i64 0]).toArray) rfl (by kernel_rfl) (by kernel_rfl) (by kernel_rfl) (fun _ _ _ h=>h) (yieldsIf_load_mid (by rfl) 70 _ rfl X0 0 rfl [.slice (some ⟨g0,0,none⟩) 0 0,.int .i64 0,.int .i64 0] _ (fun _ h=>h.2) Tryz.underlying70 rfl (by kernel_rfl)) (by assumption) ?_
 simp only [Act.put,tka,tkb,tkc]
 replace pP:=pP.below hdr
 replace pR:=pR.below hdr
 replace pX:=pX.below hdr
 replace q0:=owns_below q0 hdr
 replace bw:=bel_trans bw hdr
 clear hdr
 generalize V2.drew=D0 at *
 refine wpAnyH_ready (rs:=[1,2]) (by kernel_rfl) (by simp) ?_
 refine AllReadyH.cons (o:=⟨some 17,_,_,_,_,_⟩) rfl (fun K hK=>?_) (AllReadyH.cons (o:=⟨some 18,_,_,_,_,_⟩) rfl (fun K hK=>?_) AllReadyH.nil)
 ·go_simp
  refine (kN D0).mono ?_
  rintro e D1 ⟨⟨⟨⟨t0a,t0n,t0c⟩,⟨t1a,t1n,t1c⟩,⟨t2a,t2n,t2c⟩,⟨t3a,t3n,t3c⟩⟩,rfl,hO⟩,hb1⟩
  have ut:S4.val ((t0a,t0n,t0c),(t1a,t1n,t1c),(t2a,t2n,t2c),(t3a,t3n,t3c))=.agg #[.slice t0a t0n t0c,.slice t1a t1n t1c,.slice t2a t2n t2c,.slice t3a t3n t3c]:=rfl
  rw [ut]
  replace pP:=pP.below hb1
  replace pR:=pR.below hb1
  replace pX:=pX.below hb1
  replace q0:=owns_below q0 hb1
  replace bw:=bel_trans bw hb1
  clear hb1
  go_wp2_with fail
  refine hK.out _ _ ⟨blk_range pP,blk_range pX⟩ (fun hS1=>?_)
  clear hK
  try simp only [Act.put,tka,tkb,tkc]
  refine tkr 2 18 (fun K hK=>?_)
  have hb3:Below D1.heap.size D1 (D1.alloc (.cells #[] 3)):=by go_grown
  have qz:=own_emptyB D1 3 1 w.heap.size bw.size
  replace pP:=pP.below hb3
  replace pR:=pR.below hb3
  replace pX:=pX.below hb3
  replace q0:=owns_below q0 hb3
  replace bw:=bel_trans bw hb3
  replace hO:=hO.below hb3
  go_simp
  refine hK.out _ _ ⟨blk_range pP,blk_range pX⟩ (fun hS2=>?_)
  clear hK hb3
  generalize (D1.alloc (.cells #[] 3))=D2 at *
  generalize D1.heap.size=gz at *
  try simp only [Act.put,tka,tkb,tkc]
  have kVx:=kV D2 bw ((t0a,t0n,t0c),(t1a,t1n,t1c),(t2a,t2n,t2c),(t3a,t3n,t3c)) (hO.mem fz) (.slice (some ⟨gz,0,none⟩) 0 0) (by intro e;cases e) w.heap.size qz (.slice (some ⟨g0,0,none⟩) 0 0) q0
  rw [ut] at kVx
  refine tkr 4 20 (fun K hK=>?_)
  go_simp
  refine kVx.mono ?_
  rintro e D9 ⟨⟨rv,rfl,qr⟩,hb⟩
  replace pP:=pP.below hb
  replace pR:=pR.below hb
  replace pX:=pX.below hb
  replace q0:=owns_below q0 hb
  replace bw:=bel_trans bw hb
  clear hb kVx kV kN qz q0 hO ut
  simp only at qr
  obtain ⟨ra,rn9,rc,rfl⟩:=own_slice6 qr
  go_wp2_with fail
  refine hK.out _ _ ⟨blk_range pP,blk_range pX⟩ (fun hS4=>?_)
  clear hK
  try simp only [Act.put,tka,tkb,tkc]
  refine tkm 5 21 (.agg #[.slice ra rn9 rc,.int .i64 (rr1:Int),.int .i64 (rr2:Int)]) ?_
  refine tkm 6 22 (.bool rok) ?_
  refine tkz 7 (fun K hK=>?_)
  refine step_store_blkD rfl 70 _ _ rfl (w.heap.size+1) [.slice ra rn9 rc,.int .i64 (rr1:Int),.int .i64 (rr2:Int)] rfl rfl pR (by kernel_rfl) rfl rfl ?_
  intro E1 pR9 g9
  have q9:=qr.kept g9 (.inr (own_ne_blk9 qr pR (by decide)))
  replace pP:=pP.kept g9 (by simp only [ne_eq,Option.some.injEq];omega)
  replace pX:=pX.kept g9 (by simp only [ne_eq,Option.some.injEq];omega)
  replace bw:=bw.grown g9 bw.size (fun q e=>by cases e;omega)
  refine hK.out _ _ ⟨blk_range pP,blk_range pX⟩ (fun hS5=>?_)
  clear hK
  try simp only [Act.put,tka,tkb,tkc]
  refine tkm 8 3 (.bool rok) ?_
  refine wpAnyH_done (by kernel_rfl) ?_ _
  go_wp2_with fail
  refine bodyPost_ret (results_blk2 Tryz.results96 _ _ _ _ _ _ rfl pR9.out Tryz.underlying70 rfl (by kernel_rfl)) rfl ?_
  exact ⟨⟨.slice ra rn9 rc,rfl,q9⟩,bw⟩
 ·have hb3:Below D0.heap.size D0 (D0.alloc (.cells #[] 3)):=by go_grown
  have qz:=own_emptyB D0 3 1 w.heap.size bw.size
  replace pP:=pP.below hb3
  replace pR:=pR.below hb3
  replace pX:=pX.below hb3
  replace q0:=owns_below q0 hb3
  replace bw:=bel_trans bw hb3
  go_simp
  refine hK.out _ _ ⟨blk_range pP,blk_range pX⟩ (fun hS2=>?_)
  clear hK hb3
  generalize (D0.alloc (.cells #[] 3))=D1 at *
  generalize D0.heap.size=gz at *
  try simp only [Act.put,tka,tkb,tkc]
  refine tkr 1 17 (fun K hK=>?_)
  go_simp
  refine (kN D1).mono ?_
  rintro e D2 ⟨⟨⟨⟨t0a,t0n,t0c⟩,⟨t1a,t1n,t1c⟩,⟨t2a,t2n,t2c⟩,⟨t3a,t3n,t3c⟩⟩,rfl,hO⟩,hb1⟩
  have ut:S4.val ((t0a,t0n,t0c),(t1a,t1n,t1c),(t2a,t2n,t2c),(t3a,t3n,t3c))=.agg #[.slice t0a t0n t0c,.slice t1a t1n t1c,.slice t2a t2n t2c,.slice t3a t3n t3c]:=rfl
  rw [ut]
  replace pP:=pP.below hb1
  replace pR:=pR.below hb1
  replace pX:=pX.below hb1
  replace q0:=owns_below q0 hb1
  replace bw:=bel_trans bw hb1
  replace qz:=owns_below qz hb1
  clear hb1
  go_wp2_with fail
  refine hK.out _ _ ⟨blk_range pP,blk_range pX⟩ (fun hS1=>?_)
  clear hK
  try simp only [Act.put,tka,tkb,tkc]
  have kVx:=kV D2 bw ((t0a,t0n,t0c),(t1a,t1n,t1c),(t2a,t2n,t2c),(t3a,t3n,t3c)) (hO.mem fz) (.slice (some ⟨gz,0,none⟩) 0 0) (by intro e;cases e) w.heap.size qz (.slice (some ⟨g0,0,none⟩) 0 0) q0
  rw [ut] at kVx
  refine tkr 4 20 (fun K hK=>?_)
  go_simp
  refine kVx.mono ?_
  rintro e D9 ⟨⟨rv,rfl,qr⟩,hb⟩
  replace pP:=pP.below hb
  replace pR:=pR.below hb
  replace pX:=pX.below hb
  replace q0:=owns_below q0 hb
  replace bw:=bel_trans bw hb
  clear hb kVx kV kN qz q0 hO ut
  simp only at qr
  obtain ⟨ra,rn9,rc,rfl⟩:=own_slice6 qr
  go_wp2_with fail
  refine hK.out _ _ ⟨blk_range pP,blk_range pX⟩ (fun hS4=>?_)
  clear hK
  try simp only [Act.put,tka,tkb,tkc]
  refine tkm 5 21 (.agg #[.slice ra rn9 rc,.int .i64 (rr1:Int),.int .i64 (rr2:Int)]) ?_
  refine tkm 6 22 (.bool rok) ?_
  refine tkz 7 (fun K hK=>?_)
  refine step_store_blkD rfl 70 _ _ rfl (w.heap.size+1) [.slice ra rn9 rc,.int .i64 (rr1:Int),.int .i64 (rr2:Int)] rfl rfl pR (by kernel_rfl) rfl rfl ?_
  intro E1 pR9 g9
  have q9:=qr.kept g9 (.inr (own_ne_blk9 qr pR (by decide)))
  replace pP:=pP.kept g9 (by simp only [ne_eq,Option.some.injEq];omega)
  replace pX:=pX.kept g9 (by simp only [ne_eq,Option.some.injEq];omega)
  replace bw:=bw.grown g9 bw.size (fun q e=>by cases e;omega)
  refine hK.out _ _ ⟨blk_range pP,blk_range pX⟩ (fun hS5=>?_)
  clear hK
  try simp only [Act.put,tka,tkb,tkc]
  refine tkm 8 3 (.bool rok) ?_
  refine wpAnyH_done (by kernel_rfl) ?_ _
  go_wp2_with fail
  refine bodyPost_ret (results_blk2 Tryz.results96 _ _ _ _ _ _ rfl pR9.out Tryz.underlying70 rfl (by kernel_rfl)) rfl ?_
  exact ⟨⟨.slice ra rn9 rc,rfl,q9⟩,bw⟩

theorem specSleepSearch_is (a:Option Addr) (len cap:Nat) (rows:List (List I3)) (w:World) (hC:Codes w a len cap rows) :
  Calls Tryz.prog 41 #[.agg #[.slice a len cap]] w fun e w'=>SlpGot e w' w.heap.size (slpB rows) (slpR rows) (slpN rows) (slpC rows)∧Below w.heap.size w w':=by
 have kP:=fun (W:World) (b:Below w.heap.size w W)=>specProgramOK_is a len cap rows W (hC.below b)
 have bw:Below w.heap.size w ((w.alloc (.cells #[.slice a len cap] 25)).alloc (.cells #[.slice none 0 0,.int .i64 0,.int .i64 0] 70)):=by go_grown
 have pP:Blk ((w.alloc (.cells #[.slice a len cap] 25)).alloc (.cells #[.slice none 0 0,.int .i64 0,.int .i64 0] 70)) w.heap.size 25 [.slice a len cap]:=blkOld _ (blkAt _ _ _ rfl)
 have pR:Blk ((w.alloc (.cells #[.slice a len cap] 25)).alloc (.cells #[.slice none 0 0,.int .i64 0,.int .i64 0] 70)) (w.heap.size+1) 70 [.slice none 0 0,.int .i64 0,.int .i64 0]:=blkAt _ _ _ (by simp)
 cases hp:progOk rows with
 | false =>
  have e:slpC rows=1:=by unfold slpC;rw [hp];rfl
  have e1:slpB rows=[]:=by unfold slpB;rw [e];rfl
  have e2:slpR rows=0:=by unfold slpR;rw [e];rfl
  have e3:slpN rows=0:=by unfold slpN;rw [e];rfl
  rw [e,e1,e2,e3]
  rw [hp] at kP
  clear e e1 e2 e3 hC
  go_enter Tryz.func41,Tryz.ntmps41
  go_wp2_with (first | refine wpList_load_blk rfl 25 _ rfl w.heap.size rfl pP _ Tryz.underlying25 rfl (by kernel_rfl) ?_)
  refine (kP _ bw).mono ?_
  rintro e w1 ⟨rfl,hb⟩
  replace bw:=bel_trans bw hb
  replace pR:=pR.below hb
  clear kP pP hb
  go_wp2_with (refine wpList_store_blk rfl 70 _ _ rfl (w.heap.size+1) [.slice none 0 0,.int .i64 0,.int .i64 0] rfl rfl pR (by kernel_rfl) rfl rfl ?_)
  intro E2 pR2 g2
  have b2:=bw.grown g2 bw.size (fun q e=>by cases e;omega)
  go_wp2_with fail
  refine bodyPost_ret (results_blk2 Tryz.results41 _ _ _ _ _ _ rfl pR2.out Tryz.underlying70 rfl (by kernel_rfl)) rfl ?_
  exact ⟨⟨_,rfl,World.ownsRow_nil _ _ _ _⟩,b2⟩
 | true =>
  obtain ⟨rfl,cs,hR⟩:=hC.rowsAt hp
  have kV:=fun (W:World) (b:Below w.heap.size w W)=>l07All_is (cap:=cap) (hR.below b) hp
  have hok:=slp_ok hp
  have hbg:=fun h=>slp_bugs hp h
  have HE1:Hid (slpC rows=if (slpS rows).2.2≤5000 then 0 else 15):=by rw [Hid,slpC,hp];rfl
  have HE2:Hid (slpB rows=if slpC rows=0 then mergeB (slpS rows).1 [] else []):=rfl
  have HE3:Hid (slpR rows=if slpC rows=0 then ((slpS rows).2.1:Int) else 0):=rfl
  have HE4:Hid (slpN rows=if slpC rows=0 then ((slpS rows).2.2:Int) else 0):=rfl
  rw [hp] at kP
  generalize slpO rows=rr at *
  obtain ⟨⟨rb,r1,r2⟩,rok⟩:=rr
  simp only at hok hbg
  have HOK:Hid (rok=decide ((slpS rows).2.2≤5000)):=hok
  have HBG:Hid ((slpS rows).2.2≤5000→(rb,r1,r2)=(mergeB (slpS rows).1 [],(slpS rows).2)):=hbg
  clear hok hbg
  cases rok with
  | true =>
   clear hC hR
   go_enter Tryz.func41,Tryz.ntmps41
   go_wp2_with (first | refine wpList_load_blk rfl 25 _ rfl w.heap.size rfl pP _ Tryz.underlying25 rfl (by kernel_rfl) ?_)
   refine (kP _ bw).mono ?_
   rintro e w1 ⟨rfl,hb⟩
   replace bw:=bel_trans bw hb
   replace pP:=pP.below hb
   replace pR:=pR.below hb
   clear kP hb
   have kVx:=kV w1 bw
   go_wp2_with (first | refine wpList_load_blk rfl 25 _ rfl w.heap.size rfl pP _ Tryz.underlying25 rfl (by kernel_rfl) ?_)
   refine kVx.mono ?_
   rintro e w2 ⟨⟨rv,rfl,qr⟩,hb⟩
   have hwb:=bw.size
   replace bw:=bel_trans bw hb
   replace pR:=pR.below hb
   replace qr:=own_lowerB (B':=w.heap.size) qr hwb
   clear kVx kV hb pP
   obtain ⟨ra,rn9,rc,rfl⟩:=own_slice6 qr
   have pN:=Blk.new w2 70 [.slice none 0 0,.int .i64 0,.int .i64 0]
   have ha:Below w2.heap.size w2 (w2.alloc (.cells #[.slice none 0 0,.int .i64 0,.int .i64 0] 70)):=by go_grown
   have hRl:=pR.lt
   go_wp2_with (refine wpList_store_blk rfl 70 _ _ rfl w2.heap.size [.slice ra rn9 rc,.int .i64 (r1:Int),.int .i64 (r2:Int)] rfl rfl pN (by kernel_rfl) rfl rfl ?_)
   intro w3 p3 g3
   have pY:=p3.out
   have hb3:Below w2.heap.size w2 w3:=ha.grown g3 ha.size (fun q e=>by cases e;exact Nat.le_refl _)
   replace bw:=bel_trans bw hb3
   replace pR:=pR.below hb3
   replace qr:=owns_below qr hb3
   clear p3 g3 ha pN hb3
   generalize w2.heap.size=Y at *
   have h5:(slpS rows).2.2≤5000:=by simpa using HOK.out.symm
   have hb9:=HBG.out h5
   have HC:Hid (slpC rows=0):=by rw [Hid,HE1.out,if_pos h5]
   have HB:Hid (slpB rows=rb):=by rw [Hid,HE2.out,HC.out];exact (congrArg Prod.fst hb9).symm
   have HR:Hid (slpR rows=(r1:Int)):=by rw [Hid,HE3.out,HC.out];exact congrArg (fun x:St7=>(x.2.1:Int)) hb9.symm
   have HN:Hid (slpN rows=(r2:Int)):=by rw [Hid,HE4.out,HC.out];exact congrArg (fun x:St7=>(x.2.2:Int)) hb9.symm
   clear HE1 HE2 HE3 HE4 HOK HBG hb9 h5
   go_wp2_with (first | refine wpList_load_blk rfl 70 _ rfl Y rfl pY _ Tryz.underlying70 rfl (by kernel_rfl) ?_ | refine wpList_store_blk rfl 70 _ _ rfl (w.heap.size+1) [.slice ra rn9 rc,.int .i64 (r1:Int),.int .i64 (r2:Int)] rfl rfl pR (by kernel_rfl) rfl rfl ?_)
   intro E2 pR2 g2
   have b2:=bw.grown g2 bw.size (fun q e=>by cases e;omega)
   have q2:=qr.kept g2 (.inr (own_ne_blk9 qr pR (by decide)))
   go_wp2_with fail
   refine bodyPost_ret (results_blk2 Tryz.results41 _ _ _ _ _ _ rfl pR2.out Tryz.underlying70 rfl (by kernel_rfl)) rfl ?_
   rw [HC.out,HB.out,HR.out,HN.out]
   exact ⟨⟨.slice ra rn9 rc,rfl,q2⟩,b2⟩
  | false =>
   clear hC hR
   go_enter Tryz.func41,Tryz.ntmps41
   go_wp2_with (first | refine wpList_load_blk rfl 25 _ rfl w.heap.size rfl pP _ Tryz.underlying25 rfl (by kernel_rfl) ?_)
   refine (kP _ bw).mono ?_
   rintro e w1 ⟨rfl,hb⟩
   replace bw:=bel_trans bw hb
   replace pP:=pP.below hb
   replace pR:=pR.below hb
   clear kP hb
   have kVx:=kV w1 bw
   go_wp2_with (first | refine wpList_load_blk rfl 25 _ rfl w.heap.size rfl pP _ Tryz.underlying25 rfl (by kernel_rfl) ?_)
   refine kVx.mono ?_
   rintro e w2 ⟨⟨rv,rfl,qr⟩,hb⟩
   have hwb:=bw.size
   replace bw:=bel_trans bw hb
   replace pR:=pR.below hb
   replace qr:=own_lowerB (B':=w.heap.size) qr hwb
   clear kVx kV hb pP
   obtain ⟨ra,rn9,rc,rfl⟩:=own_slice6 qr
   have pN:=Blk.new w2 70 [.slice none 0 0,.int .i64 0,.int .i64 0]
   have ha:Below w2.heap.size w2 (w2.alloc (.cells #[.slice none 0 0,.int .i64 0,.int .i64 0] 70)):=by go_grown
   have hRl:=pR.lt
   go_wp2_with (refine wpList_store_blk rfl 70 _ _ rfl w2.heap.size [.slice ra rn9 rc,.int .i64 (r1:Int),.int .i64 (r2:Int)] rfl rfl pN (by kernel_rfl) rfl rfl ?_)
   intro w3 p3 g3
   have pY:=p3.out
   have hb3:Below w2.heap.size w2 w3:=ha.grown g3 ha.size (fun q e=>by cases e;exact Nat.le_refl _)
   replace bw:=bel_trans bw hb3
   replace pR:=pR.below hb3
   replace qr:=owns_below qr hb3
   clear p3 g3 ha pN hb3
   generalize w2.heap.size=Y at *
   have h5:¬ (slpS rows).2.2≤5000:=by simpa using HOK.out.symm
   have HC:Hid (slpC rows=15):=by rw [Hid,HE1.out,if_neg h5]
   have HB:Hid (slpB rows=[]):=by rw [Hid,HE2.out,HC.out];rfl
   have HR:Hid (slpR rows=0):=by rw [Hid,HE3.out,HC.out];rfl
   have HN:Hid (slpN rows=0):=by rw [Hid,HE4.out,HC.out];rfl
   clear HE1 HE2 HE3 HE4 HOK HBG h5 qr pY
   go_wp2_with (refine wpList_store_blk rfl 70 _ _ rfl (w.heap.size+1) [.slice none 0 0,.int .i64 0,.int .i64 0] rfl rfl pR (by kernel_rfl) rfl rfl ?_)
   intro E2 pR2 g2
   have b2:=bw.grown g2 bw.size (fun q e=>by cases e;omega)
   go_wp2_with fail
   refine bodyPost_ret (results_blk2 Tryz.results41 _ _ _ _ _ _ rfl pR2.out Tryz.underlying70 rfl (by kernel_rfl)) rfl ?_
   rw [HC.out,HB.out,HR.out,HN.out]
   exact ⟨⟨.slice none 0 0,rfl,World.ownsRow_nil _ _ _ _⟩,b2⟩

open Go.RowKit Go.ChangeShapes

theorem gVmShape:Tryz.prog.globalNamed "loop.example/g00632/impl.vmShape"=some 0:=by kernel_rfl
theorem tVmShape:(Tryz.prog.globals[0]?).map (·.type)=some 174:=by kernel_rfl

section
variable {H : Type} {enc : TypeId × Value → H} {w : World} {base : Nat} {spare : Nat → Bool} {held : Bool}
theorem part_cells {fuel:Nat} {cs:List Value} {a b:Int} {p:List MemPlace} (h:DataW.trod enc Tryz.prog w base spare held fuel 173 cs=some (.agg [.lit (.int .i64 a),.lit (.int .i64 b)],p)):cs=[.int .i64 a,.int .i64 b]:=by
 obtain ⟨y0,y1,n,hx,hl,h0,h1⟩:=trod_struct2 Tryz.underlying173 h
 have hl2:cs.length=2:=hl.trans (by kernel_rfl)
 have hk:Tryz.prog.cellsOf 3=1:=by kernel_rfl
 match cs,hl2 with
 | [c0,c1],_ =>
  simp only [hk] at h0 h1
  obtain ⟨z0,e0,hy0,_⟩:=DataW.trod_int Tryz.underlying3 h0
  obtain ⟨z1,e1,hy1,_⟩:=DataW.trod_int Tryz.underlying3 h1
  simp at e0 e1
  subst hy0 hy1 e0 e1
  simp at hx
  simp [hx]
theorem shape_cells {fuel:Nat} {cs:List Value} {p:List MemPlace} (h:DataW.trod enc Tryz.prog w base spare held fuel 174 cs=some (Rows.laid_loop_example_g00632_impl_vmShape,p)):cs=[3,6,4,9,2,3,6,9].map (Value.int .i64):=by
 obtain ⟨xs,m,_,hx,hl,hn,hi⟩:=DataW.trod_array Tryz.underlying174 h
 have hk:Tryz.prog.cellsOf 173=2:=by kernel_rfl
 have hl8:cs.length=8:=hl.trans (by kernel_rfl)
 rw [hk] at hi
 match xs,hn with
 | [⟨x0,p0⟩,⟨x1,p1⟩,⟨x2,p2⟩,⟨x3,p3⟩],_ =>
  unfold Rows.laid_loop_example_g00632_impl_vmShape at hx
  simp at hx
  obtain ⟨⟨rfl,rfl,rfl,rfl⟩,_⟩:=hx
  match cs,hl8 with
  | [c0,c1,c2,c3,c4,c5,c6,c7],_ =>
   have g0:=part_cells (hi 0 (by decide))
   have g1:=part_cells (hi 1 (by decide))
   have g2:=part_cells (hi 2 (by decide))
   have g3:=part_cells (hi 3 (by decide))
   simp at g0 g1 g2 g3
   simp [g0,g1,g2,g3]
end

theorem vmShape_of_laid {W:World} {p:List (String × DataW Unit)} (hp:p=[("loop.example/g00632/impl.vmShape",Rows.laid_loop_example_g00632_impl_vmShape)]) (h:laidMetH Tryz.prog p W):VmShape W:=by
 subst hp
 rw [MakeChecks.laidMetH_plain _ _ _ (by kernel_rfl)] at h
 obtain ⟨ps,⟨g0,t0,cs0,f0,p0,q0,hg0,ht0,hv0,hd0,_,_⟩,_,_⟩:=h
 obtain rfl:=Option.some.inj (gVmShape.symm.trans hg0)
 obtain rfl:=Option.some.inj (tVmShape.symm.trans ht0)
 have hcs:=shape_cells hd0
 unfold World.var? at hv0
 simp only [gVmShape,Option.bind_some] at hv0
 cases hh:W.heap[0]? with
 | none=>rw [hh] at hv0;cases hv0
 | some o =>
  rw [hh] at hv0
  cases o with
  | cells cs t fr =>
   simp only [Option.some.injEq] at hv0
   subst hv0
   intro i v hi
   rw [← hcs] at hi
   simp only [World.cell?,hh]
   simpa using hi
  | _=>cases hv0
end Go.Proofs.YtifoggpohlegmaaGreatDoor
