/-
  Joined: SlaS, VmLaid, SlwE, SlpQ, AbgE, CntJ.
-/
import Derived.Test.YtdojjmkpelgcaaaGreatDoorRows
import Derived.ProofKit
import Derived.OpenShut
import Derived.LaidMore
import Derived.MakeChecks
import Derived.Stop.LaidErr
import Derived.Test.YtdojjmkpelgcaaaGreatDoorS11
import Derived.Test.YtdojjmkpelgcaaaGreatDoorS46

namespace Go.Proofs.YtdojjmkpelgcaaaGreatDoor
set_option maxRecDepth 100000
open Go.RowKit
set_option linter.unusedVariables false
set_option linter.unusedSimpArgs false

theorem can_zero {rows:List (List I3)} (hp:progOk rows=true):CanS rows 19 zeroV [] (deadM rows zeroV,0,0):=⟨zero_shape,by have:=left_18 hp zeroV;omega,fun j hj=>by simp at hj,by simp,by simp,by have:=dead_le1 rows zeroV;simp only;omega,by simp,deadM_ok rows zeroV⟩

set_option maxHeartbeats 4000000 in
theorem l07All_is {w:World} {a:Option Addr} {cap:Nat} {cs:Sl × Sl × Sl} {rows:List (List I3)} (hR:RowsAt w a cs rows) (hp:progOk rows=true) :
  Calls Tryz.prog 82 #[.agg #[.slice a 3 cap]] w fun e w'=>SchGot e w' w.heap.size (slpO rows)∧Below w.heap.size w w':=by
 have kN:=specNewVm_is
 have fz:=(shape_fits9 zero_shape).1
 have hst:stuckM rows zeroV=false:=stuck_zero rows
 have kU:=fun (W:World) (b:Below w.heap.size w W) (t:S4) (h:Vmem W t zeroV)=>l03Stuck_is a 3 cap rows t zeroV cs W rfl (hR.below b) h hp zero_shape
 rw [hst] at kU
 have hd0:deadM rows zeroV=[]:=by unfold deadM;rw [hst];rfl
 have hcan:=can_zero hp
 rw [hd0] at hcan
 have kV:=fun (W:World) (b:Below w.heap.size w W) (t:S4) (h:Vmem W t zeroV) (sv:Value) (hn:sv≠.slice none 0 0) (B2:Nat) (hz:W.ownsRow B2 3 1 sv 0 []) (bv:Value) (qb:W.ownsRow w.heap.size 64 3 bv 0 [])=>search_is (cap:=cap) hp 19 zeroV [] ([],0,0) hcan W a cs t sv w.heap.size B2 bv (hR.below b) h hn hz qb b.size
 have HO:Hid (schS rows 19 zeroV [] ([],0,0)=slpO rows):=by unfold slpO;rw [hd0];rfl
 rw [HO.out] at kV
 clear hcan hd0 HO hst
 generalize slpO rows=rr at *
 obtain ⟨⟨rb,rr1,rr2⟩,rok⟩:=rr
 have bw:Below w.heap.size w (((w.alloc (.cells #[.slice a 3 cap] 25)).alloc (.cells #[.slice none 0 0,.int .i64 0,.int .i64 0] 67)).alloc (.cells #[] 64)):=by go_grown
 have pP:Blk (((w.alloc (.cells #[.slice a 3 cap] 25)).alloc (.cells #[.slice none 0 0,.int .i64 0,.int .i64 0] 67)).alloc (.cells #[] 64)) w.heap.size 25 [.slice a 3 cap]:=blkOld _ (blkOld _ (blkAt _ _ _ rfl))
 have pR:Blk (((w.alloc (.cells #[.slice a 3 cap] 25)).alloc (.cells #[.slice none 0 0,.int .i64 0,.int .i64 0] 67)).alloc (.cells #[] 64)) (w.heap.size+1) 67 [.slice none 0 0,.int .i64 0,.int .i64 0]:=blkOld _ (blkAt _ _ _ (by simp))
 have q0:(((w.alloc (.cells #[.slice a 3 cap] 25)).alloc (.cells #[.slice none 0 0,.int .i64 0,.int .i64 0] 67)).alloc (.cells #[] 64)).ownsRow w.heap.size 64 3 (.slice (some ⟨w.heap.size+1+1,0,none⟩) 0 0) 0 []:=by
  have h9:=own_emptyB ((w.alloc (.cells #[.slice a 3 cap] 25)).alloc (.cells #[.slice none 0 0,.int .i64 0,.int .i64 0] 67)) 64 3 w.heap.size (by simp;omega)
  simpa using h9
 have pN:=Blk.new (((w.alloc (.cells #[.slice a 3 cap] 25)).alloc (.cells #[.slice none 0 0,.int .i64 0,.int .i64 0] 67)).alloc (.cells #[] 64)) 67 [.slice none 0 0,.int .i64 0,.int .i64 0]
 have hsz:(((w.alloc (.cells #[.slice a 3 cap] 25)).alloc (.cells #[.slice none 0 0,.int .i64 0,.int .i64 0] 67)).alloc (.cells #[] 64)).heap.size=w.heap.size+1+1+1:=by simp
 obtain ⟨g0,hg0⟩:∃ g0,g0=w.heap.size+1+1:=⟨_,rfl⟩
 rw [hsz] at pN
 clear hsz
 have ha:Below (((w.alloc (.cells #[.slice a 3 cap] 25)).alloc (.cells #[.slice none 0 0,.int .i64 0,.int .i64 0] 67)).alloc (.cells #[] 64)).heap.size (((w.alloc (.cells #[.slice a 3 cap] 25)).alloc (.cells #[.slice none 0 0,.int .i64 0,.int .i64 0] 67)).alloc (.cells #[] 64)) ((((w.alloc (.cells #[.slice a 3 cap] 25)).alloc (.cells #[.slice none 0 0,.int .i64 0,.int .i64 0] 67)).alloc (.cells #[] 64)).alloc (.cells #[.slice none 0 0,.int .i64 0,.int .i64 0] 67)):=by go_grown
 go_enter Tryz.func82,Tryz.ntmps82
 go_wp2_with (refine wpList_store_blk rfl 67 _ _ rfl (w.heap.size+1+1+1) [.slice (some ⟨w.heap.size+1+1,0,none⟩) 0 0,.int .i64 0,.int .i64 0] rfl rfl pN (by kernel_rfl) rfl rfl ?_)
 intro U pX9 gU
 have pX:=pX9.out
 replace pP:=(pP.below ha).kept gU (by simp only [ne_eq,Option.some.injEq];omega)
 replace pR:=(pR.below ha).kept gU (by simp only [ne_eq,Option.some.injEq];omega)
 replace q0:=(owns_below q0 ha).kept gU (.inr (by simp [Value.ownBlock]))
 replace bw:=(bel_trans bw ha).grown gU (bel_trans bw ha).size (fun q e=>by cases e;omega)
 obtain ⟨X0,hX0⟩:∃ X0,X0=w.heap.size+1+1+1:=⟨_,rfl⟩
 rw [← hX0] at pX ⊢
 have hXw:w.heap.size+1<X0:=by omega
 clear hX0
 rw [← hg0] at pX q0 ⊢
 clear pX9 gU ha pN hg0
 have hdr:Below U.heap.size U U.drew:=by go_grown
 go_wp2_with fail
 refine wp_region_held_drew (S:=(fun w'=>w'.rangeAt w.heap.size 0 [.slice a 3 cap])) (by kernel_rfl) (blk_range pP) (fun hS0=>?_)
 refine wpAnyH_take (i:=0) (oi:=⟨some 7,_,_,_,_,_⟩) (v:=.agg ([.slice a 3 cap]).toArray) rfl (by kernel_rfl) (by kernel_rfl) (by kernel_rfl) (fun _ _ _ h=>h) (yieldsIf_load_mid (by rfl) 25 _ rfl w.heap.size 0 rfl [.slice a 3 cap] _ (fun _ h=>h) Tryz.underlying25 rfl (by kernel_rfl)) (by assumption) ?_
 simp only [Act.put,tka,tkb,tkc]
 replace pP:=pP.below hdr
 replace pR:=pR.below hdr
 replace pX:=pX.below hdr
 replace q0:=owns_below q0 hdr
 replace bw:=bel_trans bw hdr
 clear hdr
 generalize U.drew=V at *
 refine tkr 1 8 (fun K hK=>?_)
 go_simp
 refine (kN V).mono ?_
 rintro e V1 ⟨⟨⟨⟨t0a,t0n,t0c⟩,⟨t1a,t1n,t1c⟩,⟨t2a,t2n,t2c⟩,⟨t3a,t3n,t3c⟩⟩,rfl,hO⟩,hb1⟩
 have ut:S4.val ((t0a,t0n,t0c),(t1a,t1n,t1c),(t2a,t2n,t2c),(t3a,t3n,t3c))=.agg #[.slice t0a t0n t0c,.slice t1a t1n t1c,.slice t2a t2n t2c,.slice t3a t3n t3c]:=rfl
 rw [ut]
 replace pP:=pP.below hb1
 replace pR:=pR.below hb1
 replace pX:=pX.below hb1
 replace q0:=owns_below q0 hb1
 replace bw:=bel_trans bw hb1
 clear hb1
 go_wp2_with fail
 refine hK.out _ _ (blk_range pP) (fun hS1=>?_)
 clear hK
 try simp only [Act.put,tka,tkb,tkc]
 have kUx:=kU V1 bw ((t0a,t0n,t0c),(t1a,t1n,t1c),(t2a,t2n,t2c),(t3a,t3n,t3c)) (hO.mem fz)
 rw [ut] at kUx
 refine tkr 2 9 (fun K hK=>?_)
 go_simp
 refine kUx.mono ?_
 rintro e V2 ⟨rfl,hb2⟩
 replace pP:=pP.below hb2
 replace pR:=pR.below hb2
 replace pX:=pX.below hb2
 replace q0:=owns_below q0 hb2
 replace bw:=bel_trans bw hb2
 clear hb2 kUx kU ut hO
 go_wp2_with fail
 refine hK.out _ _ (blk_range pP) (fun hS2=>?_)
 clear hK
 try simp only [Act.put,tka,tkb,tkc]
 refine wpAnyH_done (by kernel_rfl) ?_ _
 clear hS0 hS1 hS2
 go_wp2_with fail
 have hdr:Below V2.heap.size V2 V2.drew:=by go_grown
 refine wp_region_held_drew (S:=(fun w'=>w'.rangeAt w.heap.size 0 [.slice a 3 cap]∧w'.rangeAt X0 0 [.slice (some ⟨g0,0,none⟩) 0 0,.int .i64 0,.int .i64 0])) (by kernel_rfl) ⟨blk_range pP,blk_range pX⟩ (fun hS0=>?_)
 refine wpAnyH_take (i:=0) (oi:=⟨some 16,_,_,_,_,_⟩) (v:=.agg ([.slice a 3 cap]).toArray) rfl (by kernel_rfl) (by kernel_rfl) (by kernel_rfl) (fun _ _ _ h=>h) (yieldsIf_load_mid (by rfl) 25 _ rfl w.heap.size 0 rfl [.slice a 3 cap] _ (fun _ h=>h.1) Tryz.underlying25 rfl (by kernel_rfl)) (by assumption) ?_
 simp only [Act.put,tka,tkb,tkc]
 refine wpAnyH_take (i:=3) (oi:=⟨some 19,_,_,_,_,_⟩) (v:=.agg ([.slice (some ⟨g0,0,none⟩) 0 0,.int .i64 0,.int .i64 0]).toArray) rfl (by kernel_rfl) (by kernel_rfl) (by kernel_rfl) (fun _ _ _ h=>h) (yieldsIf_load_mid (by rfl) 67 _ rfl X0 0 rfl [.slice (some ⟨g0,0,none⟩) 0 0,.int .i64 0,.int .i64 0] _ (fun _ h=>h.2) Tryz.underlying67 rfl (by kernel_rfl)) (by assumption) ?_
 simp only [Act.put,tka,tkb,tkc]
 replace pP:=pP.below hdr
 replace pR:=pR.below hdr
 replace pX:=pX.below hdr
 replace q0:=owns_below q0 hdr
 replace bw:=bel_trans bw hdr
 clear hdr
 generalize V2.drew=D0 at *
 refine wpAnyH_ready (rs:=[1,2]) (by kernel_rfl) (by simp) ?_
 refine AllReadyH.cons (o:=⟨some 17,_,_,_,_,_⟩) rfl (fun K hK=>?_) (AllReadyH.cons (o:=⟨some 18,_,_,_,_,_⟩) rfl (fun K hK=>?_) AllReadyH.nil)
 ·go_simp
  refine (kN D0).mono ?_
  rintro e D1 ⟨⟨⟨⟨t0a,t0n,t0c⟩,⟨t1a,t1n,t1c⟩,⟨t2a,t2n,t2c⟩,⟨t3a,t3n,t3c⟩⟩,rfl,hO⟩,hb1⟩
  have ut:S4.val ((t0a,t0n,t0c),(t1a,t1n,t1c),(t2a,t2n,t2c),(t3a,t3n,t3c))=.agg #[.slice t0a t0n t0c,.slice t1a t1n t1c,.slice t2a t2n t2c,.slice t3a t3n t3c]:=rfl
  rw [ut]
  replace pP:=pP.below hb1
  replace pR:=pR.below hb1
  replace pX:=pX.below hb1
  replace q0:=owns_below q0 hb1
  replace bw:=bel_trans bw hb1
  clear hb1
  go_wp2_with fail
  refine hK.out _ _ ⟨blk_range pP,blk_range pX⟩ (fun hS1=>?_)
  clear hK
  try simp only [Act.put,tka,tkb,tkc]
  refine tkr 2 18 (fun K hK=>?_)
  have hb3:Below D1.heap.size D1 (D1.alloc (.cells #[] 3)):=by go_grown
  have qz:=own_emptyB D1 3 1 w.heap.size bw.size
  replace pP:=pP.below hb3
  replace pR:=pR.below hb3
  replace pX:=pX.below hb3
  replace q0:=owns_below q0 hb3
  replace bw:=bel_trans bw hb3
  replace hO:=hO.below hb3
  go_simp
  refine hK.out _ _ ⟨blk_range pP,blk_range pX⟩ (fun hS2=>?_)
  clear hK hb3
  generalize (D1.alloc (.cells #[] 3))=D2 at *
  generalize D1.heap.size=gz at *
  try simp only [Act.put,tka,tkb,tkc]
  have kVx:=kV D2 bw ((t0a,t0n,t0c),(t1a,t1n,t1c),(t2a,t2n,t2c),(t3a,t3n,t3c)) (hO.mem fz) (.slice (some ⟨gz,0,none⟩) 0 0) (by intro e;cases e) w.heap.size qz (.slice (some ⟨g0,0,none⟩) 0 0) q0
  rw [ut] at kVx
  refine tkr 4 20 (fun K hK=>?_)
  go_simp
  refine kVx.mono ?_
  rintro e D9 ⟨⟨rv,rfl,qr⟩,hb⟩
  replace pP:=pP.below hb
  replace pR:=pR.below hb
  replace pX:=pX.below hb
  replace q0:=owns_below q0 hb
  replace bw:=bel_trans bw hb
  clear hb kVx kV kN qz q0 hO ut
  simp only at qr
  obtain ⟨ra,rn9,rc,rfl⟩:=own_slice6 qr
  go_wp2_with fail
  refine hK.out _ _ ⟨blk_range pP,blk_range pX⟩ (fun hS4=>?_)
  clear hK
  try simp only [Act.put,tka,tkb,tkc]
  refine tkm 5 21 (.agg #[.slice ra rn9 rc,.int .i64 (rr1:Int),.int .i64 (rr2:Int)]) ?_
  refine tkm 6 22 (.bool rok) ?_
  refine tkz 7 (fun K hK=>?_)
  refine step_store_blkD rfl 67 _ _ rfl (w.heap.size+1) [.slice ra rn9 rc,.int .i64 (rr1:Int),.int .i64 (rr2:Int)] rfl rfl pR (by kernel_rfl) rfl rfl ?_
  intro E1 pR9 g9
  have q9:=qr.kept g9 (.inr (own_ne_blk9 qr pR (by decide)))
  replace pP:=pP.kept g9 (by simp only [ne_eq,Option.some.injEq];omega)
  replace pX:=pX.kept g9 (by simp only [ne_eq,Option.some.injEq];omega)
  replace bw:=bw.grown g9 bw.size (fun q e=>by cases e;omega)
  refine hK.out _ _ ⟨blk_range pP,blk_range pX⟩ (fun hS5=>?_)
  clear hK
  try simp only [Act.put,tka,tkb,tkc]
  refine tkm 8 3 (.bool rok) ?_
  refine wpAnyH_done (by kernel_rfl) ?_ _
  go_wp2_with fail
  refine bodyPost_ret (results_blk2 Tryz.results82 _ _ _ _ _ _ rfl pR9.out Tryz.underlying67 rfl (by kernel_rfl)) rfl ?_
  exact ⟨⟨.slice ra rn9 rc,rfl,q9⟩,bw⟩
 ·have hb3:Below D0.heap.size D0 (D0.alloc (.cells #[] 3)):=by go_grown
  have qz:=own_emptyB D0 3 1 w.heap.size bw.size
  replace pP:=pP.below hb3
  replace pR:=pR.below hb3
  replace pX:=pX.below hb3
  replace q0:=owns_below q0 hb3
  replace bw:=bel_trans bw hb3
  go_simp
  refine hK.out _ _ ⟨blk_range pP,blk_range pX⟩ (fun hS2=>?_)
  clear hK hb3
  generalize (D0.alloc (.cells #[] 3))=D1 at *
  generalize D0.heap.size=gz at *
  try simp only [Act.put,tka,tkb,tkc]
  refine tkr 1 17 (fun K hK=>?_)
  go_simp
  refine (kN D1).mono ?_
  rintro e D2 ⟨⟨⟨⟨t0a,t0n,t0c⟩,⟨t1a,t1n,t1c⟩,⟨t2a,t2n,t2c⟩,⟨t3a,t3n,t3c⟩⟩,rfl,hO⟩,hb1⟩
  have ut:S4.val ((t0a,t0n,t0c),(t1a,t1n,t1c),(t2a,t2n,t2c),(t3a,t3n,t3c))=.agg #[.slice t0a t0n t0c,.slice t1a t1n t1c,.slice t2a t2n t2c,.slice t3a t3n t3c]:=rfl
  rw [ut]
  replace pP:=pP.below hb1
  replace pR:=pR.below hb1
  replace pX:=pX.below hb1
  replace q0:=owns_below q0 hb1
  replace bw:=bel_trans bw hb1
  replace qz:=owns_below qz hb1
  clear hb1
  go_wp2_with fail
  refine hK.out _ _ ⟨blk_range pP,blk_range pX⟩ (fun hS1=>?_)
  clear hK
  try simp only [Act.put,tka,tkb,tkc]
  have kVx:=kV D2 bw ((t0a,t0n,t0c),(t1a,t1n,t1c),(t2a,t2n,t2c),(t3a,t3n,t3c)) (hO.mem fz) (.slice (some ⟨gz,0,none⟩) 0 0) (by intro e;cases e) w.heap.size qz (.slice (some ⟨g0,0,none⟩) 0 0) q0
  rw [ut] at kVx
  refine tkr 4 20 (fun K hK=>?_)
  go_simp
  refine kVx.mono ?_
  rintro e D9 ⟨⟨rv,rfl,qr⟩,hb⟩
  replace pP:=pP.below hb
  replace pR:=pR.below hb
  replace pX:=pX.below hb
  replace q0:=owns_below q0 hb
  replace bw:=bel_trans bw hb
  clear hb kVx kV kN qz q0 hO ut
  simp only at qr
  obtain ⟨ra,rn9,rc,rfl⟩:=own_slice6 qr
  go_wp2_with fail
  refine hK.out _ _ ⟨blk_range pP,blk_range pX⟩ (fun hS4=>?_)
  clear hK
  try simp only [Act.put,tka,tkb,tkc]
  refine tkm 5 21 (.agg #[.slice ra rn9 rc,.int .i64 (rr1:Int),.int .i64 (rr2:Int)]) ?_
  refine tkm 6 22 (.bool rok) ?_
  refine tkz 7 (fun K hK=>?_)
  refine step_store_blkD rfl 67 _ _ rfl (w.heap.size+1) [.slice ra rn9 rc,.int .i64 (rr1:Int),.int .i64 (rr2:Int)] rfl rfl pR (by kernel_rfl) rfl rfl ?_
  intro E1 pR9 g9
  have q9:=qr.kept g9 (.inr (own_ne_blk9 qr pR (by decide)))
  replace pP:=pP.kept g9 (by simp only [ne_eq,Option.some.injEq];omega)
  replace pX:=pX.kept g9 (by simp only [ne_eq,Option.some.injEq];omega)
  replace bw:=bw.grown g9 bw.size (fun q e=>by cases e;omega)
  refine hK.out _ _ ⟨blk_range pP,blk_range pX⟩ (fun hS5=>?_)
  clear hK
  try simp only [Act.put,tka,tkb,tkc]
  refine tkm 8 3 (.bool rok) ?_
  refine wpAnyH_done (by kernel_rfl) ?_ _
  go_wp2_with fail
  refine bodyPost_ret (results_blk2 Tryz.results82 _ _ _ _ _ _ rfl pR9.out Tryz.underlying67 rfl (by kernel_rfl)) rfl ?_
  exact ⟨⟨.slice ra rn9 rc,rfl,q9⟩,bw⟩

set_option maxHeartbeats 2000000 in
theorem specSleepSearch_is (a:Option Addr) (len cap:Nat) (rows:List (List I3)) (w:World) (hC:Codes w a len cap rows) :
  Calls Tryz.prog 36 #[.agg #[.slice a len cap]] w fun e w'=>SlpGot e w' w.heap.size (slpB rows) (slpR rows) (slpN rows) (slpC rows)∧Below w.heap.size w w':=by
 have kP:=fun (W:World) (b:Below w.heap.size w W)=>specProgramOK_is a len cap rows W (hC.below b)
 have bw:Below w.heap.size w ((w.alloc (.cells #[.slice a len cap] 25)).alloc (.cells #[.slice none 0 0,.int .i64 0,.int .i64 0] 67)):=by go_grown
 have pP:Blk ((w.alloc (.cells #[.slice a len cap] 25)).alloc (.cells #[.slice none 0 0,.int .i64 0,.int .i64 0] 67)) w.heap.size 25 [.slice a len cap]:=blkOld _ (blkAt _ _ _ rfl)
 have pR:Blk ((w.alloc (.cells #[.slice a len cap] 25)).alloc (.cells #[.slice none 0 0,.int .i64 0,.int .i64 0] 67)) (w.heap.size+1) 67 [.slice none 0 0,.int .i64 0,.int .i64 0]:=blkAt _ _ _ (by simp)
 cases hp:progOk rows with
 | false =>
  have e:slpC rows=1:=by unfold slpC;rw [hp];rfl
  have e1:slpB rows=[]:=by unfold slpB;rw [e];rfl
  have e2:slpR rows=0:=by unfold slpR;rw [e];rfl
  have e3:slpN rows=0:=by unfold slpN;rw [e];rfl
  rw [e,e1,e2,e3]
  rw [hp] at kP
  clear e e1 e2 e3 hC
  go_enter Tryz.func36,Tryz.ntmps36
  go_wp2_with (first | refine wpList_load_blk rfl 25 _ rfl w.heap.size rfl pP _ Tryz.underlying25 rfl (by kernel_rfl) ?_)
  refine (kP _ bw).mono ?_
  rintro e w1 ⟨rfl,hb⟩
  replace bw:=bel_trans bw hb
  replace pR:=pR.below hb
  clear kP pP hb
  go_wp2_with (refine wpList_store_blk rfl 67 _ _ rfl (w.heap.size+1) [.slice none 0 0,.int .i64 0,.int .i64 0] rfl rfl pR (by kernel_rfl) rfl rfl ?_)
  intro E2 pR2 g2
  have b2:=bw.grown g2 bw.size (fun q e=>by cases e;omega)
  go_wp2_with fail
  refine bodyPost_ret (results_blk2 Tryz.results36 _ _ _ _ _ _ rfl pR2.out Tryz.underlying67 rfl (by kernel_rfl)) rfl ?_
  exact ⟨⟨_,rfl,World.ownsRow_nil _ _ _ _⟩,b2⟩
 | true =>
  obtain ⟨rfl,cs,hR⟩:=hC.rowsAt hp
  have kV:=fun (W:World) (b:Below w.heap.size w W)=>l07All_is (cap:=cap) (hR.below b) hp
  have hok:=slp_ok hp
  have hbg:=fun h=>slp_bugs hp h
  have HE1:Hid (slpC rows=if (slpS rows).2.2≤5000 then 0 else 15):=by rw [Hid,slpC,hp];rfl
  have HE2:Hid (slpB rows=if slpC rows=0 then mergeB (slpS rows).1 [] else []):=rfl
  have HE3:Hid (slpR rows=if slpC rows=0 then ((slpS rows).2.1:Int) else 0):=rfl
  have HE4:Hid (slpN rows=if slpC rows=0 then ((slpS rows).2.2:Int) else 0):=rfl
  rw [hp] at kP
  generalize slpO rows=rr at *
  obtain ⟨⟨rb,r1,r2⟩,rok⟩:=rr
  simp only at hok hbg
  have HOK:Hid (rok=decide ((slpS rows).2.2≤5000)):=hok
  have HBG:Hid ((slpS rows).2.2≤5000→(rb,r1,r2)=(mergeB (slpS rows).1 [],(slpS rows).2)):=hbg
  clear hok hbg
  cases rok with
  | true =>
   clear hC hR
   go_enter Tryz.func36,Tryz.ntmps36
   go_wp2_with (first | refine wpList_load_blk rfl 25 _ rfl w.heap.size rfl pP _ Tryz.underlying25 rfl (by kernel_rfl) ?_)
   refine (kP _ bw).mono ?_
   rintro e w1 ⟨rfl,hb⟩
   replace bw:=bel_trans bw hb
   replace pP:=pP.below hb
   replace pR:=pR.below hb
   clear kP hb
   have kVx:=kV w1 bw
   go_wp2_with (first | refine wpList_load_blk rfl 25 _ rfl w.heap.size rfl pP _ Tryz.underlying25 rfl (by kernel_rfl) ?_)
   refine kVx.mono ?_
   rintro e w2 ⟨⟨rv,rfl,qr⟩,hb⟩
   have hwb:=bw.size
   replace bw:=bel_trans bw hb
   replace pR:=pR.below hb
   replace qr:=own_lowerB (B':=w.heap.size) qr hwb
   clear kVx kV hb pP
   obtain ⟨ra,rn9,rc,rfl⟩:=own_slice6 qr
   have pN:=Blk.new w2 67 [.slice none 0 0,.int .i64 0,.int .i64 0]
   have ha:Below w2.heap.size w2 (w2.alloc (.cells #[.slice none 0 0,.int .i64 0,.int .i64 0] 67)):=by go_grown
   have hRl:=pR.lt
   go_wp2_with (refine wpList_store_blk rfl 67 _ _ rfl w2.heap.size [.slice ra rn9 rc,.int .i64 (r1:Int),.int .i64 (r2:Int)] rfl rfl pN (by kernel_rfl) rfl rfl ?_)
   intro w3 p3 g3
   have pY:=p3.out
   have hb3:Below w2.heap.size w2 w3:=ha.grown g3 ha.size (fun q e=>by cases e;exact Nat.le_refl _)
   replace bw:=bel_trans bw hb3
   replace pR:=pR.below hb3
   replace qr:=owns_below qr hb3
   clear p3 g3 ha pN hb3
   generalize w2.heap.size=Y at *
   have h5:(slpS rows).2.2≤5000:=by simpa using HOK.out.symm
   have hb9:=HBG.out h5
   have HC:Hid (slpC rows=0):=by rw [Hid,HE1.out,if_pos h5]
   have HB:Hid (slpB rows=rb):=by rw [Hid,HE2.out,HC.out];exact (congrArg Prod.fst hb9).symm
   have HR:Hid (slpR rows=(r1:Int)):=by rw [Hid,HE3.out,HC.out];exact congrArg (fun x:St7=>(x.2.1:Int)) hb9.symm
   have HN:Hid (slpN rows=(r2:Int)):=by rw [Hid,HE4.out,HC.out];exact congrArg (fun x:St7=>(x.2.2:Int)) hb9.symm
   clear HE1 HE2 HE3 HE4 HOK HBG hb9 h5
   go_wp2_with (first | refine wpList_load_blk rfl 67 _ rfl Y rfl pY _ Tryz.underlying67 rfl (by kernel_rfl) ?_ | refine wpList_store_blk rfl 67 _ _ rfl (w.heap.size+1) [.slice ra rn9 rc,.int .i64 (r1:Int),.int .i64 (r2:Int)] rfl rfl pR (by kernel_rfl) rfl rfl ?_)
   intro E2 pR2 g2
   have b2:=bw.grown g2 bw.size (fun q e=>by cases e;omega)
   have q2:=qr.kept g2 (.inr (own_ne_blk9 qr pR (by decide)))
   go_wp2_with fail
   refine bodyPost_ret (results_blk2 Tryz.results36 _ _ _ _ _ _ rfl pR2.out Tryz.underlying67 rfl (by kernel_rfl)) rfl ?_
   rw [HC.out,HB.out,HR.out,HN.out]
   exact ⟨⟨.slice ra rn9 rc,rfl,q2⟩,b2⟩
  | false =>
   clear hC hR
   go_enter Tryz.func36,Tryz.ntmps36
   go_wp2_with (first | refine wpList_load_blk rfl 25 _ rfl w.heap.size rfl pP _ Tryz.underlying25 rfl (by kernel_rfl) ?_)
   refine (kP _ bw).mono ?_
   rintro e w1 ⟨rfl,hb⟩
   replace bw:=bel_trans bw hb
   replace pP:=pP.below hb
   replace pR:=pR.below hb
   clear kP hb
   have kVx:=kV w1 bw
   go_wp2_with (first | refine wpList_load_blk rfl 25 _ rfl w.heap.size rfl pP _ Tryz.underlying25 rfl (by kernel_rfl) ?_)
   refine kVx.mono ?_
   rintro e w2 ⟨⟨rv,rfl,qr⟩,hb⟩
   have hwb:=bw.size
   replace bw:=bel_trans bw hb
   replace pR:=pR.below hb
   replace qr:=own_lowerB (B':=w.heap.size) qr hwb
   clear kVx kV hb pP
   obtain ⟨ra,rn9,rc,rfl⟩:=own_slice6 qr
   have pN:=Blk.new w2 67 [.slice none 0 0,.int .i64 0,.int .i64 0]
   have ha:Below w2.heap.size w2 (w2.alloc (.cells #[.slice none 0 0,.int .i64 0,.int .i64 0] 67)):=by go_grown
   have hRl:=pR.lt
   go_wp2_with (refine wpList_store_blk rfl 67 _ _ rfl w2.heap.size [.slice ra rn9 rc,.int .i64 (r1:Int),.int .i64 (r2:Int)] rfl rfl pN (by kernel_rfl) rfl rfl ?_)
   intro w3 p3 g3
   have pY:=p3.out
   have hb3:Below w2.heap.size w2 w3:=ha.grown g3 ha.size (fun q e=>by cases e;exact Nat.le_refl _)
   replace bw:=bel_trans bw hb3
   replace pR:=pR.below hb3
   replace qr:=owns_below qr hb3
   clear p3 g3 ha pN hb3
   generalize w2.heap.size=Y at *
   have h5:¬ (slpS rows).2.2≤5000:=by simpa using HOK.out.symm
   have HC:Hid (slpC rows=15):=by rw [Hid,HE1.out,if_neg h5]
   have HB:Hid (slpB rows=[]):=by rw [Hid,HE2.out,HC.out];rfl
   have HR:Hid (slpR rows=0):=by rw [Hid,HE3.out,HC.out];rfl
   have HN:Hid (slpN rows=0):=by rw [Hid,HE4.out,HC.out];rfl
   clear HE1 HE2 HE3 HE4 HOK HBG h5 qr pY
   go_wp2_with (refine wpList_store_blk rfl 67 _ _ rfl (w.heap.size+1) [.slice none 0 0,.int .i64 0,.int .i64 0] rfl rfl pR (by kernel_rfl) rfl rfl ?_)
   intro E2 pR2 g2
   have b2:=bw.grown g2 bw.size (fun q e=>by cases e;omega)
   go_wp2_with fail
   refine bodyPost_ret (results_blk2 Tryz.results36 _ _ _ _ _ _ rfl pR2.out Tryz.underlying67 rfl (by kernel_rfl)) rfl ?_
   rw [HC.out,HB.out,HR.out,HN.out]
   exact ⟨⟨.slice none 0 0,rfl,World.ownsRow_nil _ _ _ _⟩,b2⟩

open Go.RowKit Go.ChangeShapes

theorem gVmShape:Tryz.prog.globalNamed "loop.example/g00632/impl.vmShape"=some 0:=by kernel_rfl
theorem tVmShape:(Tryz.prog.globals[0]?).map (·.type)=some 173:=by kernel_rfl

section
variable {H : Type} {enc : TypeId × Value → H} {w : World} {base : Nat} {spare : Nat → Bool} {held : Bool}
theorem part_cells {fuel:Nat} {cs:List Value} {a b:Int} {p:List MemPlace} (h:DataW.trod enc Tryz.prog w base spare held fuel 172 cs=some (.agg [.lit (.int .i64 a),.lit (.int .i64 b)],p)):cs=[.int .i64 a,.int .i64 b]:=by
 obtain ⟨y0,y1,n,hx,hl,h0,h1⟩:=trod_struct2 Tryz.underlying172 h
 have hl2:cs.length=2:=hl.trans (by kernel_rfl)
 have hk:Tryz.prog.cellsOf 3=1:=by kernel_rfl
 match cs,hl2 with
 | [c0,c1],_ =>
  simp only [hk] at h0 h1
  obtain ⟨z0,e0,hy0,_⟩:=DataW.trod_int Tryz.underlying3 h0
  obtain ⟨z1,e1,hy1,_⟩:=DataW.trod_int Tryz.underlying3 h1
  simp at e0 e1
  subst hy0 hy1 e0 e1
  simp at hx
  simp [hx]
theorem shape_cells {fuel:Nat} {cs:List Value} {p:List MemPlace} (h:DataW.trod enc Tryz.prog w base spare held fuel 173 cs=some (Rows.laid_loop_example_g00632_impl_vmShape,p)):cs=[3,6,4,9,2,3,6,9].map (Value.int .i64):=by
 obtain ⟨xs,m,_,hx,hl,hn,hi⟩:=DataW.trod_array Tryz.underlying173 h
 have hk:Tryz.prog.cellsOf 172=2:=by kernel_rfl
 have hl8:cs.length=8:=hl.trans (by kernel_rfl)
 rw [hk] at hi
 match xs,hn with
 | [⟨x0,p0⟩,⟨x1,p1⟩,⟨x2,p2⟩,⟨x3,p3⟩],_ =>
  unfold Rows.laid_loop_example_g00632_impl_vmShape at hx
  simp at hx
  obtain ⟨⟨rfl,rfl,rfl,rfl⟩,_⟩:=hx
  match cs,hl8 with
  | [c0,c1,c2,c3,c4,c5,c6,c7],_ =>
   have g0:=part_cells (hi 0 (by decide))
   have g1:=part_cells (hi 1 (by decide))
   have g2:=part_cells (hi 2 (by decide))
   have g3:=part_cells (hi 3 (by decide))
   simp at g0 g1 g2 g3
   simp [g0,g1,g2,g3]
end

theorem vmShape_of_laid {W:World} {p:List (String × DataW Unit)} (hp:p=[("loop.example/g00632/impl.vmShape",Rows.laid_loop_example_g00632_impl_vmShape)]) (h:laidMetH Tryz.prog p W):VmShape W:=by
 subst hp
 rw [MakeChecks.laidMetH_plain _ _ _ (by kernel_rfl)] at h
 obtain ⟨ps,⟨g0,t0,cs0,f0,p0,q0,hg0,ht0,hv0,hd0,_,_⟩,_,_⟩:=h
 obtain rfl:=Option.some.inj (gVmShape.symm.trans hg0)
 obtain rfl:=Option.some.inj (tVmShape.symm.trans ht0)
 have hcs:=shape_cells hd0
 unfold World.var? at hv0
 simp only [gVmShape,Option.bind_some] at hv0
 cases hh:W.heap[0]? with
 | none=>rw [hh] at hv0;cases hv0
 | some o =>
  rw [hh] at hv0
  cases o with
  | cells cs t fr =>
   simp only [Option.some.injEq] at hv0
   subst hv0
   intro i v hi
   rw [← hcs] at hi
   simp only [World.cell?,hh]
   simpa using hi
  | _=>cases hv0


theorem slpB_ok (rows:List (List I3)):(∀ x ∈ slpB rows,I3.fits x)∧(slpB rows).length≤100000:=by
 unfold slpB
 split
 ·rename_i h
  unfold slpC at h
  split at h
  ·rename_i hp
   split at h
   ·rename_i h5
    refine ⟨fun x hx=>?_,?_⟩
    ·rw [mem_mergeB] at hx
     rcases hx with hx | hx
     ·exact slp_fits hp x hx
     ·simp at hx
    ·have h1:=mergeB_len (slpS rows).1 []
     have h2:=(visI_size rows 19 zeroV [] ([],0,0) 0 (by simp) (by simp)).1
     have e:visI rows 19 zeroV [] ([],0,0)=slpS rows:=rfl
     rw [e] at h2
     simp only [List.length_nil] at h1
     omega
   ·omega
  ·omega
 ·exact ⟨fun x hx=>by simp at hx,by simp⟩


def cdC (m:V4) (x:I3) (k:Nat):Int:=if x.1=6 then (if m.2.2.1.getD x.2.1.toNat 0=k+1 then 0 else 13) else if x.1=1∨x.1=2∨x.1=3∨x.1=4∨x.1=5∨x.1=7 then 0 else if m.2.2.2.getD (k*2+x.2.1.toNat) 0=x.2.2 then 0 else 12
theorem step_cdC (m:V4) (x:I3) (k:Nat):(stepM m x k).2=cdC m x k:=by
 unfold stepM cdC
 rcases op_cases x with h | h | h | h | h | h | h | h | ⟨h1,h2,h3,h4,h5,h6,h7,h8⟩
 ·simp [h]
 ·simp [h]
 ·simp [h]
 ·simp [h]
 ·simp [h]
 ·simp [h];split<;>simp
 ·simp [h];split<;>simp
 ·simp [h];split<;>simp
 ·simp [h1,h2,h3,h4,h5,h6,h7];split<;>simp
theorem code_kept {m:V4} {x y:I3} {k l:Nat} (h:k≠l) (hx:okI x=true) (hy:okI y=true) (hc:¬ clashI x y):(stepM (stepM m x k).1 y l).2=(stepM m y l).2:=by
 rw [step_cdC,step_cdC]
 unfold cdC
 rw [step_parts]
 simp only
 by_cases h6:y.1=6
 ·rw [if_pos h6,if_pos h6,lk_kept hy hx (clash_symm hc) (.inr h6)]
 ·rw [if_neg h6,if_neg h6]
  split
  ·rfl
  ·rename_i q
   rw [reg_kept (Ne.symm h) hx ((ok_bounds hy).1 (fun e=>q (by simp [e])))]
theorem own_other {rows:List (List I3)} {m:V4} {k l:Nat} (hp:progOk rows=true) (hs:shapeOk m=true) (h1:haltM rows m (k:Int)=0) (h2:haltM rows m (l:Int)=0) (hd:depM (eventM rows m k) (eventM rows m l)=false) :
  ownM rows (goM rows m (k:Int)).1 (l:Int)=ownM rows m (l:Int):=by
 obtain ⟨a0,a1,a2,a3⟩:=halt_can h1
 obtain ⟨b0,b1,b2,b3⟩:=halt_can h2
 rw [Int.toNat_natCast] at a2 a3 b2 b3
 obtain ⟨hkl,hc⟩:=dep_clash hd
 obtain ⟨_,_,_,_,ox⟩:=at_ins hp hs (show k<3 by omega) a2
 obtain ⟨_,_,_,_,oy⟩:=at_ins hp hs (show l<3 by omega) b2
 have e:(goM rows (goM rows m (k:Int)).1 (l:Int)).2=(goM rows m (l:Int)).2:=by
  simp only [goM_natC]
  rw [ins_other hkl]
  exact code_kept hkl ox oy hc
 unfold ownM
 rw [e]
 have e2:(goM rows m (k:Int)).1.1.getD (l:Int).toNat 0=m.1.getD (l:Int).toNat 0:=by
  rw [goM_natC,Int.toNat_natCast]
  exact stepM_other m _ (Ne.symm hkl)
 rw [e2]

theorem runI_shift (rows:List (List I3)):∀ (ks:List Int) (m:V4) (fs:List I3),runI rows m fs ks=((runI rows m [] ks).1,fs++(runI rows m [] ks).2.1,(runI rows m [] ks).2.2)
 | [],m,fs=>by simp [runI]
 | k::ks,m,fs=>by
  by_cases hz:haltM rows m k=0
  ·rw [runI_yes hz,runI_yes hz,runI_shift rows ks _ (fs++ownM rows m k),runI_shift rows ks _ ([]++ownM rows m k)]
   simp
  ·have e:∀ f,runI rows m f (k::ks)=(m,f,haltM rows m k):=fun f=>by
    show (if haltM rows m k=0 then _ else _)=_
    rw [if_neg hz]
   rw [e,e]
   simp
def Eq7 (rows:List (List I3)) (m:V4) (ks ks':List Int):Prop:=(runI rows m [] ks').2.2=0∧(runI rows m [] ks').1=(runI rows m [] ks).1∧Sw (evsM rows m ks) (evsM rows m ks')∧∀ x,x ∈ (runI rows m [] ks').2.1↔x ∈ (runI rows m [] ks).2.1
theorem Eq7.same {rows:List (List I3)} {m:V4} {ks:List Int} (h:(runI rows m [] ks).2.2=0):Eq7 rows m ks ks:=⟨h,rfl,.refl _,fun _=>Iff.rfl⟩
theorem Eq7.trans {rows:List (List I3)} {m:V4} {a b c:List Int} (h:Eq7 rows m a b) (g:Eq7 rows m b c):Eq7 rows m a c:=⟨g.1,g.2.1.trans h.2.1,h.2.2.1.trans g.2.2.1,fun x=>(g.2.2.2 x).trans (h.2.2.2 x)⟩
theorem run_front {rows:List (List I3)} {m:V4} {k:Int} {ks:List Int} (hz:haltM rows m k=0):runI rows m [] (k::ks)=((runI rows (goM rows m k).1 [] ks).1,ownM rows m k++(runI rows (goM rows m k).1 [] ks).2.1,(runI rows (goM rows m k).1 [] ks).2.2):=by
 rw [runI_yes hz,runI_shift,List.nil_append]
theorem Eq7.cons {rows:List (List I3)} {m:V4} {k:Int} {a b:List Int} (hz:haltM rows m k=0) (h:Eq7 rows (goM rows m k).1 a b):Eq7 rows m (k::a) (k::b):=by
 obtain ⟨h1,h2,h3,h4⟩:=h
 unfold Eq7
 rw [run_front hz,run_front hz]
 refine ⟨h1,h2,Sw.cons _ h3,fun x=>?_⟩
 simp only [List.mem_append,h4]
theorem Eq7.swap {rows:List (List I3)} {m:V4} {k l:Int} {ks:List Int} (hp:progOk rows=true) (hs:shapeOk m=true) (h:(runI rows m [] (k::l::ks)).2.2=0) (hd:depM (eventM rows m k.toNat) (eventM rows m l.toNat)=false):Eq7 rows m (k::l::ks) (l::k::ks):=by
 obtain ⟨h1,e1⟩:=runI_cons h
 have h':=h
 rw [e1] at h'
 obtain ⟨h2,e2⟩:=runI_cons h'
 obtain ⟨a0,a1,_,_⟩:=halt_can h1
 obtain ⟨b0,b1,_,_⟩:=halt_can h2
 obtain ⟨k',rfl⟩:∃ k':Nat,k=k':=⟨k.toNat,by omega⟩
 obtain ⟨l',rfl⟩:∃ l':Nat,l=l':=⟨l.toNat,by omega⟩
 simp only [Int.toNat_natCast] at hd
 obtain ⟨hkl,_⟩:=dep_clash hd
 have hd2:depM (eventM rows m k') (eventM rows (goM rows m (k':Int)).1 l')=false:=by
  rw [goM_natC,event_other hkl];exact hd
 obtain ⟨g1,g2,g3,g4,g5⟩:=go_commute hp hs h1 h2 hd2
 obtain ⟨s1,s2,s3⟩:=run_swap hp hs h (by simpa only [Int.toNat_natCast] using hd2)
 have o1:=own_other hp hs h1 g1 hd
 have o2:=own_other hp hs g1 h1 (by rw [depM_symm];exact hd)
 refine ⟨s2,s1,?_,fun x=>?_⟩
 ·rw [s3]
  exact .step (.refl _) ⟨[],_,_,_,rfl,rfl,by simpa only [Int.toNat_natCast] using hd2⟩
 ·rw [run_front g1,run_front g2,run_front h1,run_front h2,o1,o2,g3]
  simp only [List.mem_append]
  constructor<;>rintro (q | q | q)<;>simp [q]

def lvL (rows:List (List I3)) (m:V4) (rec:V4→List Int→List (List Int)):List Int→List Int→List (List Int)
 | [],_=>[]
 | k::ks,Z=>if k ∈ Z then lvL rows m rec ks Z else (rec (goM rows m k).1 (stillM rows m Z k)).map (k::·)++lvL rows m rec ks (Z++[k])
def lvF (rows:List (List I3)):Nat→V4→List Int→List (List Int)
 | 0,_,_=>[]
 | f+1,m,Z=>if enabM rows m 3=[] then [[]] else lvL rows m (lvF rows f) (enabM rows m 3) Z
theorem lvL_skip {rows:List (List I3)} {m:V4} {rec:V4→List Int→List (List Int)} {k:Int} {ks Z:List Int} (h:k ∈ Z):lvL rows m rec (k::ks) Z=lvL rows m rec ks Z:=by rw [lvL,if_pos h]
theorem lvL_go {rows:List (List I3)} {m:V4} {rec:V4→List Int→List (List Int)} {k:Int} {ks Z:List Int} (h:k ∉ Z):lvL rows m rec (k::ks) Z=(rec (goM rows m k).1 (stillM rows m Z k)).map (k::·)++lvL rows m rec ks (Z++[k]):=by rw [lvL,if_neg h]

theorem halt_in7 {rows:List (List I3)} {m:V4} {k:Int} (h:haltM rows m k=0):k ∈ enabM rows m 3:=by
 obtain ⟨j,hj,e⟩:=List.mem_map.1 (nxM_of h)
 have:j=k:=congrArg Prod.fst e
 exact this▸hj
def Ini7 (rows:List (List I3)) (m:V4) (w:List Int) (k:Int):Prop:=∃ w',Eq7 rows m w (k::w')
theorem lvL_all {rows:List (List I3)} {m:V4} {f:Nat} {w:List Int} (hp:progOk rows=true) (hs:shapeOk m=true) (hf:leftN rows m≤f) (hr:(runI rows m [] w).2.2=0) (he:enabM rows (runI rows m [] w).1 3=[])
  (ih:∀ m Z w,shapeOk m=true→leftN rows m<f→(runI rows m [] w).2.2=0→enabM rows (runI rows m [] w).1 3=[]→(∀ j ∈ Z,¬ Ini7 rows m w j)→∃ ks ∈ lvF rows f m Z,Eq7 rows m w ks) :
  ∀ (ks Z:List Int),(∀ k ∈ ks,haltM rows m k=0)→(∀ j ∈ Z,haltM rows m j=0→¬ Ini7 rows m w j)→(∃ k ∈ ks,Ini7 rows m w k)→∃ us ∈ lvL rows m (lvF rows f) ks Z,Eq7 rows m w us
 | [],Z,_,_,⟨k,hk,_⟩=>by simp at hk
 | k::ks,Z,hk,hZ,hI=>by
  have hk':∀ j ∈ ks,haltM rows m j=0:=fun j hj=>hk j (List.mem_cons_of_mem _ hj)
  have h0:=hk k (List.mem_cons_self ..)
  by_cases hz:k ∈ Z
  ·rw [lvL_skip hz]
   refine lvL_all hp hs hf hr he ih ks Z hk' hZ ?_
   obtain ⟨j,hj,hi⟩:=hI
   rcases List.mem_cons.1 hj with rfl | hj
   ·exact absurd hi (hZ _ hz h0)
   ·exact ⟨j,hj,hi⟩
  ·rw [lvL_go hz]
   by_cases hi:Ini7 rows m w k
   ·obtain ⟨w',q⟩:=hi
    have q0:=q.1
    have q1:=q.2.1
    rw [run_front h0] at q0 q1
    simp only at q0 q1
    have hl:=left_step hp hs h0
    obtain ⟨us,hu,hE⟩:=ih (goM rows m k).1 (stillM rows m Z k) w' (goM_shape hp hs h0) (by omega) q0 (by rw [q1];exact he) (fun j hj=>by
     rintro ⟨w'',r⟩
     obtain ⟨hjZ,hjd⟩:=List.mem_filter.1 hj
     have hd:depM (eventM rows m k.toNat) (eventM rows m j.toNat)=false:=by simpa using hjd
     have r1:=Eq7.cons h0 r
     have r2:=Eq7.swap hp hs r1.1 hd
     have hj0:haltM rows m j=0:=(runI_cons r2.1).1
     exact hZ j hjZ hj0 ⟨_,(q.trans r1).trans r2⟩)
    exact ⟨k::us,List.mem_append_left _ (List.mem_map.2 ⟨us,hu,rfl⟩),q.trans (Eq7.cons h0 hE)⟩
   ·obtain ⟨us,hu,hE⟩:=lvL_all hp hs hf hr he ih ks (Z++[k]) hk' (fun j hj hj0=>by
     rcases List.mem_append.1 hj with hj | hj
     ·exact hZ j hj hj0
     ·rw [List.mem_singleton] at hj
      rw [hj];exact hi) (by
     obtain ⟨j,hj,hj2⟩:=hI
     rcases List.mem_cons.1 hj with rfl | hj
     ·exact absurd hj2 hi
     ·exact ⟨j,hj,hj2⟩)
    exact ⟨us,List.mem_append_right _ hu,hE⟩
theorem lv_all {rows:List (List I3)} (hp:progOk rows=true):∀ (f:Nat) (m:V4) (Z w:List Int),shapeOk m=true→leftN rows m<f→(runI rows m [] w).2.2=0→enabM rows (runI rows m [] w).1 3=[]→(∀ j ∈ Z,¬ Ini7 rows m w j)→∃ ks ∈ lvF rows f m Z,Eq7 rows m w ks
 | 0,_,_,_,_,h,_,_,_=>absurd h (Nat.not_lt_zero _)
 | f+1,m,Z,w,hs,hf,hr,he,hZ=>by
  rw [lvF]
  match w,hr,he,hZ with
  | [],hr,he,hZ =>
   have he':enabM rows m 3=[]:=he
   rw [if_pos he']
   exact ⟨[],List.mem_singleton.2 rfl,Eq7.same hr⟩
  | k::w,hr,he,hZ =>
   have h0:=(runI_cons hr).1
   have hne:enabM rows m 3≠[]:=fun e=>by have:=halt_in7 h0;rw [e] at this;simp at this
   rw [if_neg hne]
   exact lvL_all hp hs (by omega) hr he (lv_all hp f) _ _ (fun j hj=>enab_halt hj) (fun j hj _=>hZ j hj) ⟨k,halt_in7 h0,w,Eq7.same hr⟩

def Fnd7 (rows:List (List I3)) (m:V4) (L:List (List Int)) (st r:St7):Prop:=r.2.1=st.2.1+L.length∧(∀ x ∈ st.1,x ∈ r.1)∧∀ ks ∈ L,(runI rows m [] ks).2.2=0∧enabM rows (runI rows m [] ks).1 3=[]∧∀ x,(x ∈ (runI rows m [] ks).2.1∨x ∈ deadM rows (runI rows m [] ks).1)→x ∈ r.1
theorem slpL_fnd {rows:List (List I3)} {m:V4} {f:Nat} (ih:∀ m Z st,(visI rows f m Z st).2.2≤5000→leftN rows m<f→shapeOk m=true→Fnd7 rows m (lvF rows f m Z) st (visI rows f m Z st)) (hp:progOk rows=true) (hs:shapeOk m=true) (hf:leftN rows m≤f) :
  ∀ (ks Z:List Int) (st:St7),(∀ k ∈ ks,haltM rows m k=0)→(slpL rows m (visI rows f) ks Z st).2.2≤5000→Fnd7 rows m (lvL rows m (lvF rows f) ks Z) st (slpL rows m (visI rows f) ks Z st)
 | [],Z,st,_,_=>⟨by simp [slpL,lvL],fun x hx=>hx,fun ks hk=>by simp [lvL] at hk⟩
 | k::ks,Z,st,hk,h5=>by
  have hk':∀ j ∈ ks,haltM rows m j=0:=fun j hj=>hk j (List.mem_cons_of_mem _ hj)
  have h0:=hk k (List.mem_cons_self ..)
  by_cases hz:k ∈ Z
  ·rw [slpL_skip hz] at h5 ⊢
   rw [lvL_skip hz]
   exact slpL_fnd ih hp hs hf ks Z st hk' h5
  ·rw [slpL_go hz] at h5 ⊢
   rw [lvL_go hz]
   have hl:=left_step hp hs h0
   have h6:=Nat.le_trans (slpL_mono (visI_mono rows f) ks (Z++[k]) (visI rows f (goM rows m k).1 (stillM rows m Z k) (st.1++ownM rows m k,st.2))) h5
   obtain ⟨a1,a2,a3⟩:=ih (goM rows m k).1 (stillM rows m Z k) (st.1++ownM rows m k,st.2) h6 (by omega) (goM_shape hp hs h0)
   obtain ⟨b1,b2,b3⟩:=slpL_fnd ih hp hs hf ks (Z++[k]) _ hk' h5
   refine ⟨?_,fun x hx=>b2 x (a2 x (List.mem_append_left _ hx)),fun us hu=>?_⟩
   ·rw [b1,a1,List.length_append,List.length_map]
    simp only
    omega
   ·rcases List.mem_append.1 hu with hu | hu
    ·obtain ⟨vs,hv,rfl⟩:=List.mem_map.1 hu
     obtain ⟨c1,c2,c3⟩:=a3 vs hv
     rw [run_front h0]
     refine ⟨c1,c2,fun x hx=>b2 x ?_⟩
     simp only [List.mem_append] at hx
     rcases hx with (hx | hx) | hx
     ·exact a2 x (List.mem_append_right _ hx)
     ·exact c3 x (.inl hx)
     ·exact c3 x (.inr hx)
    ·exact b3 us hu
theorem vis_fnd {rows:List (List I3)} (hp:progOk rows=true):∀ (f:Nat) (m:V4) (Z:List Int) (st:St7),(visI rows f m Z st).2.2≤5000→leftN rows m<f→shapeOk m=true→Fnd7 rows m (lvF rows f m Z) st (visI rows f m Z st)
 | 0,_,_,_,_,h,_=>absurd h (Nat.not_lt_zero _)
 | f+1,m,Z,st,h5,hf,hs=>by
  rw [visI] at h5 ⊢
  rw [lvF]
  split at h5
  ·rename_i h;simp only at h5;omega
  ·rename_i h
   rw [if_neg h]
   obtain ⟨a1,a2,a3⟩:=slpL_fnd (vis_fnd hp f) hp hs (by omega) (enabM rows m 3) Z (inSt rows m st) (fun k hk=>enab_halt hk) h5
   by_cases he:enabM rows m 3=[]
   ·rw [if_pos he]
    rw [he] at a1 a2 a3 ⊢
    refine ⟨?_,fun x hx=>a2 x (List.mem_append_left _ hx),fun ks hk=>?_⟩
    ·rw [a1];unfold inSt;simp [lvL,he]
    ·rw [List.mem_singleton] at hk
     subst hk
     refine ⟨rfl,he,fun x hx=>a2 x ?_⟩
     simp [runI] at hx
     exact List.mem_append_right _ hx
   ·rw [if_neg he]
    refine ⟨?_,fun x hx=>a2 x (List.mem_append_left _ hx),a3⟩
    rw [a1];unfold inSt;simp [he]

theorem to_end {rows:List (List I3)} (hp:progOk rows=true):∀ (n:Nat) (m:V4),shapeOk m=true→leftN rows m≤n→∃ w,(runI rows m [] w).2.2=0∧enabM rows (runI rows m [] w).1 3=[]
 | n,m,hs,hn=>by
  by_cases he:enabM rows m 3=[]
  ·exact ⟨[],rfl,he⟩
  ·obtain ⟨k,hk⟩:=List.exists_mem_of_ne_nil _ he
   have h0:=enab_halt hk
   have hl:=left_step hp hs h0
   match n,hn with
   | 0,hn=>omega
   | n+1,hn =>
    obtain ⟨w,h1,h2⟩:=to_end hp n (goM rows m k).1 (goM_shape hp hs h0) (by omega)
    exact ⟨k::w,by rw [run_front h0];exact h1,by rw [run_front h0];exact h2⟩
theorem all_runs {rows:List (List I3)} (hp:progOk rows=true) {x:I3} (hx:x ∈ allI rows (fullS rows)):∃ w,(runI rows zeroV [] w).2.2=0∧enabM rows (runI rows zeroV [] w).1 3=[]∧(x ∈ (runI rows zeroV [] w).2.1∨x ∈ deadM rows (runI rows zeroV [] w).1):=by
 obtain ⟨r,hr,hb⟩:=mem_allI.1 hx
 obtain ⟨j,hj,hjr⟩:=List.getElem_of_mem hr
 have hjs:(fullS rows)[j]?=some r:=by rw [List.getElem?_eq_getElem hj,hjr]
 obtain ⟨p1,p2,_⟩:=path_run (fullS_came rows) (fullS_head rows) j j r (Nat.le_refl _) hjs
 generalize pathS (fullS rows) j j=pre at *
 have hs:=fullS_shaped hp r hr
 rcases mem_bugsI.1 hb with hd | ⟨k,hk,ho⟩
 ·refine ⟨pre,p2,?_,.inr (by rw [p1];exact hd)⟩
  rw [p1]
  unfold deadM at hd
  split at hd
  ·rename_i q
   unfold stuckM at q
   simp only [Bool.and_eq_true,decide_eq_true_eq] at q
   exact q.1
  ·simp at hd
 ·have h0:=enab_halt hk
  obtain ⟨w,h1,h2⟩:=to_end hp _ (goM rows r.1 k).1 (goM_shape hp hs h0) (Nat.le_refl _)
  have e:=(run_app (rows:=rows) pre (k::w) zeroV [] p2).1
  rw [p1,runI_shift rows (k::w) r.1 (runI rows zeroV [] pre).2.1,run_front h0] at e
  refine ⟨pre++k::w,?_,?_,.inl ?_⟩
  ·rw [e];exact h1
  ·rw [e];exact h2
  ·rw [e]
   simp only [List.mem_append]
   exact .inr (.inl ho)
theorem slpL_in {rows:List (List I3)} {f:Nat} {m:V4} (hf:(fullS rows).length≤2000) (hm:m ∈ (fullS rows).map (·.1)) {x:I3} (ih:∀ m Z st,m ∈ (fullS rows).map (·.1)→x ∈ (visI rows f m Z st).1→x ∈ st.1∨x ∈ allI rows (fullS rows)) :
  ∀ (ks Z:List Int) (st:St7),(∀ k ∈ ks,haltM rows m k=0)→x ∈ (slpL rows m (visI rows f) ks Z st).1→x ∈ st.1∨x ∈ allI rows (fullS rows)
 | [],Z,st,_,h=>.inl h
 | k::ks,Z,st,hk,h=>by
  have hk':∀ j ∈ ks,haltM rows m j=0:=fun j hj=>hk j (List.mem_cons_of_mem _ hj)
  have h0:=hk k (List.mem_cons_self ..)
  by_cases hz:k ∈ Z
  ·rw [slpL_skip hz] at h
   exact slpL_in hf hm ih ks Z st hk' h
  ·rw [slpL_go hz] at h
   obtain ⟨r,hr,rfl⟩:=List.mem_map.1 hm
   rcases slpL_in hf hm ih ks _ _ hk' h with h | h
   ·rcases ih _ _ _ (fullS_closed hf r hr _ (nxM_of h0)) h with h | h
    ·rcases List.mem_append.1 h with h | h
     ·exact .inl h
     ·exact .inr (mem_allI.2 ⟨r,hr,mem_bugsI.2 (.inr ⟨k,halt_in7 h0,h⟩)⟩)
    ·exact .inr h
   ·exact .inr h
theorem vis_in {rows:List (List I3)} (hf:(fullS rows).length≤2000) {x:I3}:∀ (f:Nat) (m:V4) (Z:List Int) (st:St7),m ∈ (fullS rows).map (·.1)→x ∈ (visI rows f m Z st).1→x ∈ st.1∨x ∈ allI rows (fullS rows)
 | 0,_,_,st,_,h=>.inl h
 | f+1,m,Z,st,hm,h=>by
  rw [visI] at h
  split at h
  ·exact .inl h
  ·rcases slpL_in hf hm (vis_in hf f) _ _ _ (fun k hk=>enab_halt hk) h with h | h
   ·rcases List.mem_append.1 h with h | h
    ·exact .inl h
    ·obtain ⟨r,hr,rfl⟩:=List.mem_map.1 hm
     exact .inr (mem_allI.2 ⟨r,hr,mem_bugsI.2 (.inl h)⟩)
   ·exact .inr h
theorem slp_all {rows:List (List I3)} (hp:progOk rows=true) (hf:(fullS rows).length≤2000) (h5:(slpS rows).2.2≤5000):mergeB (slpS rows).1 []=allI rows (fullS rows):=by
 refine (mergeB_rises _ _).same (mergeB_rises _ _) (fun x=>?_)
 rw [mem_mergeB]
 constructor
 ·rintro (h | h)
  ·rcases vis_in hf 19 zeroV [] _ (List.mem_map.2 ⟨_,List.mem_of_getElem? (fullS_head rows),rfl⟩) h with h | h
   ·simp at h
   ·exact h
  ·simp at h
 ·intro h
  refine .inl ?_
  have hl:=left_18 hp zeroV
  obtain ⟨w,h1,h2,h3⟩:=all_runs hp h
  obtain ⟨ks,hk,q1,q2,q3,q4⟩:=lv_all hp 19 zeroV [] w zero_shape (by omega) h1 h2 (fun j hj=>by simp at hj)
  obtain ⟨_,_,a3⟩:=vis_fnd hp 19 zeroV [] ([],0,0) h5 (by omega) zero_shape
  refine (a3 ks hk).2.2 x ?_
  rw [q4,q2]
  exact h3
theorem cap_mono {a b:Nat} (h:a≤b):capN a≤capN b:=by rw [capN_eq,capN_eq];omega
theorem lvL_cnt {rows:List (List I3)} {m:V4} {f:Nat} (ih:∀ m Z,shapeOk m=true→leftN rows m<f→capN (lvF rows f m Z).length≤cntM rows m) (hp:progOk rows=true) (hs:shapeOk m=true) (hf:leftN rows m≤f) :
  ∀ (ks Z:List Int),(∀ k ∈ ks,haltM rows m k=0)→capN (lvL rows m (lvF rows f) ks Z).length≤capN (ks.map fun k=>cntM rows (goM rows m k).1).sum
 | [],Z,_=>by simp [lvL]
 | k::ks,Z,hk=>by
  have hk':∀ j ∈ ks,haltM rows m j=0:=fun j hj=>hk j (List.mem_cons_of_mem _ hj)
  have h0:=hk k (List.mem_cons_self ..)
  have hl:=left_step hp hs h0
  by_cases hz:k ∈ Z
  ·rw [lvL_skip hz]
   refine Nat.le_trans (lvL_cnt ih hp hs hf ks Z hk') (cap_mono ?_)
   simp
  ·rw [lvL_go hz]
   have a:=ih (goM rows m k).1 (stillM rows m Z k) (goM_shape hp hs h0) (by omega)
   have b:=lvL_cnt ih hp hs hf ks (Z++[k]) hk'
   rw [List.length_append,List.length_map,List.map_cons,List.sum_cons]
   rw [capN_eq] at a b ⊢
   rw [capN_eq] at b ⊢
   omega
theorem lv_cnt {rows:List (List I3)} (hp:progOk rows=true):∀ (f:Nat) (m:V4) (Z:List Int),shapeOk m=true→leftN rows m<f→capN (lvF rows f m Z).length≤cntM rows m
 | 0,_,_,_,h=>absurd h (Nat.not_lt_zero _)
 | f+1,m,Z,hs,hf=>by
  rw [lvF,cnt_eq hp hs]
  by_cases he:enabM rows m 3=[]
  ·rw [if_pos he,if_pos he];exact Nat.min_le_left _ _
  ·rw [if_neg he,if_neg he]
   exact lvL_cnt (lv_cnt hp f) hp hs (by omega) _ _ (fun k hk=>enab_halt hk)
theorem slp_runs {rows:List (List I3)} (hp:progOk rows=true) (h5:(slpS rows).2.2≤5000):(slpS rows).2.1≤cntM rows zeroV:=by
 have hl:=left_18 hp zeroV
 obtain ⟨a1,_,_⟩:=vis_fnd hp 19 zeroV [] ([],0,0) h5 (by omega) zero_shape
 have b:=lv_cnt hp 19 zeroV [] zero_shape (by omega)
 have c:=(visI_size rows 19 zeroV [] ([],0,0) 0 (by simp) (by simp)).2
 have d:(slpS rows).2.1=(lvF rows 19 zeroV []).length:=by unfold slpS;rw [a1];simp
 have e:(slpS rows).2.1≤(slpS rows).2.2:=c
 rw [capN_eq] at b
 omega


theorem allI_ok {rows:List (List I3)} {S:List (Rec6 V4)} (hp:progOk rows=true) (hS:Shaped S):∀ x ∈ allI rows S,okB x=true:=fun x hx=>by
 obtain ⟨r,hr,hx⟩:=mem_allI.1 hx
 unfold bugsI at hx
 split at hx
 ·simp at hx;subst hx;rfl
 ·obtain ⟨k,hk,hx⟩:=List.mem_flatMap.1 hx
  exact ownM_ok hp (hS r hr) (enab_halt hk) x hx
theorem flat_len6 {f:Rec6 V4→List I3} (hf:∀ r,(f r).length≤3):∀ S:List (Rec6 V4),(S.flatMap f).length≤3*S.length
 | []=>by simp
 | r::S=>by
  have:=flat_len6 hf S
  have:=hf r
  rw [List.flatMap_cons,List.length_append,List.length_cons]
  omega
theorem bugsO_ok (rows:List (List I3)):(∀ x ∈ bugsO rows,I3.fits x)∧(bugsO rows).length≤100000:=by
 unfold bugsO
 split
 ·rename_i h
  obtain ⟨hp,hf⟩:=code_parts h
  refine ⟨fun x hx=>okB_fitsQ (allI_ok hp (fullS_shaped hp) x hx),?_⟩
  unfold allI
  have h1:=mergeB_len ((fullS rows).flatMap fun r=>bugsI rows r.1) []
  have h2:=flat_len6 (f:=fun r=>bugsI rows r.1) (fun r=>bugsI_len6 rows r.1) (fullS rows)
  simp only [List.length_nil] at h1
  omega
 ·exact ⟨fun x hx=>by simp at hx,by simp⟩


theorem runs_all (rows:List (List I3)) (L:List (Rec6 V4 × Value)) (X nb vc B Bc g c:Nat) (va:Option Addr) (cs:Sl × Sl × Sl) (hp:progOk rows=true) (hsh:Shaped (L.map (·.1))) (hcl:∀ r ∈ L.map (·.1),∀ t ∈ nxM rows r.1,t.2 ∈ (L.map (·.1)).map (·.1)) (hl:L.length≤2000) :
  ∀ (n at9:Nat) (r:Rec6 V4) (mv:Value),L[at9]?=some (r,mv)→leftN rows r.1<n→RunsC rows L X nb vc B Bc g c va cs at9 r.1
 | 0,_,_,_,_,h=>by omega
 | n+1,at9,r,mv,hr,h=>runs_step rows L X nb vc B Bc g c va cs hp hsh hcl hl hr (fun at' r' mv' hr' h'=>runs_all rows L X nb vc B Bc g c va cs hp hsh hcl hl n at' r' mv' hr' (by omega))
def countV (rows:List (List I3)):Int:=if codeF rows=0 then (cntM rows zeroV:Int) else 0
theorem ctOk_zero (rows:List (List I3)) (L:List (Rec6 V4 × Value)):CtOk rows L (List.replicate L.length 0):=⟨by simp,fun i r mv h=>by
 left
 have hl:i<L.length:=(List.getElem?_eq_some_iff.1 h).1
 simp [List.getD,hl]⟩

set_option maxHeartbeats 2000000 in
theorem implCountRuns_not (a:Option Addr) (len cap:Nat) (rows:List (List I3)) (w:World) (hC:Codes w a len cap rows) (hV:VmShape w) (hc:codeF rows≠0) :
  Calls Tryz.prog 37 #[.agg #[.slice a len cap]] w fun e w'=>e=.returned (.tuple #[.int .i64 0,.int .i64 (codeF rows)])∧Below w.heap.size w w':=by
 have kS:=fun (W:World) (b:Below w.heap.size w W) (t:S4) (h:Vmem W t zeroV)=>spaceOf_not a len cap rows t W (hC.below b) h (hV.below b) hc
 generalize codeF rows=c at *
 have hcn:(c != 0)=true:=by simpa using hc
 have fz:=(shape_fits9 zero_shape).1
 have kN:=implNewVm_is
 have bw:Below w.heap.size w (w.alloc (.cells #[.slice a len cap] 25)):=by go_grown
 have pP:Blk (w.alloc (.cells #[.slice a len cap] 25)) w.heap.size 25 [.slice a len cap]:=blkAt _ _ _ rfl
 go_enter Tryz.func37,Tryz.ntmps37
 go_wp2_with fail
 generalize (w.alloc (.cells #[.slice a len cap] 25))=U at *
 go_cut [4,5] from 6 (fun s4 s5 W=>CutF w W c s4 s5)
 case first =>
  have hdr:Below U.heap.size U U.drew:=by go_grown
  refine wp_region_held_drew (S:=(fun w'=>w'.cell? ⟨w.heap.size,0,none⟩=some (.slice a len cap))) (by kernel_rfl) (by simpa using pP.cell 0) (fun hS0=>?_)
  refine tkm 0 7 (.agg #[.slice a len cap]) ?_
  have pP9:=pP.below hdr
  replace bw:=bel_trans bw hdr
  clear hdr
  generalize U.drew=V at *
  have bt:Below V.heap.size V V:=Below.refl _ _
  refine wpAnyH_ready (rs:=[1,6]) (by kernel_rfl) (by simp) ?_
  refine AllReadyH.cons (o:=⟨some 8,_,_,_,_,_⟩) rfl (fun K hK=>?_) (AllReadyH.cons (o:=⟨some 4,_,_,_,_,_⟩) rfl (fun K hK=>?_) AllReadyH.nil)
  ·go_simp
   refine (kN V).mono ?_
   rintro e V1 ⟨⟨⟨⟨t0a,t0n,t0c⟩,⟨t1a,t1n,t1c⟩,⟨t2a,t2n,t2c⟩,⟨t3a,t3n,t3c⟩⟩,rfl,hO⟩,hb1⟩
   have ut:S4.val ((t0a,t0n,t0c),(t1a,t1n,t1c),(t2a,t2n,t2c),(t3a,t3n,t3c))=.agg #[.slice t0a t0n t0c,.slice t1a t1n t1c,.slice t2a t2n t2c,.slice t3a t3n t3c]:=rfl
   rw [ut]
   have bt:=bel_trans bt hb1
   go_wp2_with fail
   refine hK.out _ _ (cells_kept bt _ _ hS0) (fun hS1=>?_)
   clear hK
   try simp only [Act.put,tka,tkb,tkc]
   refine wpAnyH_ready (rs:=[2,6]) (by kernel_rfl) (by simp) ?_
   refine AllReadyH.cons (o:=⟨some 9,_,_,_,_,_⟩) rfl (fun K hK=>?_) (AllReadyH.cons (o:=⟨some 4,_,_,_,_,_⟩) rfl (fun K hK=>?_) AllReadyH.nil)
   ·have kx:=kS V1 (bel_trans bw bt) ((t0a,t0n,t0c),(t1a,t1n,t1c),(t2a,t2n,t2c),(t3a,t3n,t3c)) (hO.mem fz)
    rw [ut] at kx
    go_simp
    refine kx.mono ?_
    rintro e V2 ⟨rfl,hb2⟩
    have bt:=bel_trans bt hb2
    go_wp2_with fail
    refine hK.out _ _ (cells_kept bt _ _ hS0) (fun hS2=>?_)
    clear hK kx
    try simp only [Act.put,tka,tkb,tkc]
    refine tkm 3 6 (.tuple #[.agg #[.slice none 0 0,.map none],.int .i64 c]) ?_
    refine tkm 4 10 (.agg #[.slice none 0 0,.map none]) ?_
    refine tkm 5 11 (.int .i64 c) ?_
    refine tkr 6 4 (fun K hK=>?_)
    have hb3:Below V2.heap.size V2 (V2.alloc (.cells #[.slice none 0 0,.map none] 111)):=by go_grown
    have pX:Blk (V2.alloc (.cells #[.slice none 0 0,.map none] 111)) V2.heap.size 111 [.slice none 0 0,.map none]:=blkAt _ _ _ rfl
    have hXB:w.heap.size≤V2.heap.size:=Nat.le_trans bw.size bt.size
    have bt:=bel_trans bt hb3
    go_simp
    refine hK.out _ _ (cells_kept bt _ _ hS0) (fun hS3=>?_)
    clear hK
    generalize (V2.alloc (.cells #[.slice none 0 0,.map none] 111))=V3 at *
    obtain ⟨X,hX⟩:∃ X,X=V2.heap.size:=⟨_,rfl⟩
    rw [← hX] at pX hXB ⊢
    clear hX
    try simp only [Act.put,tka,tkb,tkc]
    refine tkz 7 (fun K hK=>?_)
    refine step_store_blkD rfl 111 _ _ rfl X [.slice none 0 0,.map none] rfl rfl pX (by kernel_rfl) rfl rfl ?_
    intro V9 pX9 g9
    have bz:=(bel_trans bw bt).grown g9 (bel_trans bw bt).size (fun q e=>by cases e;exact hXB)
    have hXP:X≠w.heap.size:=blk_ne pX (pP9.below bt) (by decide)
    have c9:=cells_kept bt _ _ hS0
    refine hK.out _ _ (cell_grownB g9 c9 (by simp;omega)) (fun hS4=>?_)
    clear hK
    try simp only [Act.put,tka,tkb,tkc]
    refine tkm 8 5 (.int .i64 c) ?_
    refine wpAnyH_done (by kernel_rfl) ?_ _
    go_wp2_with fail
    go_meet
    case rel=>exact ⟨X,rfl,rfl,bz⟩
   ·have hb3:Below V1.heap.size V1 (V1.alloc (.cells #[.slice none 0 0,.map none] 111)):=by go_grown
    have pX:Blk (V1.alloc (.cells #[.slice none 0 0,.map none] 111)) V1.heap.size 111 [.slice none 0 0,.map none]:=blkAt _ _ _ rfl
    have hXB:w.heap.size≤V1.heap.size:=Nat.le_trans bw.size bt.size
    replace hO:=hO.below hb3
    have bt:=bel_trans bt hb3
    go_simp
    refine hK.out _ _ (cells_kept bt _ _ hS0) (fun hS3=>?_)
    clear hK
    generalize (V1.alloc (.cells #[.slice none 0 0,.map none] 111))=V2 at *
    obtain ⟨X,hX⟩:∃ X,X=V1.heap.size:=⟨_,rfl⟩
    rw [← hX] at pX hXB ⊢
    clear hX
    try simp only [Act.put,tka,tkb,tkc]
    refine tkr 2 9 (fun K hK=>?_)
    have kx:=kS V2 (bel_trans bw bt) ((t0a,t0n,t0c),(t1a,t1n,t1c),(t2a,t2n,t2c),(t3a,t3n,t3c)) (hO.mem fz)
    rw [ut] at kx
    go_simp
    refine kx.mono ?_
    rintro e V3 ⟨rfl,hb2⟩
    replace pX:=pX.below hb2
    have bt:=bel_trans bt hb2
    go_wp2_with fail
    refine hK.out _ _ (cells_kept bt _ _ hS0) (fun hS2=>?_)
    clear hK kx
    try simp only [Act.put,tka,tkb,tkc]
    refine tkm 3 6 (.tuple #[.agg #[.slice none 0 0,.map none],.int .i64 c]) ?_
    refine tkm 4 10 (.agg #[.slice none 0 0,.map none]) ?_
    refine tkm 5 11 (.int .i64 c) ?_
    refine tkz 7 (fun K hK=>?_)
    refine step_store_blkD rfl 111 _ _ rfl X [.slice none 0 0,.map none] rfl rfl pX (by kernel_rfl) rfl rfl ?_
    intro V9 pX9 g9
    have bz:=(bel_trans bw bt).grown g9 (bel_trans bw bt).size (fun q e=>by cases e;exact hXB)
    have hXP:X≠w.heap.size:=blk_ne pX (pP9.below bt) (by decide)
    have c9:=cells_kept bt _ _ hS0
    refine hK.out _ _ (cell_grownB g9 c9 (by simp;omega)) (fun hS4=>?_)
    clear hK
    try simp only [Act.put,tka,tkb,tkc]
    refine tkm 8 5 (.int .i64 c) ?_
    refine wpAnyH_done (by kernel_rfl) ?_ _
    go_wp2_with fail
    go_meet
    case rel=>exact ⟨X,rfl,rfl,bz⟩
  ·have hb3:Below V.heap.size V (V.alloc (.cells #[.slice none 0 0,.map none] 111)):=by go_grown
   have pX:Blk (V.alloc (.cells #[.slice none 0 0,.map none] 111)) V.heap.size 111 [.slice none 0 0,.map none]:=blkAt _ _ _ rfl
   have hXB:w.heap.size≤V.heap.size:=Nat.le_trans bw.size bt.size
   have bt:=bel_trans bt hb3
   go_simp
   refine hK.out _ _ (cells_kept bt _ _ hS0) (fun hS3=>?_)
   clear hK
   generalize (V.alloc (.cells #[.slice none 0 0,.map none] 111))=V1 at *
   obtain ⟨X,hX⟩:∃ X,X=V.heap.size:=⟨_,rfl⟩
   rw [← hX] at pX hXB ⊢
   clear hX
   try simp only [Act.put,tka,tkb,tkc]
   refine tkr 1 8 (fun K hK=>?_)
   go_simp
   refine (kN V1).mono ?_
   rintro e V2 ⟨⟨⟨⟨t0a,t0n,t0c⟩,⟨t1a,t1n,t1c⟩,⟨t2a,t2n,t2c⟩,⟨t3a,t3n,t3c⟩⟩,rfl,hO⟩,hb1⟩
   have ut:S4.val ((t0a,t0n,t0c),(t1a,t1n,t1c),(t2a,t2n,t2c),(t3a,t3n,t3c))=.agg #[.slice t0a t0n t0c,.slice t1a t1n t1c,.slice t2a t2n t2c,.slice t3a t3n t3c]:=rfl
   rw [ut]
   have bt:=bel_trans bt hb1
   go_wp2_with fail
   refine hK.out _ _ (cells_kept bt _ _ hS0) (fun hS1=>?_)
   clear hK
   try simp only [Act.put,tka,tkb,tkc]
   replace pX:=pX.below hb1
   refine tkr 2 9 (fun K hK=>?_)
   have kx:=kS V2 (bel_trans bw bt) ((t0a,t0n,t0c),(t1a,t1n,t1c),(t2a,t2n,t2c),(t3a,t3n,t3c)) (hO.mem fz)
   rw [ut] at kx
   go_simp
   refine kx.mono ?_
   rintro e V3 ⟨rfl,hb2⟩
   replace pX:=pX.below hb2
   have bt:=bel_trans bt hb2
   go_wp2_with fail
   refine hK.out _ _ (cells_kept bt _ _ hS0) (fun hS2=>?_)
   clear hK kx
   try simp only [Act.put,tka,tkb,tkc]
   refine tkm 3 6 (.tuple #[.agg #[.slice none 0 0,.map none],.int .i64 c]) ?_
   refine tkm 4 10 (.agg #[.slice none 0 0,.map none]) ?_
   refine tkm 5 11 (.int .i64 c) ?_
   refine tkz 7 (fun K hK=>?_)
   refine step_store_blkD rfl 111 _ _ rfl X [.slice none 0 0,.map none] rfl rfl pX (by kernel_rfl) rfl rfl ?_
   intro V9 pX9 g9
   have bz:=(bel_trans bw bt).grown g9 (bel_trans bw bt).size (fun q e=>by cases e;exact hXB)
   have hXP:X≠w.heap.size:=blk_ne pX (pP9.below bt) (by decide)
   have c9:=cells_kept bt _ _ hS0
   refine hK.out _ _ (cell_grownB g9 c9 (by simp;omega)) (fun hS4=>?_)
   clear hK
   try simp only [Act.put,tka,tkb,tkc]
   refine tkm 8 5 (.int .i64 c) ?_
   refine wpAnyH_done (by kernel_rfl) ?_ _
   go_wp2_with fail
   go_meet
   case rel=>exact ⟨X,rfl,rfl,bz⟩
 obtain ⟨X,rfl,rfl,bz⟩:=hcut
 clear kS kN bw pP fz
 go_wp2
 refine bodyPost_ret (by simp [results,Tryz.results37,go_sem];try rfl) rfl ?_
 exact ⟨rfl,bz⟩

set_option maxHeartbeats 2000000 in
theorem implCountRuns_ok (a:Option Addr) (len cap:Nat) (rows:List (List I3)) (w:World) (hC:Codes w a len cap rows) (hV:VmShape w) (hc:codeF rows=0) :
  Calls Tryz.prog 37 #[.agg #[.slice a len cap]] w fun e w'=>e=.returned (.tuple #[.int .i64 (cntM rows zeroV:Int),.int .i64 0])∧Below w.heap.size w w':=by
 obtain ⟨hp,hf⟩:=code_parts hc
 obtain ⟨i0,hi9,hz0,hz1,hz2⟩:=info_parts info_int
 obtain ⟨cs,hR⟩:=rows_of_codes6 hC hp
 have kS:=fun (W:World) (b:Below w.heap.size w W) (t:S4) (h:Vmem W t zeroV)=>spaceOf_yes a len cap rows t W (hC.below b) h (hV.below b) hp hf
 clear hc
 have fz:=(shape_fits9 zero_shape).1
 have kN:=implNewVm_is
 have bw:Below w.heap.size w (w.alloc (.cells #[.slice a len cap] 25)):=by go_grown
 have pP:Blk (w.alloc (.cells #[.slice a len cap] 25)) w.heap.size 25 [.slice a len cap]:=blkAt _ _ _ rfl
 go_enter Tryz.func37,Tryz.ntmps37
 go_wp2_with fail
 generalize (w.alloc (.cells #[.slice a len cap] 25))=U at *
 go_cut [4,5] from 6 (fun s4 s5 W=>CutK w W cs rows (fullS rows) s4 s5)
 case first =>
  have hdr:Below U.heap.size U U.drew:=by go_grown
  refine wp_region_held_drew (S:=(fun w'=>w'.cell? ⟨w.heap.size,0,none⟩=some (.slice a len cap))) (by kernel_rfl) (by simpa using pP.cell 0) (fun hS0=>?_)
  refine tkm 0 7 (.agg #[.slice a len cap]) ?_
  have pP9:=pP.below hdr
  replace bw:=bel_trans bw hdr
  clear hdr
  generalize U.drew=V at *
  have bt:Below V.heap.size V V:=Below.refl _ _
  refine wpAnyH_ready (rs:=[1,6]) (by kernel_rfl) (by simp) ?_
  refine AllReadyH.cons (o:=⟨some 8,_,_,_,_,_⟩) rfl (fun K hK=>?_) (AllReadyH.cons (o:=⟨some 4,_,_,_,_,_⟩) rfl (fun K hK=>?_) AllReadyH.nil)
  ·go_simp
   refine (kN V).mono ?_
   rintro e V1 ⟨⟨⟨⟨t0a,t0n,t0c⟩,⟨t1a,t1n,t1c⟩,⟨t2a,t2n,t2c⟩,⟨t3a,t3n,t3c⟩⟩,rfl,hO⟩,hb1⟩
   have ut:S4.val ((t0a,t0n,t0c),(t1a,t1n,t1c),(t2a,t2n,t2c),(t3a,t3n,t3c))=.agg #[.slice t0a t0n t0c,.slice t1a t1n t1c,.slice t2a t2n t2c,.slice t3a t3n t3c]:=rfl
   rw [ut]
   have bt:=bel_trans bt hb1
   go_wp2_with fail
   refine hK.out _ _ (cells_kept bt _ _ hS0) (fun hS1=>?_)
   clear hK
   try simp only [Act.put,tka,tkb,tkc]
   refine wpAnyH_ready (rs:=[2,6]) (by kernel_rfl) (by simp) ?_
   refine AllReadyH.cons (o:=⟨some 9,_,_,_,_,_⟩) rfl (fun K hK=>?_) (AllReadyH.cons (o:=⟨some 4,_,_,_,_,_⟩) rfl (fun K hK=>?_) AllReadyH.nil)
   ·have kx:=kS V1 (bel_trans bw bt) ((t0a,t0n,t0c),(t1a,t1n,t1c),(t2a,t2n,t2c),(t3a,t3n,t3c)) (hO.mem fz)
    rw [ut] at kx
    go_simp
    refine kx.mono ?_
    rintro e V2 ⟨va9,nb,cs',L,rfl,sp,hLF,hR',hb2⟩
    obtain rfl:=(hR.below (bel_trans bw bt)).uniq hR'
    have hBv:w.heap.size≤V1.heap.size:=Nat.le_trans bw.size bt.size
    obtain ⟨va8,vn8,vc8,hva⟩:=own_slice6 sp.row
    have bt:=bel_trans bt hb2
    go_wp2_with fail
    refine hK.out _ _ (cells_kept bt _ _ hS0) (fun hS2=>?_)
    clear hK kx
    try simp only [Act.put,tka,tkb,tkc]
    refine tkm 3 6 (.tuple #[.agg #[va9,.map (some nb)],.int .i64 0]) ?_
    refine tkm 4 10 (.agg #[va9,.map (some nb)]) ?_
    refine tkm 5 11 (.int .i64 0) ?_
    refine tkr 6 4 (fun K hK=>?_)
    have hb3:Below V2.heap.size V2 (V2.alloc (.cells #[.slice none 0 0,.map none] 111)):=by go_grown
    have pX:Blk (V2.alloc (.cells #[.slice none 0 0,.map none] 111)) V2.heap.size 111 [.slice none 0 0,.map none]:=blkAt _ _ _ rfl
    have hXB:w.heap.size≤V2.heap.size:=Nat.le_trans bw.size bt.size
    replace sp:=sp.below hb3
    have bt:=bel_trans bt hb3
    go_simp
    refine hK.out _ _ (cells_kept bt _ _ hS0) (fun hS3=>?_)
    clear hK
    generalize (V2.alloc (.cells #[.slice none 0 0,.map none] 111))=V3 at *
    obtain ⟨X,hX⟩:∃ X,X=V2.heap.size:=⟨_,rfl⟩
    rw [← hX] at pX hXB ⊢
    clear hX
    try simp only [Act.put,tka,tkb,tkc]
    subst hva
    refine tkz 7 (fun K hK=>?_)
    refine step_store_blkD rfl 111 _ _ rfl X [.slice va8 vn8 vc8,.map (some nb)] rfl rfl pX (by kernel_rfl) rfl rfl ?_
    intro V9 pX9 g9
    have bz:=(bel_trans bw bt).grown g9 (bel_trans bw bt).size (fun q e=>by cases e;exact hXB)
    replace sp:=sp.grown g9 pX (by decide) (by decide)
    have hXP:X≠w.heap.size:=blk_ne pX (pP9.below bt) (by decide)
    have c9:=cells_kept bt _ _ hS0
    refine hK.out _ _ (cell_grownB g9 c9 (by simp;omega)) (fun hS4=>?_)
    clear hK
    try simp only [Act.put,tka,tkb,tkc]
    refine tkm 8 5 (.int .i64 0) ?_
    refine wpAnyH_done (by kernel_rfl) ?_ _
    go_wp2_with fail
    go_meet
    case rel=>exact CutK.mk9 (va:=.slice none 0 0) rfl rfl pX9.out sp hLF hXB hBv bz
   ·have hb3:Below V1.heap.size V1 (V1.alloc (.cells #[.slice none 0 0,.map none] 111)):=by go_grown
    have pX:Blk (V1.alloc (.cells #[.slice none 0 0,.map none] 111)) V1.heap.size 111 [.slice none 0 0,.map none]:=blkAt _ _ _ rfl
    have hXB:w.heap.size≤V1.heap.size:=Nat.le_trans bw.size bt.size
    replace hO:=hO.below hb3
    have bt:=bel_trans bt hb3
    go_simp
    refine hK.out _ _ (cells_kept bt _ _ hS0) (fun hS3=>?_)
    clear hK
    generalize (V1.alloc (.cells #[.slice none 0 0,.map none] 111))=V2 at *
    obtain ⟨X,hX⟩:∃ X,X=V1.heap.size:=⟨_,rfl⟩
    rw [← hX] at pX hXB ⊢
    clear hX
    try simp only [Act.put,tka,tkb,tkc]
    refine tkr 2 9 (fun K hK=>?_)
    have kx:=kS V2 (bel_trans bw bt) ((t0a,t0n,t0c),(t1a,t1n,t1c),(t2a,t2n,t2c),(t3a,t3n,t3c)) (hO.mem fz)
    rw [ut] at kx
    go_simp
    refine kx.mono ?_
    rintro e V3 ⟨va9,nb,cs',L,rfl,sp,hLF,hR',hb2⟩
    obtain rfl:=(hR.below (bel_trans bw bt)).uniq hR'
    have hBv:w.heap.size≤V2.heap.size:=Nat.le_trans bw.size bt.size
    obtain ⟨va8,vn8,vc8,hva⟩:=own_slice6 sp.row
    replace pX:=pX.below hb2
    have bt:=bel_trans bt hb2
    go_wp2_with fail
    refine hK.out _ _ (cells_kept bt _ _ hS0) (fun hS2=>?_)
    clear hK kx
    try simp only [Act.put,tka,tkb,tkc]
    refine tkm 3 6 (.tuple #[.agg #[va9,.map (some nb)],.int .i64 0]) ?_
    refine tkm 4 10 (.agg #[va9,.map (some nb)]) ?_
    refine tkm 5 11 (.int .i64 0) ?_
    subst hva
    refine tkz 7 (fun K hK=>?_)
    refine step_store_blkD rfl 111 _ _ rfl X [.slice va8 vn8 vc8,.map (some nb)] rfl rfl pX (by kernel_rfl) rfl rfl ?_
    intro V9 pX9 g9
    have bz:=(bel_trans bw bt).grown g9 (bel_trans bw bt).size (fun q e=>by cases e;exact hXB)
    replace sp:=sp.grown g9 pX (by decide) (by decide)
    have hXP:X≠w.heap.size:=blk_ne pX (pP9.below bt) (by decide)
    have c9:=cells_kept bt _ _ hS0
    refine hK.out _ _ (cell_grownB g9 c9 (by simp;omega)) (fun hS4=>?_)
    clear hK
    try simp only [Act.put,tka,tkb,tkc]
    refine tkm 8 5 (.int .i64 0) ?_
    refine wpAnyH_done (by kernel_rfl) ?_ _
    go_wp2_with fail
    go_meet
    case rel=>exact CutK.mk9 (va:=.slice none 0 0) rfl rfl pX9.out sp hLF hXB hBv bz
  ·have hb3:Below V.heap.size V (V.alloc (.cells #[.slice none 0 0,.map none] 111)):=by go_grown
   have pX:Blk (V.alloc (.cells #[.slice none 0 0,.map none] 111)) V.heap.size 111 [.slice none 0 0,.map none]:=blkAt _ _ _ rfl
   have hXB:w.heap.size≤V.heap.size:=Nat.le_trans bw.size bt.size
   have bt:=bel_trans bt hb3
   go_simp
   refine hK.out _ _ (cells_kept bt _ _ hS0) (fun hS3=>?_)
   clear hK
   generalize (V.alloc (.cells #[.slice none 0 0,.map none] 111))=V1 at *
   obtain ⟨X,hX⟩:∃ X,X=V.heap.size:=⟨_,rfl⟩
   rw [← hX] at pX hXB ⊢
   clear hX
   try simp only [Act.put,tka,tkb,tkc]
   refine tkr 1 8 (fun K hK=>?_)
   go_simp
   refine (kN V1).mono ?_
   rintro e V2 ⟨⟨⟨⟨t0a,t0n,t0c⟩,⟨t1a,t1n,t1c⟩,⟨t2a,t2n,t2c⟩,⟨t3a,t3n,t3c⟩⟩,rfl,hO⟩,hb1⟩
   have ut:S4.val ((t0a,t0n,t0c),(t1a,t1n,t1c),(t2a,t2n,t2c),(t3a,t3n,t3c))=.agg #[.slice t0a t0n t0c,.slice t1a t1n t1c,.slice t2a t2n t2c,.slice t3a t3n t3c]:=rfl
   rw [ut]
   have bt:=bel_trans bt hb1
   go_wp2_with fail
   refine hK.out _ _ (cells_kept bt _ _ hS0) (fun hS1=>?_)
   clear hK
   try simp only [Act.put,tka,tkb,tkc]
   replace pX:=pX.below hb1
   refine tkr 2 9 (fun K hK=>?_)
   have kx:=kS V2 (bel_trans bw bt) ((t0a,t0n,t0c),(t1a,t1n,t1c),(t2a,t2n,t2c),(t3a,t3n,t3c)) (hO.mem fz)
   rw [ut] at kx
   go_simp
   refine kx.mono ?_
   rintro e V3 ⟨va9,nb,cs',L,rfl,sp,hLF,hR',hb2⟩
   obtain rfl:=(hR.below (bel_trans bw bt)).uniq hR'
   have hBv:w.heap.size≤V2.heap.size:=Nat.le_trans bw.size bt.size
   obtain ⟨va8,vn8,vc8,hva⟩:=own_slice6 sp.row
   replace pX:=pX.below hb2
   have bt:=bel_trans bt hb2
   go_wp2_with fail
   refine hK.out _ _ (cells_kept bt _ _ hS0) (fun hS2=>?_)
   clear hK kx
   try simp only [Act.put,tka,tkb,tkc]
   refine tkm 3 6 (.tuple #[.agg #[va9,.map (some nb)],.int .i64 0]) ?_
   refine tkm 4 10 (.agg #[va9,.map (some nb)]) ?_
   refine tkm 5 11 (.int .i64 0) ?_
   subst hva
   refine tkz 7 (fun K hK=>?_)
   refine step_store_blkD rfl 111 _ _ rfl X [.slice va8 vn8 vc8,.map (some nb)] rfl rfl pX (by kernel_rfl) rfl rfl ?_
   intro V9 pX9 g9
   have bz:=(bel_trans bw bt).grown g9 (bel_trans bw bt).size (fun q e=>by cases e;exact hXB)
   replace sp:=sp.grown g9 pX (by decide) (by decide)
   have hXP:X≠w.heap.size:=blk_ne pX (pP9.below bt) (by decide)
   have c9:=cells_kept bt _ _ hS0
   refine hK.out _ _ (cell_grownB g9 c9 (by simp;omega)) (fun hS4=>?_)
   clear hK
   try simp only [Act.put,tka,tkb,tkc]
   refine tkm 8 5 (.int .i64 0) ?_
   refine wpAnyH_done (by kernel_rfl) ?_ _
   go_wp2_with fail
   go_meet
   case rel=>exact CutK.mk9 (va:=.slice none 0 0) rfl rfl pX9.out sp hLF hXB hBv bz
 obtain ⟨X,va,vc,nb,L,rfl,rfl,pX,sp,hLF,hXB,bz⟩:=hcut
 clear kS kN bw pP fz
 have cX0:wc.cell? ⟨X,0,none⟩=some (.slice va L.length vc):=by simpa using pX.cell 0
 have hl2:L.length≤2000:=by
  have e:(L.map (·.1)).length=L.length:=by simp
  rw [hLF] at e
  omega
 obtain ⟨mv,hr⟩:∃ mv,L[0]?=some ((zeroV,0,0),mv):=by
  have e:=fullS_head rows
  rw [← hLF,List.getElem?_map] at e
  obtain ⟨y,hy,e2⟩:=Option.map_eq_some_iff.1 e
  exact ⟨y.2,by rw [hy,← e2]⟩
 have hbz:=bz.size
 have kR:=runs_all rows L X nb vc w.heap.size w.heap.size wc.heap.size L.length va cs hp (by rw [hLF];exact fullS_shaped hp) (by rw [hLF];exact fullS_closed hf) hl2 (leftN rows zeroV+1) 0 (zeroV,0,0) mv hr (Nat.lt_succ_self _)
 rw [← hLF] at sp
 have hc0:=ctOk_zero rows L
 clear hLF hr hXB
 go_wp2_with (at_make;refine wpList_make_full _ rfl _ _ 27 rfl w.heap.size 3 i0 (.int .i64 0) 1 Tryz.underlying27 hi9 hz0 hz1 _ _ _ _ L.length rfl rfl (by omega) (by omega) ?b2 ?b3 (by first | exact hbz | exact Nat.le_refl _) ?_)
 case b2=>first | omega | (rw [hz2];omega)
 case b3=>unfold maxLen;omega
 intro w5 hown hgrow
 rw [made_ints] at hown
 have b5:Below wc.heap.size wc w5:=⟨hgrow.os,hgrow.tape,hgrow.output,hgrow.size,fun k hk=>hgrow.block k hk (by simp)⟩
 have hO:OwnI w5 w.heap.size (some ⟨wc.heap.size,0,none⟩,L.length,L.length) (List.replicate L.length 0):=hown
 have kRx:=kR w5 _ (sp.below b5) (pX.below b5) hO hc0
 have b6:=bel_trans bz b5
 have hgB:w.heap.size≤wc.heap.size:=hbz
 clear kR hown hgrow hO hc0 sp pX cX0 bz b5
 generalize wc.heap.size=g at *
 go_wp2_with fail
 refine kRx.mono ?_
 rintro e w7 ⟨cts,rfl,ho7,hct7,g7⟩
 have b7:=b6.grown g7 b6.size (fun k e=>by cases e;exact hgB)
 clear kRx ho7 hct7 g7 b6
 have HCN:Hid (0=0):=rfl
 go_wp2
 refine bodyPost_ret (by simp [results,Tryz.results37,go_sem];try rfl) rfl ?_
 exact ⟨rfl,b7⟩
theorem implCountRuns_is (a:Option Addr) (len cap:Nat) (rows:List (List I3)) (w:World) (hC:Codes w a len cap rows) (hV:VmShape w) :
  Calls Tryz.prog 37 #[.agg #[.slice a len cap]] w fun e w'=>e=.returned (.tuple #[.int .i64 (countV rows),.int .i64 (codeF rows)])∧Below w.heap.size w w':=by
 unfold countV
 by_cases h:codeF rows=0
 ·rw [if_pos h,h]
  exact implCountRuns_ok a len cap rows w hC hV h
 ·rw [if_neg h]
  exact implCountRuns_not a len cap rows w hC hV h
end Go.Proofs.YtdojjmkpelgcaaaGreatDoor
