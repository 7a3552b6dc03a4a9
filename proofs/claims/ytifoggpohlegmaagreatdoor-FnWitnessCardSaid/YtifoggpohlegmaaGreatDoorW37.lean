/-
  Joined: WofI, WitB.
-/
import Derived.Test.YtifoggpohlegmaaGreatDoorW36

namespace Go.Proofs.YtifoggpohlegmaaGreatDoor
set_option maxRecDepth 100000
set_option maxHeartbeats 16000000
open Go.RowKit
set_option linter.unusedVariables false
set_option linter.unusedSimpArgs false

def witF (S:List (Rec6 V4)) (hit:V4→Option (List Int)):Nat→List (Rec6 V4)→Option (List Int)
 | _,[]=>none
 | i,r::rs=>match hit r.1 with
  | some t=>some (pathS S i i++t)
  | none=>witF S hit (i+1) rs
theorem witF_hit {S:List (Rec6 V4)} {hit:V4→Option (List Int)} {i:Nat} {r:Rec6 V4} {t:List Int} (hr:S[i]?=some r) (h:hit r.1=some t):witF S hit i (S.drop i)=some (pathS S i i++t):=by
 have hl:=(List.getElem?_eq_some_iff.1 hr).1
 rw [List.drop_eq_getElem_cons hl,(List.getElem?_eq_some_iff.1 hr).2]
 show (match hit r.1 with | some t=>some (pathS S i i++t) | none=>witF S hit (i+1) _)=_
 rw [h]
theorem witF_miss {S:List (Rec6 V4)} {hit:V4→Option (List Int)} {i:Nat} {r:Rec6 V4} (hr:S[i]?=some r) (h:hit r.1=none):witF S hit i (S.drop i)=witF S hit (i+1) (S.drop (i+1)):=by
 have hl:=(List.getElem?_eq_some_iff.1 hr).1
 rw [List.drop_eq_getElem_cons hl,(List.getElem?_eq_some_iff.1 hr).2]
 show (match hit r.1 with | some t=>some (pathS S i i++t) | none=>witF S hit (i+1) _)=_
 rw [h]
theorem witF_end {S:List (Rec6 V4)} {hit:V4→Option (List Int)} {i:Nat} (h:S.length≤i):witF S hit i (S.drop i)=none:=by
 rw [List.drop_of_length_le h]
 rfl
def witO (rows:List (List I3)) (b:I3):Option (List Int):=witF (fullS rows) (hitI rows b) 0 (fullS rows)
def wofK (o:Option (List Int)):Int:=if o.isSome then 0 else 5
def wofL (rows:List (List I3)) (b:I3):List Int:=if okB b=true∧codeF rows=0 then (witO rows b).getD [] else []
def wofC (rows:List (List I3)) (b:I3):Int:=if okB b=true then (if codeF rows=0 then wofK (witO rows b) else codeF rows) else 1
def WofGot (e:Ending) (w:World) (B:Nat) (ks:List Int) (c:Int):Prop:=∃ v,e=.returned (.tuple #[v,.int .i64 c])∧w.ownsRow B 3 1 v ks.length (ks.map (Value.int .i64))

theorem bugsI_fits {rows:List (List I3)} {m:V4} (hp:progOk rows=true) (hs:shapeOk m=true):∀ x ∈ bugsI rows m,I3.fits x:=fun x hx=>by
 unfold bugsI at hx
 split at hx
 ·simp at hx;subst hx;exact okB_fitsQ rfl
 ·obtain ⟨k,hk,hx⟩:=List.mem_flatMap.1 hx
  exact okB_fitsQ (ownM_ok hp hs (enab_halt hk) x hx)
theorem bugsI_len (rows:List (List I3)) (m:V4):(bugsI rows m).length≤1000000:=by
 unfold bugsI
 split
 ·simp
 ·have h:=fndO_len rows m (enabM rows m 3).length
  unfold fndO at h
  rw [List.take_length] at h
  have:=enabM_len rows m 3
  omega
theorem pathS_len (S:List (Rec6 V4)):∀ f j,(pathS S f j).length≤f
 | 0,j=>by simp [pathS]
 | f+1,j=>by
  unfold pathS
  split
  ·simp
  ·split
   ·simp
   ·rename_i r _
    have:=pathS_len S f r.2.1
    simp
    omega

theorem implWitnessOf_bug (a:Option Addr) (len cap:Nat) (b0 b1 b2:Int) (w:World) (hb9:okB (b0,b1,b2)=false) :
  Calls Tryz.prog 36 #[.agg #[.slice a len cap],.agg #[.int .i64 b0,.int .i64 b1,.int .i64 b2]] w fun e w'=>WofGot e w' w.heap.size [] 1∧Below w.heap.size w w':=by
 have kB:=implBugOK_is (b0,b1,b2)
 unfold I3.val at kB
 simp only at kB
 have fz:=(shape_fits9 zero_shape).1
 have kN:=implNewVm_is
 have bw:Below w.heap.size w ((w.alloc (.cells #[.slice a len cap] 25)).alloc (.cells #[.int .i64 b0,.int .i64 b1,.int .i64 b2] 64)):=by go_grown
 have pP:Blk ((w.alloc (.cells #[.slice a len cap] 25)).alloc (.cells #[.int .i64 b0,.int .i64 b1,.int .i64 b2] 64)) w.heap.size 25 [.slice a len cap]:=blkOld _ (blkAt _ _ _ rfl)
 have pB:Blk ((w.alloc (.cells #[.slice a len cap] 25)).alloc (.cells #[.int .i64 b0,.int .i64 b1,.int .i64 b2] 64)) (w.heap.size+1) 64 [.int .i64 b0,.int .i64 b1,.int .i64 b2]:=blkAt _ _ _ (by simp)
 go_enter Tryz.func36,Tryz.ntmps36
 go_wp2_with fail
 generalize ((w.alloc (.cells #[.slice a len cap] 25)).alloc (.cells #[.int .i64 b0,.int .i64 b1,.int .i64 b2] 64))=U at *
 go_wp2_with (refine wpList_load_blk rfl 64 _ rfl (w.heap.size+1) rfl pB _ Tryz.underlying64 rfl (by kernel_rfl) ?_)
 refine (kB U).mono ?_
 rintro e U1 ⟨rfl,hb⟩
 replace bw:=bel_trans bw hb
 replace pP:=pP.below hb
 replace pB:=pB.below hb
 clear hb kB
 rw [hb9]
 have HG:Hid (∀ W,WofGot (.returned (.tuple #[.slice none 0 0,.int .i64 1])) W w.heap.size [] 1):=fun W=>⟨_,rfl,World.ownsRow_nil _ _ _ _⟩
 clear kN pP pB hb9
 go_wp2
 refine bodyPost_ret (by simp [results,Tryz.results36,go_sem];try rfl) rfl ?_
 exact ⟨HG.out _,bw⟩

theorem implWitnessOf_not (a:Option Addr) (len cap:Nat) (rows:List (List I3)) (b0 b1 b2:Int) (w:World) (hC:Codes w a len cap rows) (hV:VmShape w) (hb9:okB (b0,b1,b2)=true) (hc:codeF rows≠0) :
  Calls Tryz.prog 36 #[.agg #[.slice a len cap],.agg #[.int .i64 b0,.int .i64 b1,.int .i64 b2]] w fun e w'=>WofGot e w' w.heap.size [] (codeF rows)∧Below w.heap.size w w':=by
 have kS:=fun (W:World) (b:Below w.heap.size w W) (t:S4) (h:Vmem W t zeroV)=>spaceOf_not a len cap rows t W (hC.below b) h (hV.below b) hc
 generalize codeF rows=c at *
 have hcn:(c != 0)=true:=by simpa using hc
 have kB:=implBugOK_is (b0,b1,b2)
 unfold I3.val at kB
 simp only at kB
 have fz:=(shape_fits9 zero_shape).1
 have kN:=implNewVm_is
 have bw:Below w.heap.size w ((w.alloc (.cells #[.slice a len cap] 25)).alloc (.cells #[.int .i64 b0,.int .i64 b1,.int .i64 b2] 64)):=by go_grown
 have pP:Blk ((w.alloc (.cells #[.slice a len cap] 25)).alloc (.cells #[.int .i64 b0,.int .i64 b1,.int .i64 b2] 64)) w.heap.size 25 [.slice a len cap]:=blkOld _ (blkAt _ _ _ rfl)
 have pB:Blk ((w.alloc (.cells #[.slice a len cap] 25)).alloc (.cells #[.int .i64 b0,.int .i64 b1,.int .i64 b2] 64)) (w.heap.size+1) 64 [.int .i64 b0,.int .i64 b1,.int .i64 b2]:=blkAt _ _ _ (by simp)
 go_enter Tryz.func36,Tryz.ntmps36
 go_wp2_with fail
 generalize ((w.alloc (.cells #[.slice a len cap] 25)).alloc (.cells #[.int .i64 b0,.int .i64 b1,.int .i64 b2] 64))=U at *
 go_wp2_with (refine wpList_load_blk rfl 64 _ rfl (w.heap.size+1) rfl pB _ Tryz.underlying64 rfl (by kernel_rfl) ?_)
 refine (kB U).mono ?_
 rintro e U1 ⟨rfl,hb⟩
 replace bw:=bel_trans bw hb
 replace pP:=pP.below hb
 replace pB:=pB.below hb
 clear hb kB
 rw [hb9]
 go_wp2_with fail
 go_cut [6,7] from 14 (fun s4 s5 W=>CutF w W c s4 s5)
 case first =>
  have hdr:Below U1.heap.size U1 U1.drew:=by go_grown
  refine wp_region_held_drew (S:=(fun w'=>w'.cell? ⟨w.heap.size,0,none⟩=some (.slice a len cap))) (by kernel_rfl) (by simpa using pP.cell 0) (fun hS0=>?_)
  refine tkm 0 15 (.agg #[.slice a len cap]) ?_
  have pP9:=pP.below hdr
  replace bw:=bel_trans bw hdr
  clear hdr
  generalize U1.drew=V at *
  have bt:Below V.heap.size V V:=Below.refl _ _
  refine wpAnyH_ready (rs:=[1,6]) (by kernel_rfl) (by simp) ?_
  refine AllReadyH.cons (o:=⟨some 16,_,_,_,_,_⟩) rfl (fun K hK=>?_) (AllReadyH.cons (o:=⟨some 6,_,_,_,_,_⟩) rfl (fun K hK=>?_) AllReadyH.nil)
  ·go_simp
   refine (kN V).mono ?_
   rintro e V1 ⟨⟨⟨⟨t0a,t0n,t0c⟩,⟨t1a,t1n,t1c⟩,⟨t2a,t2n,t2c⟩,⟨t3a,t3n,t3c⟩⟩,rfl,hO⟩,hb1⟩
   have ut:S4.val ((t0a,t0n,t0c),(t1a,t1n,t1c),(t2a,t2n,t2c),(t3a,t3n,t3c))=.agg #[.slice t0a t0n t0c,.slice t1a t1n t1c,.slice t2a t2n t2c,.slice t3a t3n t3c]:=rfl
   rw [ut]
   have bt:=bel_trans bt hb1
   go_wp2_with fail
   refine hK.out _ _ (cells_kept bt _ _ hS0) (fun hS1=>?_)
   clear hK
   try simp only [Act.put,tka,tkb,tkc]
   refine wpAnyH_ready (rs:=[2,6]) (by kernel_rfl) (by simp) ?_
   refine AllReadyH.cons (o:=⟨some 17,_,_,_,_,_⟩) rfl (fun K hK=>?_) (AllReadyH.cons (o:=⟨some 6,_,_,_,_,_⟩) rfl (fun K hK=>?_) AllReadyH.nil)
   ·have kx:=kS V1 (bel_trans bw bt) ((t0a,t0n,t0c),(t1a,t1n,t1c),(t2a,t2n,t2c),(t3a,t3n,t3c)) (hO.mem fz)
    rw [ut] at kx
    go_simp
    refine kx.mono ?_
    rintro e V2 ⟨rfl,hb2⟩
    have bt:=bel_trans bt hb2
    go_wp2_with fail
    refine hK.out _ _ (cells_kept bt _ _ hS0) (fun hS2=>?_)
    clear hK kx
    try simp only [Act.put,tka,tkb,tkc]
    refine tkm 3 14 (.tuple #[.agg #[.slice none 0 0,.map none],.int .i64 c]) ?_
    refine tkm 4 18 (.agg #[.slice none 0 0,.map none]) ?_
    refine tkm 5 19 (.int .i64 c) ?_
    refine tkr 6 6 (fun K hK=>?_)
    have hb3:Below V2.heap.size V2 (V2.alloc (.cells #[.slice none 0 0,.map none] 106)):=by go_grown
    have pX:Blk (V2.alloc (.cells #[.slice none 0 0,.map none] 106)) V2.heap.size 106 [.slice none 0 0,.map none]:=blkAt _ _ _ rfl
    have hXB:w.heap.size≤V2.heap.size:=Nat.le_trans bw.size bt.size
    have bt:=bel_trans bt hb3
    go_simp
    refine hK.out _ _ (cells_kept bt _ _ hS0) (fun hS3=>?_)
    clear hK
    generalize (V2.alloc (.cells #[.slice none 0 0,.map none] 106))=V3 at *
    obtain ⟨X,hX⟩:∃ X,X=V2.heap.size:=⟨_,rfl⟩
    rw [← hX] at pX hXB ⊢
    clear hX
    try simp only [Act.put,tka,tkb,tkc]
    refine tkz 7 (fun K hK=>?_)
    refine step_store_blkD rfl 106 _ _ rfl X [.slice none 0 0,.map none] rfl rfl pX (by kernel_rfl) rfl rfl ?_
    intro V9 pX9 g9
    have bz:=(bel_trans bw bt).grown g9 (bel_trans bw bt).size (fun q e=>by cases e;exact hXB)
    have hXP:X≠w.heap.size:=blk_ne pX (pP9.below bt) (by decide)
    have c9:=cells_kept bt _ _ hS0
    refine hK.out _ _ (cell_grownB g9 c9 (by simp;omega)) (fun hS4=>?_)
    clear hK
    try simp only [Act.put,tka,tkb,tkc]
    refine tkm 8 7 (.int .i64 c) ?_
    refine wpAnyH_done (by kernel_rfl) ?_ _
    go_wp2_with fail
    go_meet
    case rel=>exact ⟨X,rfl,rfl,bz⟩
   ·have hb3:Below V1.heap.size V1 (V1.alloc (.cells #[.slice none 0 0,.map none] 106)):=by go_grown
    have pX:Blk (V1.alloc (.cells #[.slice none 0 0,.map none] 106)) V1.heap.size 106 [.slice none 0 0,.map none]:=blkAt _ _ _ rfl
    have hXB:w.heap.size≤V1.heap.size:=Nat.le_trans bw.size bt.size
    replace hO:=hO.below hb3
    have bt:=bel_trans bt hb3
    go_simp
    refine hK.out _ _ (cells_kept bt _ _ hS0) (fun hS3=>?_)
    clear hK
    generalize (V1.alloc (.cells #[.slice none 0 0,.map none] 106))=V2 at *
    obtain ⟨X,hX⟩:∃ X,X=V1.heap.size:=⟨_,rfl⟩
    rw [← hX] at pX hXB ⊢
    clear hX
    try simp only [Act.put,tka,tkb,tkc]
    refine tkr 2 17 (fun K hK=>?_)
    have kx:=kS V2 (bel_trans bw bt) ((t0a,t0n,t0c),(t1a,t1n,t1c),(t2a,t2n,t2c),(t3a,t3n,t3c)) (hO.mem fz)
    rw [ut] at kx
    go_simp
    refine kx.mono ?_
    rintro e V3 ⟨rfl,hb2⟩
    replace pX:=pX.below hb2
    have bt:=bel_trans bt hb2
    go_wp2_with fail
    refine hK.out _ _ (cells_kept bt _ _ hS0) (fun hS2=>?_)
    clear hK kx
    try simp only [Act.put,tka,tkb,tkc]
    refine tkm 3 14 (.tuple #[.agg #[.slice none 0 0,.map none],.int .i64 c]) ?_
    refine tkm 4 18 (.agg #[.slice none 0 0,.map none]) ?_
    refine tkm 5 19 (.int .i64 c) ?_
    refine tkz 7 (fun K hK=>?_)
    refine step_store_blkD rfl 106 _ _ rfl X [.slice none 0 0,.map none] rfl rfl pX (by kernel_rfl) rfl rfl ?_
    intro V9 pX9 g9
    have bz:=(bel_trans bw bt).grown g9 (bel_trans bw bt).size (fun q e=>by cases e;exact hXB)
    have hXP:X≠w.heap.size:=blk_ne pX (pP9.below bt) (by decide)
    have c9:=cells_kept bt _ _ hS0
    refine hK.out _ _ (cell_grownB g9 c9 (by simp;omega)) (fun hS4=>?_)
    clear hK
    try simp only [Act.put,tka,tkb,tkc]
    refine tkm 8 7 (.int .i64 c) ?_
    refine wpAnyH_done (by kernel_rfl) ?_ _
    go_wp2_with fail
    go_meet
    case rel=>exact ⟨X,rfl,rfl,bz⟩
  ·have hb3:Below V.heap.size V (V.alloc (.cells #[.slice none 0 0,.map none] 106)):=by go_grown
   have pX:Blk (V.alloc (.cells #[.slice none 0 0,.map none] 106)) V.heap.size 106 [.slice none 0 0,.map none]:=blkAt _ _ _ rfl
   have hXB:w.heap.size≤V.heap.size:=Nat.le_trans bw.size bt.size
   have bt:=bel_trans bt hb3
   go_simp
   refine hK.out _ _ (cells_kept bt _ _ hS0) (fun hS3=>?_)
   clear hK
   generalize (V.alloc (.cells #[.slice none 0 0,.map none] 106))=V1 at *
   obtain ⟨X,hX⟩:∃ X,X=V.heap.size:=⟨_,rfl⟩
   rw [← hX] at pX hXB ⊢
   clear hX
   try simp only [Act.put,tka,tkb,tkc]
   refine tkr 1 16 (fun K hK=>?_)
   go_simp
   refine (kN V1).mono ?_
   rintro e V2 ⟨⟨⟨⟨t0a,t0n,t0c⟩,⟨t1a,t1n,t1c⟩,⟨t2a,t2n,t2c⟩,⟨t3a,t3n,t3c⟩⟩,rfl,hO⟩,hb1⟩
   have ut:S4.val ((t0a,t0n,t0c),(t1a,t1n,t1c),(t2a,t2n,t2c),(t3a,t3n,t3c))=.agg #[.slice t0a t0n t0c,.slice t1a t1n t1c,.slice t2a t2n t2c,.slice t3a t3n t3c]:=rfl
   rw [ut]
   have bt:=bel_trans bt hb1
   go_wp2_with fail
   refine hK.out _ _ (cells_kept bt _ _ hS0) (fun hS1=>?_)
   clear hK
   try simp only [Act.put,tka,tkb,tkc]
   replace pX:=pX.below hb1
   refine tkr 2 17 (fun K hK=>?_)
   have kx:=kS V2 (bel_trans bw bt) ((t0a,t0n,t0c),(t1a,t1n,t1c),(t2a,t2n,t2c),(t3a,t3n,t3c)) (hO.mem fz)
   rw [ut] at kx
   go_simp
   refine kx.mono ?_
   rintro e V3 ⟨rfl,hb2⟩
   replace pX:=pX.below hb2
   have bt:=bel_trans bt hb2
   go_wp2_with fail
   refine hK.out _ _ (cells_kept bt _ _ hS0) (fun hS2=>?_)
   clear hK kx
   try simp only [Act.put,tka,tkb,tkc]
   refine tkm 3 14 (.tuple #[.agg #[.slice none 0 0,.map none],.int .i64 c]) ?_
   refine tkm 4 18 (.agg #[.slice none 0 0,.map none]) ?_
   refine tkm 5 19 (.int .i64 c) ?_
   refine tkz 7 (fun K hK=>?_)
   refine step_store_blkD rfl 106 _ _ rfl X [.slice none 0 0,.map none] rfl rfl pX (by kernel_rfl) rfl rfl ?_
   intro V9 pX9 g9
   have bz:=(bel_trans bw bt).grown g9 (bel_trans bw bt).size (fun q e=>by cases e;exact hXB)
   have hXP:X≠w.heap.size:=blk_ne pX (pP9.below bt) (by decide)
   have c9:=cells_kept bt _ _ hS0
   refine hK.out _ _ (cell_grownB g9 c9 (by simp;omega)) (fun hS4=>?_)
   clear hK
   try simp only [Act.put,tka,tkb,tkc]
   refine tkm 8 7 (.int .i64 c) ?_
   refine wpAnyH_done (by kernel_rfl) ?_ _
   go_wp2_with fail
   go_meet
   case rel=>exact ⟨X,rfl,rfl,bz⟩
 obtain ⟨X,rfl,rfl,bz⟩:=hcut
 have HG:Hid (∀ W,WofGot (.returned (.tuple #[.slice none 0 0,.int .i64 c])) W w.heap.size [] c):=fun W=>⟨_,rfl,World.ownsRow_nil _ _ _ _⟩
 clear kS kN bw pP fz pB hb9
 go_wp2
 refine bodyPost_ret (by simp [results,Tryz.results36,go_sem];try rfl) rfl ?_
 exact ⟨HG.out _,bz⟩

theorem implWitnessOf_ok (a:Option Addr) (len cap:Nat) (rows:List (List I3)) (b0 b1 b2:Int) (w:World) (hC:Codes w a len cap rows) (hV:VmShape w) (hb9:okB (b0,b1,b2)=true) (hc:codeF rows=0) :
  Calls Tryz.prog 36 #[.agg #[.slice a len cap],.agg #[.int .i64 b0,.int .i64 b1,.int .i64 b2]] w fun e w'=>WofGot e w' w.heap.size ((witO rows (b0,b1,b2)).getD []) (wofK (witO rows (b0,b1,b2)))∧Below w.heap.size w w':=by
 obtain ⟨hp,hf⟩:=code_parts hc
 obtain ⟨i0,hi9,hz0,hz1,hz2⟩:=info_parts info_int
 obtain ⟨cs,hR0⟩:=rows_of_codes6 hC hp
 obtain ⟨ans,hans⟩:∃ ans,ans=witO rows (b0,b1,b2):=⟨_,rfl⟩
 rw [← hans]
 have HA:Hid (witF (fullS rows) (hitI rows (b0,b1,b2)) 0 ((fullS rows).drop 0)=ans):=by rw [hans];rfl
 clear hans hc
 have kB:=implBugOK_is (b0,b1,b2)
 unfold I3.val at kB
 simp only at kB
 have fz:=(shape_fits9 zero_shape).1
 have kN:=implNewVm_is
 have bw:Below w.heap.size w ((w.alloc (.cells #[.slice a len cap] 25)).alloc (.cells #[.int .i64 b0,.int .i64 b1,.int .i64 b2] 64)):=by go_grown
 have pP:Blk ((w.alloc (.cells #[.slice a len cap] 25)).alloc (.cells #[.int .i64 b0,.int .i64 b1,.int .i64 b2] 64)) w.heap.size 25 [.slice a len cap]:=blkOld _ (blkAt _ _ _ rfl)
 have pB:Blk ((w.alloc (.cells #[.slice a len cap] 25)).alloc (.cells #[.int .i64 b0,.int .i64 b1,.int .i64 b2] 64)) (w.heap.size+1) 64 [.int .i64 b0,.int .i64 b1,.int .i64 b2]:=blkAt _ _ _ (by simp)
 go_enter Tryz.func36,Tryz.ntmps36
 go_wp2_with fail
 generalize ((w.alloc (.cells #[.slice a len cap] 25)).alloc (.cells #[.int .i64 b0,.int .i64 b1,.int .i64 b2] 64))=U at *
 go_wp2_with (refine wpList_load_blk rfl 64 _ rfl (w.heap.size+1) rfl pB _ Tryz.underlying64 rfl (by kernel_rfl) ?_)
 refine (kB U).mono ?_
 rintro e U1 ⟨rfl,hb⟩
 replace bw:=bel_trans bw hb
 replace pP:=pP.below hb
 replace pB:=pB.below hb
 clear hb kB
 rw [hb9]
 clear hb9
 have hR:=hR0.below bw
 have hwU:=bw.size
 have bw0:=bw
 have kS:=fun (W:World) (b:Below U1.heap.size U1 W) (t:S4) (h:Vmem W t zeroV)=>spaceOf_yes a len cap rows t W (hC.below (bel_trans bw0 b)) h (hV.below (bel_trans bw0 b)) hp hf
 have hI:∀ k,k<3→Instrs U1 (slK cs k).1 (slK cs k).2.1 (slK cs k).2.2 (codeM rows k):=by
  obtain ⟨b,off,_,_,hk⟩:=hR
  exact fun k h3=>(hk k h3).2
 replace bw:Below U1.heap.size U1 U1:=Below.refl _ _
 obtain ⟨PB,hPB⟩:∃ PB,PB=w.heap.size:=⟨_,rfl⟩
 rw [← hPB] at pP pB ⊢
 clear hPB
 go_wp2_with fail
 go_cut [6,7] from 14 (fun s4 s5 W=>CutK U1 W cs rows (fullS rows) s4 s5)
 case first =>
  have hdr:Below U1.heap.size U1 U1.drew:=by go_grown
  refine wp_region_held_drew (S:=(fun w'=>w'.cell? ⟨PB,0,none⟩=some (.slice a len cap))) (by kernel_rfl) (by simpa using pP.cell 0) (fun hS0=>?_)
  refine tkm 0 15 (.agg #[.slice a len cap]) ?_
  have pP9:=pP.below hdr
  replace bw:=bel_trans bw hdr
  clear hdr
  generalize U1.drew=V at *
  have bt:Below V.heap.size V V:=Below.refl _ _
  refine wpAnyH_ready (rs:=[1,6]) (by kernel_rfl) (by simp) ?_
  refine AllReadyH.cons (o:=⟨some 16,_,_,_,_,_⟩) rfl (fun K hK=>?_) (AllReadyH.cons (o:=⟨some 6,_,_,_,_,_⟩) rfl (fun K hK=>?_) AllReadyH.nil)
  ·go_simp
   refine (kN V).mono ?_
   rintro e V1 ⟨⟨⟨⟨t0a,t0n,t0c⟩,⟨t1a,t1n,t1c⟩,⟨t2a,t2n,t2c⟩,⟨t3a,t3n,t3c⟩⟩,rfl,hO⟩,hb1⟩
   have ut:S4.val ((t0a,t0n,t0c),(t1a,t1n,t1c),(t2a,t2n,t2c),(t3a,t3n,t3c))=.agg #[.slice t0a t0n t0c,.slice t1a t1n t1c,.slice t2a t2n t2c,.slice t3a t3n t3c]:=rfl
   rw [ut]
   have bt:=bel_trans bt hb1
   go_wp2_with fail
   refine hK.out _ _ (cells_kept bt _ _ hS0) (fun hS1=>?_)
   clear hK
   try simp only [Act.put,tka,tkb,tkc]
   refine wpAnyH_ready (rs:=[2,6]) (by kernel_rfl) (by simp) ?_
   refine AllReadyH.cons (o:=⟨some 17,_,_,_,_,_⟩) rfl (fun K hK=>?_) (AllReadyH.cons (o:=⟨some 6,_,_,_,_,_⟩) rfl (fun K hK=>?_) AllReadyH.nil)
   ·have kx:=kS V1 (bel_trans bw bt) ((t0a,t0n,t0c),(t1a,t1n,t1c),(t2a,t2n,t2c),(t3a,t3n,t3c)) (hO.mem fz)
    rw [ut] at kx
    go_simp
    refine kx.mono ?_
    rintro e V2 ⟨va9,nb,cs',L,rfl,sp,hLF,hR',hb2⟩
    obtain rfl:=(hR.below (bel_trans bw bt)).uniq hR'
    have hBv:U1.heap.size≤V1.heap.size:=Nat.le_trans bw.size bt.size
    obtain ⟨va8,vn8,vc8,hva⟩:=own_slice6 sp.row
    have bt:=bel_trans bt hb2
    go_wp2_with fail
    refine hK.out _ _ (cells_kept bt _ _ hS0) (fun hS2=>?_)
    clear hK kx
    try simp only [Act.put,tka,tkb,tkc]
    refine tkm 3 14 (.tuple #[.agg #[va9,.map (some nb)],.int .i64 0]) ?_
    refine tkm 4 18 (.agg #[va9,.map (some nb)]) ?_
    refine tkm 5 19 (.int .i64 0) ?_
    refine tkr 6 6 (fun K hK=>?_)
    have hb3:Below V2.heap.size V2 (V2.alloc (.cells #[.slice none 0 0,.map none] 106)):=by go_grown
    have pX:Blk (V2.alloc (.cells #[.slice none 0 0,.map none] 106)) V2.heap.size 106 [.slice none 0 0,.map none]:=blkAt _ _ _ rfl
    have hXB:U1.heap.size≤V2.heap.size:=Nat.le_trans bw.size bt.size
    replace sp:=sp.below hb3
    have bt:=bel_trans bt hb3
    go_simp
    refine hK.out _ _ (cells_kept bt _ _ hS0) (fun hS3=>?_)
    clear hK
    generalize (V2.alloc (.cells #[.slice none 0 0,.map none] 106))=V3 at *
    obtain ⟨X,hX⟩:∃ X,X=V2.heap.size:=⟨_,rfl⟩
    rw [← hX] at pX hXB ⊢
    clear hX
    try simp only [Act.put,tka,tkb,tkc]
    subst hva
    refine tkz 7 (fun K hK=>?_)
    refine step_store_blkD rfl 106 _ _ rfl X [.slice va8 vn8 vc8,.map (some nb)] rfl rfl pX (by kernel_rfl) rfl rfl ?_
    intro V9 pX9 g9
    have bz:=(bel_trans bw bt).grown g9 (bel_trans bw bt).size (fun q e=>by cases e;exact hXB)
    replace sp:=sp.grown g9 pX (by decide) (by decide)
    have hXP:X≠PB:=blk_ne pX (pP9.below bt) (by decide)
    have c9:=cells_kept bt _ _ hS0
    refine hK.out _ _ (cell_grownB g9 c9 (by simp;omega)) (fun hS4=>?_)
    clear hK
    try simp only [Act.put,tka,tkb,tkc]
    refine tkm 8 7 (.int .i64 0) ?_
    refine wpAnyH_done (by kernel_rfl) ?_ _
    go_wp2_with fail
    go_meet
    case rel=>exact CutK.mk9 (va:=.slice none 0 0) rfl rfl pX9.out sp hLF hXB hBv bz
   ·have hb3:Below V1.heap.size V1 (V1.alloc (.cells #[.slice none 0 0,.map none] 106)):=by go_grown
    have pX:Blk (V1.alloc (.cells #[.slice none 0 0,.map none] 106)) V1.heap.size 106 [.slice none 0 0,.map none]:=blkAt _ _ _ rfl
    have hXB:U1.heap.size≤V1.heap.size:=Nat.le_trans bw.size bt.size
    replace hO:=hO.below hb3
    have bt:=bel_trans bt hb3
    go_simp
    refine hK.out _ _ (cells_kept bt _ _ hS0) (fun hS3=>?_)
    clear hK
    generalize (V1.alloc (.cells #[.slice none 0 0,.map none] 106))=V2 at *
    obtain ⟨X,hX⟩:∃ X,X=V1.heap.size:=⟨_,rfl⟩
    rw [← hX] at pX hXB ⊢
    clear hX
    try simp only [Act.put,tka,tkb,tkc]
    refine tkr 2 17 (fun K hK=>?_)
    have kx:=kS V2 (bel_trans bw bt) ((t0a,t0n,t0c),(t1a,t1n,t1c),(t2a,t2n,t2c),(t3a,t3n,t3c)) (hO.mem fz)
    rw [ut] at kx
    go_simp
    refine kx.mono ?_
    rintro e V3 ⟨va9,nb,cs',L,rfl,sp,hLF,hR',hb2⟩
    obtain rfl:=(hR.below (bel_trans bw bt)).uniq hR'
    have hBv:U1.heap.size≤V2.heap.size:=Nat.le_trans bw.size bt.size
    obtain ⟨va8,vn8,vc8,hva⟩:=own_slice6 sp.row
    replace pX:=pX.below hb2
    have bt:=bel_trans bt hb2
    go_wp2_with fail
    refine hK.out _ _ (cells_kept bt _ _ hS0) (fun hS2=>?_)
    clear hK kx
    try simp only [Act.put,tka,tkb,tkc]
    refine tkm 3 14 (.tuple #[.agg #[va9,.map (some nb)],.int .i64 0]) ?_
    refine tkm 4 18 (.agg #[va9,.map (some nb)]) ?_
    refine tkm 5 19 (.int .i64 0) ?_
    subst hva
    refine tkz 7 (fun K hK=>?_)
    refine step_store_blkD rfl 106 _ _ rfl X [.slice va8 vn8 vc8,.map (some nb)] rfl rfl pX (by kernel_rfl) rfl rfl ?_
    intro V9 pX9 g9
    have bz:=(bel_trans bw bt).grown g9 (bel_trans bw bt).size (fun q e=>by cases e;exact hXB)
    replace sp:=sp.grown g9 pX (by decide) (by decide)
    have hXP:X≠PB:=blk_ne pX (pP9.below bt) (by decide)
    have c9:=cells_kept bt _ _ hS0
    refine hK.out _ _ (cell_grownB g9 c9 (by simp;omega)) (fun hS4=>?_)
    clear hK
    try simp only [Act.put,tka,tkb,tkc]
    refine tkm 8 7 (.int .i64 0) ?_
    refine wpAnyH_done (by kernel_rfl) ?_ _
    go_wp2_with fail
    go_meet
    case rel=>exact CutK.mk9 (va:=.slice none 0 0) rfl rfl pX9.out sp hLF hXB hBv bz
  ·have hb3:Below V.heap.size V (V.alloc (.cells #[.slice none 0 0,.map none] 106)):=by go_grown
   have pX:Blk (V.alloc (.cells #[.slice none 0 0,.map none] 106)) V.heap.size 106 [.slice none 0 0,.map none]:=blkAt _ _ _ rfl
   have hXB:U1.heap.size≤V.heap.size:=Nat.le_trans bw.size bt.size
   have bt:=bel_trans bt hb3
   go_simp
   refine hK.out _ _ (cells_kept bt _ _ hS0) (fun hS3=>?_)
   clear hK
   generalize (V.alloc (.cells #[.slice none 0 0,.map none] 106))=V1 at *
   obtain ⟨X,hX⟩:∃ X,X=V.heap.size:=⟨_,rfl⟩
   rw [← hX] at pX hXB ⊢
   clear hX
   try simp only [Act.put,tka,tkb,tkc]
   refine tkr 1 16 (fun K hK=>?_)
   go_simp
   refine (kN V1).mono ?_
   rintro e V2 ⟨⟨⟨⟨t0a,t0n,t0c⟩,⟨t1a,t1n,t1c⟩,⟨t2a,t2n,t2c⟩,⟨t3a,t3n,t3c⟩⟩,rfl,hO⟩,hb1⟩
   have ut:S4.val ((t0a,t0n,t0c),(t1a,t1n,t1c),(t2a,t2n,t2c),(t3a,t3n,t3c))=.agg #[.slice t0a t0n t0c,.slice t1a t1n t1c,.slice t2a t2n t2c,.slice t3a t3n t3c]:=rfl
   rw [ut]
   have bt:=bel_trans bt hb1
   go_wp2_with fail
   refine hK.out _ _ (cells_kept bt _ _ hS0) (fun hS1=>?_)
   clear hK
   try simp only [Act.put,tka,tkb,tkc]
   replace pX:=pX.below hb1
   refine tkr 2 17 (fun K hK=>?_)
   have kx:=kS V2 (bel_trans bw bt) ((t0a,t0n,t0c),(t1a,t1n,t1c),(t2a,t2n,t2c),(t3a,t3n,t3c)) (hO.mem fz)
   rw [ut] at kx
   go_simp
   refine kx.mono ?_
   rintro e V3 ⟨va9,nb,cs',L,rfl,sp,hLF,hR',hb2⟩
   obtain rfl:=(hR.below (bel_trans bw bt)).uniq hR'
   have hBv:U1.heap.size≤V2.heap.size:=Nat.le_trans bw.size bt.size
   obtain ⟨va8,vn8,vc8,hva⟩:=own_slice6 sp.row
   replace pX:=pX.below hb2
   have bt:=bel_trans bt hb2
   go_wp2_with fail
   refine hK.out _ _ (cells_kept bt _ _ hS0) (fun hS2=>?_)
   clear hK kx
   try simp only [Act.put,tka,tkb,tkc]
   refine tkm 3 14 (.tuple #[.agg #[va9,.map (some nb)],.int .i64 0]) ?_
   refine tkm 4 18 (.agg #[va9,.map (some nb)]) ?_
   refine tkm 5 19 (.int .i64 0) ?_
   subst hva
   refine tkz 7 (fun K hK=>?_)
   refine step_store_blkD rfl 106 _ _ rfl X [.slice va8 vn8 vc8,.map (some nb)] rfl rfl pX (by kernel_rfl) rfl rfl ?_
   intro V9 pX9 g9
   have bz:=(bel_trans bw bt).grown g9 (bel_trans bw bt).size (fun q e=>by cases e;exact hXB)
   replace sp:=sp.grown g9 pX (by decide) (by decide)
   have hXP:X≠PB:=blk_ne pX (pP9.below bt) (by decide)
   have c9:=cells_kept bt _ _ hS0
   refine hK.out _ _ (cell_grownB g9 c9 (by simp;omega)) (fun hS4=>?_)
   clear hK
   try simp only [Act.put,tka,tkb,tkc]
   refine tkm 8 7 (.int .i64 0) ?_
   refine wpAnyH_done (by kernel_rfl) ?_ _
   go_wp2_with fail
   go_meet
   case rel=>exact CutK.mk9 (va:=.slice none 0 0) rfl rfl pX9.out sp hLF hXB hBv bz
 obtain ⟨X,va,vc,nb,L,rfl,rfl,pX,sp,hLF,hXB,bz⟩:=hcut
 clear kS kN fz bw pP
 have cX0:wc.cell? ⟨X,0,none⟩=some (.slice va L.length vc):=by simpa using pX.cell 0
 have hl2:L.length≤2000:=by
  have e:(L.map (·.1)).length=L.length:=by simp
  rw [hLF] at e
  omega
 have hsh:Shaped (L.map (·.1)):=by rw [hLF];exact fullS_shaped hp
 have hcm:Came (nxM rows) (L.map (·.1)):=by rw [hLF];exact fullS_came rows
 rw [← hLF] at sp HA
 replace pB:=pB.below bz
 have bwc:=bel_trans bw0 bz
 replace hI:=fun k hk=>(hI k hk).below bz
 clear hLF bz bw0 hR0 hR hwU hXB
 go_wp2_with fail
 go_loopw [26] (fun s26 wr=>∃ i:Nat,s26=.int .i64 i∧i≤L.length∧Hid (witF (L.map (·.1)) (hitI rows (b0,b1,b2)) i ((L.map (·.1)).drop i)=ans)∧Below wc.heap.size wc wr) (fun s26 _=>L.length - (intOf s26).toNat)
 case atStart=>exact ⟨0,rfl,Nat.zero_le _,HA,Below.refl _ _⟩
 case round =>
  clear HA cX0
  obtain ⟨i,rfl,hil,HA,bq⟩:=hrel
  by_cases hlt:i<L.length
  ·obtain ⟨r,mv,hr⟩:∃ r mv,L[i]?=some (r,mv):=⟨L[i].1,L[i].2,by rw [List.getElem?_eq_getElem hlt]⟩
   have hr2:(L.map (·.1))[i]?=some r:=by rw [List.getElem?_map,hr];rfl
   have hs:shapeOk r.1=true:=hsh r (List.mem_of_getElem? hr2)
   have sp1:=sp.below bq
   have pX1:=pX.below bq
   have pB1:=pB.below bq
   have mvr:=sp1.mvs i r mv hlt hr
   obtain ⟨g,c9,e9,hg,hrg⟩:=sp1.at9 hr
   cases e9
   have hmv:=sp1.mvone hr
   have hlt3:(i:Int)<(L.length:Int):=by omega
   have hj0:(0:Int)≤(i:Int):=by omega
   have pN:=Blk.new wr 111 [.string ⟨#[]⟩,.slice none 0 0,.int .i64 0,.int .i64 0,.int .i64 0,.slice none 0 0,.int .i64 0,.int .i64 0,.int .i64 0,.slice none 0 0,.int .i64 0,.int .i64 0,.int .i64 0,.int .i64 0,.int .i64 0,.int .i64 0,.int .i64 0,.int .i64 0,.int .i64 0,.int .i64 0,.int .i64 0,.slice none 0 0]
   have hbN:Below wr.heap.size wr (wr.alloc (.cells #[.string ⟨#[]⟩,.slice none 0 0,.int .i64 0,.int .i64 0,.int .i64 0,.slice none 0 0,.int .i64 0,.int .i64 0,.int .i64 0,.slice none 0 0,.int .i64 0,.int .i64 0,.int .i64 0,.int .i64 0,.int .i64 0,.int .i64 0,.int .i64 0,.int .i64 0,.int .i64 0,.int .i64 0,.int .i64 0,.slice none 0 0] 111)):=by go_grown
   go_wp2_with (first | refine wpList_load_mid rfl 111 _ rfl g (i*22) rfl (rcC cs r mv) _ hrg Tryz.underlying111 rfl (by kernel_rfl) ?_ | refine wpList_store_blk rfl 111 _ _ rfl wr.heap.size (rcC cs r mv) rfl rfl pN (by kernel_rfl) rfl (rcC_one cs r hmv) ?_)
   intro w3 p3 g3
   have pE:=p3.out
   have b3:Below wr.heap.size wr w3:=hbN.grown g3 hbN.size (fun k e=>by cases e;exact Nat.le_refl _)
   replace bq:=bel_trans bq b3
   replace pB1:=pB1.below b3
   replace mvr:=owns_below mvr b3
   clear p3 g3 hbN pN b3 hrg hmv sp1 pX1
   generalize wr.heap.size=E at *
   have q0:w3.cell? ⟨PB+1,0,none⟩=some (.int .i64 b0):=by simpa using pB1.cell 0
   have q1:w3.cell? ⟨PB+1,1,none⟩=some (.int .i64 b1):=by simpa using pB1.cell 1
   have q2:w3.cell? ⟨PB+1,2,none⟩=some (.int .i64 b2):=by simpa using pB1.cell 2
   have hdr:Below w3.heap.size w3 w3.drew:=by go_grown
   have kR:=rbug_is (pE.below hdr) (owns_below mvr hdr) hp hs (fun k hk=>(hI k hk).below (bel_trans bq hdr))
   go_wp2_with fail
   refine wp_region_held_drew (S:=(fun w'=>w'.cell? ⟨PB+1,0,none⟩=some (.int .i64 b0)∧w'.cell? ⟨PB+1,1,none⟩=some (.int .i64 b1)∧w'.cell? ⟨PB+1,2,none⟩=some (.int .i64 b2))) (by kernel_rfl) ⟨q0,q1,q2⟩ (fun hS0=>?_)
   refine tkm 1 32 (.agg #[.int .i64 b0,.int .i64 b1,.int .i64 b2]) ?_
   replace bq:=bel_trans bq hdr
   clear hdr
   generalize w3.drew=V at *
   refine tkr 0 31 (fun K hK=>?_)
   go_simp
   refine kR.mono ?_
   rintro e V1 ⟨⟨v9,rfl,q9⟩,hb1⟩
   obtain ⟨fa,fc,rfl,hIn,hGd⟩:=bugs_sliceR q9 (bugsI_fits hp hs)
   have kC:=contains_is fa (bugsI rows r.1).length fc (bugsI rows r.1) (b0,b1,b2) V1 hIn (bugsI_len rows r.1)
   unfold I3.val at kC
   simp only at kC
   go_wp2_with fail
   refine hK.out _ _ ⟨cells_kept hb1 _ _ hS0.1,cells_kept hb1 _ _ hS0.2.1,cells_kept hb1 _ _ hS0.2.2⟩ (fun hS1=>?_)
   clear hK kR q9 hIn hGd
   try simp only [Act.put,tka,tkb,tkc]
   replace bq:=bel_trans bq hb1
   refine tkr 2 33 (fun K hK=>?_)
   go_simp
   refine kC.mono ?_
   rintro e V2 ⟨rfl,hb2⟩
   go_wp2_with fail
   refine hK.out _ _ ⟨cells_kept hb2 _ _ hS1.1,cells_kept hb2 _ _ hS1.2.1,cells_kept hb2 _ _ hS1.2.2⟩ (fun hS2=>?_)
   clear hK kC
   try simp only [Act.put,tka,tkb,tkc]
   replace bq:=bel_trans bq hb2
   obtain ⟨c0,c1,c2⟩:=id hS2
   clear hS0 hS1 hb1 hb2 q0 q1 q2 pB1 mvr pE
   cases hh:hasW (bugsI rows r.1) (b0,b1,b2)
   ·refine tkm 3 34 (.bool true) ?_
    refine wpAnyH_done (by kernel_rfl) ?_ _
    have hm:hitI rows (b0,b1,b2) r.1=none:=by
     unfold hitI
     rw [if_neg]
     intro h9
     rw [hasW_iff.2 h9] at hh
     cases hh
    have HA2:Hid (witF (L.map (·.1)) (hitI rows (b0,b1,b2)) (i+1) ((L.map (·.1)).drop (i+1))=ans):=by rw [Hid,← witF_miss hr2 hm];exact HA.out
    clear HA hm hr hr2 hh c0 c1 c2 hS2
    go_wp2
    go_roundw
    case rel=>exact ⟨i+1,by go_num,by omega,HA2,bq⟩
    case measure=>simp [intOf];omega
   ·refine tkm 3 34 (.bool false) ?_
    refine wpAnyH_done (by kernel_rfl) ?_ _
    have hm:hitI rows (b0,b1,b2) r.1=some (if b0=14 then [] else [b1]):=by
     unfold hitI
     rw [if_pos (hasW_iff.1 hh)]
    have HA2:Hid (ans=some (pathS (L.map (·.1)) i i++(if b0=14 then [] else [b1]))):=by rw [Hid,← HA.out,witF_hit hr2 hm]
    have kT:=schTo_is (sp.below bq) (pX.below bq) hcm hlt hl2
    clear HA hm hr hr2 hh hS2
    go_wp2_with fail
    refine kT.mono ?_
    rintro e V3 ⟨⟨v3,rfl,q3⟩,hb3⟩
    replace q3:=own_lower q3 (show w.heap.size≤V2.heap.size from Nat.le_trans bwc.size bq.size)
    replace c0:=cells_kept hb3 _ _ c0
    replace c1:=cells_kept hb3 _ _ c1
    have bz:=bel_trans bwc (bel_trans bq hb3)
    obtain ⟨ka,kn,kc,rfl⟩:=own_slice6 q3
    clear kT hb3 bq c2
    have hpl:=pathS_len (L.map (·.1)) i i
    generalize pathS (L.map (·.1)) i i=ks at *
    by_cases h14:b0=14
    ·subst h14
     have HG:Hid (WofGot (.returned (.tuple #[.slice ka kn kc,.int .i64 0])) V3 w.heap.size (ans.getD []) (wofK ans)):=by
      rw [HA2.out]
      simp only [if_pos,List.append_nil,Option.getD_some]
      exact ⟨_,rfl,q3⟩
     clear HA2 q3
     go_wp2
     refine bodyPost_ret (by simp [results,Tryz.results36,go_sem];try rfl) rfl ?_
     exact ⟨HG.out,bz⟩
    ·have hbn:(b0 != 14)=true:=by simp [h14]
     have HA3:Hid (ans=some (ks++[b1])):=by rw [Hid,HA2.out,if_neg h14]
     clear HA2 h14
     go_wp2_with (at_builtin;refine wpList_append_own_at _ rfl _ _ 27 rfl w.heap.size 3 i0 (.int .i64 0) 1 8 Tryz.underlying27 hi9 hz0 hz1 hz2 rfl (by decide) _ _ _ rfl (q3.alloc _) ⟨V3.heap.size,0,none⟩ 1 1 [.int .i64 b1] rfl rfl (cell_one_new _ _ _) (one_int6 _) ?c3 ?c4 ?c5 ?_)
     case c3=>unfold maxLen;omega
     case c4=>omega
     case c5=>have:=bz.size;simp;omega
     intro v6 w4 q6 gr _ at6
     have ha:Below V3.heap.size V3 (V3.alloc (.cells #[.int .i64 b1] 3)):=by go_grown
     have bz4:=(bel_trans bz ha).grown gr (bel_trans bz ha).size (fun k e=>(own_lt3 (q3.alloc (.cells #[.int .i64 b1] 3)) e).1)
     obtain ⟨na,nn,nc,rfl⟩:=own_slice6 q6
     have HG:Hid (WofGot (.returned (.tuple #[.slice na nn nc,.int .i64 0])) w4 w.heap.size (ans.getD []) (wofK ans)):=by
      rw [HA3.out]
      simp only [Option.getD_some]
      exact ⟨_,rfl,row_int6 q6⟩
     clear HA3 q6 q3 gr at6 ha bz c0 c1
     go_wp2
     refine bodyPost_ret (by simp [results,Tryz.results36,go_sem];try rfl) rfl ?_
     exact ⟨HG.out,bz4⟩
  ·have hge:¬ (i:Int)<(L.length:Int):=by omega
   have hend:ans=none:=by rw [← HA.out];exact witF_end (by simp;omega)
   have HG:Hid (∀ W,WofGot (.returned (.tuple #[.slice none 0 0,.int .i64 5])) W w.heap.size (ans.getD []) (wofK ans)):=fun W=>by
    rw [hend]
    exact ⟨_,rfl,World.ownsRow_nil _ _ _ _⟩
   have bz:=bel_trans bwc bq
   clear HA hend bq
   go_wp2
   refine bodyPost_ret (by simp [results,Tryz.results36,go_sem];try rfl) rfl ?_
   exact ⟨HG.out _,bz⟩
theorem implWitnessOf_is (a:Option Addr) (len cap:Nat) (rows:List (List I3)) (b:I3) (w:World) (hC:Codes w a len cap rows) (hV:VmShape w) :
  Calls Tryz.prog 36 #[.agg #[.slice a len cap],b.val] w fun e w'=>WofGot e w' w.heap.size (wofL rows b) (wofC rows b)∧Below w.heap.size w w':=by
 obtain ⟨b0,b1,b2⟩:=b
 unfold wofL wofC I3.val
 cases hb:okB (b0,b1,b2)
 ·exact implWitnessOf_bug a len cap b0 b1 b2 w hb
 ·by_cases hc:codeF rows=0
  ·rw [if_pos ⟨rfl,hc⟩,if_pos rfl,if_pos hc]
   exact implWitnessOf_ok a len cap rows b0 b1 b2 w hC hV hb hc
  ·rw [if_neg (fun h=>hc h.2),if_pos rfl,if_neg hc]
   exact implWitnessOf_not a len cap rows b0 b1 b2 w hC hV hb hc


def witV (rows:List (List I3)) (ks:List Int) (y:I3):Bool:=if 4096<ks.length then false else if progOk rows && okB y then decide (runC rows ks=0) && hasW (runF rows ks) y else false
def witC (rows:List (List I3)) (ks:List Int) (y:I3):Int:=if 4096<ks.length then 2 else if progOk rows && okB y then 0 else 1
theorem runF_ok (rows:List (List I3)) (ks:List Int):(∀ x ∈ runF rows ks,okB x=true)∧(runF rows ks).length≤5000:=by
 unfold runF
 split
 ·simp
 ·split
  ·rename_i h1 h2
   have a:=runI_ok h2 ks zeroV [] zero_shape (by simp)
   have b:=runI_len (rows:=rows) ks zeroV []
   have c:=mergeB_len (runI rows zeroV [] ks).2.1 (deadM rows (runI rows zeroV [] ks).1)
   have d:(deadM rows (runI rows zeroV [] ks).1).length≤1:=by unfold deadM;split<;>simp
   refine ⟨mergeB_ok a.2 (deadM_ok _ _),?_⟩
   simp at b
   omega
  ·simp

theorem implIsWitness_is (a:Option Addr) (len cap:Nat) (rows:List (List I3)) (la:Option Addr) (n c:Nat) (ks:List Int) (y:I3) (w:World) (hC:Codes w a len cap rows) (hV:VmShape w) (hL:Ints .i64 w la n c ks) :
  Calls Tryz.prog 38 #[.agg #[.slice a len cap],.slice la n c,y.val] w fun e w'=>e=.returned (.tuple #[.bool (witV rows ks y),.int .i64 (witC rows ks y)])∧Below w.heap.size w w':=by
 have hll:=hL.1
 unfold witV witC
 rw [hll]
 obtain ⟨y0,y1,y2⟩:=y
 unfold I3.val
 simp only
 have bw:Below w.heap.size w ((w.alloc (.cells #[.slice a len cap] 25)).alloc (.cells #[.int .i64 y0,.int .i64 y1,.int .i64 y2] 64)):=by go_grown
 have pP:Blk ((w.alloc (.cells #[.slice a len cap] 25)).alloc (.cells #[.int .i64 y0,.int .i64 y1,.int .i64 y2] 64)) w.heap.size 25 [.slice a len cap]:=blkOld _ (blkAt _ _ _ rfl)
 have pB:Blk ((w.alloc (.cells #[.slice a len cap] 25)).alloc (.cells #[.int .i64 y0,.int .i64 y1,.int .i64 y2] 64)) (w.heap.size+1) 64 [.int .i64 y0,.int .i64 y1,.int .i64 y2]:=blkAt _ _ _ (by simp)
 by_cases hn:4096<n
 ·have hn':(4096:Int)<(n:Int):=by omega
  simp only [if_pos hn]
  clear hC hV hL hn pP pB
  go_enter Tryz.func38,Tryz.ntmps38
  go_wp2
  go_ret2
  exact ⟨rfl,bw⟩
 simp only [if_neg hn]
 have hn':¬ (4096:Int)<(n:Int):=by omega
 cases hp:progOk rows
 ·have kN:=fun W (b:Below w.heap.size w W)=>newReplay_bad (hC.below b) (hV.below b) hp
  simp only [Bool.false_and,Bool.false_eq_true,if_false]
  clear hp hC hV hL hn
  go_enter Tryz.func38,Tryz.ntmps38
  go_wp2_with fail
  generalize ((w.alloc (.cells #[.slice a len cap] 25)).alloc (.cells #[.int .i64 y0,.int .i64 y1,.int .i64 y2] 64))=U at *
  have bx:Below U.heap.size U U:=Below.refl _ _
  go_wp2_with (first | refine wpList_load_blk rfl 25 _ rfl w.heap.size rfl pP _ Tryz.underlying25 rfl (by kernel_rfl) ?_)
  refine (kN _ bw).mono ?_
  rintro e w1 ⟨rfl,hb⟩
  replace bx:=bel_trans bx hb
  have pN:=Blk.new w1 91 [.slice none 0 0,.int .i64 0,.int .i64 0,.int .i64 0,.slice none 0 0,.int .i64 0,.int .i64 0,.int .i64 0,.slice none 0 0,.int .i64 0,.int .i64 0,.int .i64 0,.int .i64 0,.int .i64 0,.int .i64 0,.int .i64 0,.int .i64 0,.int .i64 0,.slice none 0 0]
  have ha:Below w1.heap.size w1 (w1.alloc (.cells #[.slice none 0 0,.int .i64 0,.int .i64 0,.int .i64 0,.slice none 0 0,.int .i64 0,.int .i64 0,.int .i64 0,.slice none 0 0,.int .i64 0,.int .i64 0,.int .i64 0,.int .i64 0,.int .i64 0,.int .i64 0,.int .i64 0,.int .i64 0,.int .i64 0,.slice none 0 0] 91)):=by go_grown
  have hgU:U.heap.size≤w1.heap.size:=bx.size
  clear kN hb pP
  go_wp2_with (refine wpList_store_blk rfl 91 _ _ rfl w1.heap.size [.slice none 0 0,.int .i64 0,.int .i64 0,.int .i64 0,.slice none 0 0,.int .i64 0,.int .i64 0,.int .i64 0,.slice none 0 0,.int .i64 0,.int .i64 0,.int .i64 0,.int .i64 0,.int .i64 0,.int .i64 0,.int .i64 0,.int .i64 0,.int .i64 0,.slice none 0 0] rfl rfl pN (by kernel_rfl) rfl rfl ?_)
  intro W pM g1
  replace bx:=(bel_trans bx ha).grown g1 (by simp;omega) (fun x hx=>by cases hx;omega)
  have pG:=pM.out
  clear g1 ha pN pM
  generalize w1.heap.size=g at *
  clear pG hgU pB
  replace bw:=bel_trans bw bx
  clear bx
  go_wp2
  go_ret2
  exact ⟨rfl,bw⟩
 ·obtain ⟨rfl,cs,hR⟩:=hC.rowsAt hp
  have kN:=fun W (b:Below w.heap.size w W)=>newReplay_ok (hC.below b) (hV.below b) hp (hR.below b)
  have kO:=fun W=>implBugOK_is (y0,y1,y2) W
  unfold I3.val at kO
  simp only at kO
  simp only [Bool.true_and]
  cases hy:okB (y0,y1,y2)
  ·rw [hy] at kO
   simp only [Bool.false_eq_true,if_false]
   clear hp hC hV hL hn hy hR
   go_enter Tryz.func38,Tryz.ntmps38
   go_wp2_with fail
   generalize ((w.alloc (.cells #[.slice a 3 cap] 25)).alloc (.cells #[.int .i64 y0,.int .i64 y1,.int .i64 y2] 64))=U at *
   have bx:Below U.heap.size U U:=Below.refl _ _
   go_wp2_with (first | refine wpList_load_blk rfl 25 _ rfl w.heap.size rfl pP _ Tryz.underlying25 rfl (by kernel_rfl) ?_)
   refine (kN _ bw).mono ?_
   rintro e w1 ⟨rfl,hb⟩
   replace bx:=bel_trans bx hb
   have pN:=Blk.new w1 91 [.slice none 0 0,.int .i64 0,.int .i64 0,.int .i64 0,.slice none 0 0,.int .i64 0,.int .i64 0,.int .i64 0,.slice none 0 0,.int .i64 0,.int .i64 0,.int .i64 0,.int .i64 0,.int .i64 0,.int .i64 0,.int .i64 0,.int .i64 0,.int .i64 0,.slice none 0 0]
   have ha:Below w1.heap.size w1 (w1.alloc (.cells #[.slice none 0 0,.int .i64 0,.int .i64 0,.int .i64 0,.slice none 0 0,.int .i64 0,.int .i64 0,.int .i64 0,.slice none 0 0,.int .i64 0,.int .i64 0,.int .i64 0,.int .i64 0,.int .i64 0,.int .i64 0,.int .i64 0,.int .i64 0,.int .i64 0,.slice none 0 0] 91)):=by go_grown
   have hgU:U.heap.size≤w1.heap.size:=bx.size
   clear kN hb pP
   go_wp2_with (refine wpList_store_blk rfl 91 _ _ rfl w1.heap.size (Rp.machR (.slice none 0 0) cs.1.val cs.2.1.val cs.2.2.val zeroV) rfl rfl pN (by kernel_rfl) rfl rfl ?_)
   intro W pM g1
   replace bx:=(bel_trans bx ha).grown g1 (by simp;omega) (fun x hx=>by cases hx;omega)
   have pG:=pM.out
   clear g1 ha pN pM
   generalize w1.heap.size=g at *
   clear pG hgU
   replace pB:=pB.below bx
   replace bw:=bel_trans bw bx
   clear bx
   have d0:=pB.cell 0
   have d1:=pB.cell 1
   have d2:=pB.cell 2
   simp only [List.getElem?_cons_zero,List.getElem?_cons_succ] at d0 d1 d2
   go_wp2_with fail
   refine (kO _).mono ?_
   rintro e w2 ⟨rfl,hb⟩
   replace bw:=bel_trans bw hb
   clear hb kO pB d0 d1 d2
   go_wp2
   go_ret2
   exact ⟨rfl,bw⟩
  ·rw [hy] at kO
   simp only [if_true]
   have okF:=runI_ok hp ks zeroV [] zero_shape (by simp)
   have lenF:=runI_len (rows:=rows) ks zeroV []
   have rF:=runF_ok rows ks
   have eF:runF rows ks=mergeB (runI rows zeroV [] ks).2.1 (deadM rows (runI rows zeroV [] ks).1):=by unfold runF;rw [if_neg (by omega),if_pos hp]
   have eC:runC rows ks=(runI rows zeroV [] ks).2.2:=by unfold runC;rw [if_neg (by omega),if_pos hp]
   rw [eF] at rF ⊢
   rw [eC]
   clear eF eC
   have kRun:=fun (U W:World) (g:Nat) (bU:Below w.heap.size w U) (b:Below U.heap.size U W) (hg:U.heap.size≤g) (hM:RanTo W g U.heap.size cs zeroV []) (hl:ListAt W U.heap.size la n c ks)=>run_is (hR.below bU) b hg hp zero_shape hM hl (by simp;omega)
   have hL0:∀ U W,Below w.heap.size w U→Below U.heap.size U W→ListAt W U.heap.size la n c ks:=fun U W bU b=>⟨(hL.below bU).below b,fun b' o' ha h0=>by
    rcases hL.2.2.2 with h9 | ⟨b9,o9,e9,l9,_⟩
    ·omega
    ·rw [ha] at e9
     cases e9
     exact .inl (Nat.lt_of_lt_of_le l9 bU.size)⟩
   generalize runI rows zeroV [] ks=fin at *
   obtain ⟨m,fs,code⟩:=fin
   simp only at okF lenF kRun rF ⊢
   obtain ⟨hs,hok⟩:=okF
   have kB:=fun (W:World) (g:Nat) (fv:Value) (h:Rp.MachAt fv W g cs rows m) (B:Nat) (hF:W.ownsRow B 64 3 fv fs.length (flat fs))=>rbugs_is h hp hs hF (fun x hx=>okB_fitsQ (hok x hx)) (by simp at lenF;omega)
   generalize mergeB fs (deadM rows m)=found at *
   obtain ⟨hfo,hfl⟩:=rF
   have kCn:=fun (W:World) (fa:Option Addr) (fc:Nat) (h:Instrs W fa found.length fc found)=>contains_is fa found.length fc found (y0,y1,y2) W h (by omega)
   unfold I3.val at kCn
   simp only at kCn
   generalize hasW found (y0,y1,y2)=hw at *
   clear hp hC hV hL hn hy hs hok lenF hll
   go_enter Tryz.func38,Tryz.ntmps38
   go_wp2_with fail
   generalize ((w.alloc (.cells #[.slice a 3 cap] 25)).alloc (.cells #[.int .i64 y0,.int .i64 y1,.int .i64 y2] 64))=U at *
   have bx:Below U.heap.size U U:=Below.refl _ _
   go_wp2_with (first | refine wpList_load_blk rfl 25 _ rfl w.heap.size rfl pP _ Tryz.underlying25 rfl (by kernel_rfl) ?_)
   refine (kN _ bw).mono ?_
   rintro e w1 ⟨rfl,hb⟩
   replace bx:=bel_trans bx hb
   have pN:=Blk.new w1 91 [.slice none 0 0,.int .i64 0,.int .i64 0,.int .i64 0,.slice none 0 0,.int .i64 0,.int .i64 0,.int .i64 0,.slice none 0 0,.int .i64 0,.int .i64 0,.int .i64 0,.int .i64 0,.int .i64 0,.int .i64 0,.int .i64 0,.int .i64 0,.int .i64 0,.slice none 0 0]
   have ha:Below w1.heap.size w1 (w1.alloc (.cells #[.slice none 0 0,.int .i64 0,.int .i64 0,.int .i64 0,.slice none 0 0,.int .i64 0,.int .i64 0,.int .i64 0,.slice none 0 0,.int .i64 0,.int .i64 0,.int .i64 0,.int .i64 0,.int .i64 0,.int .i64 0,.int .i64 0,.int .i64 0,.int .i64 0,.slice none 0 0] 91)):=by go_grown
   have hgU:U.heap.size≤w1.heap.size:=bx.size
   clear kN hb pP
   go_wp2_with (refine wpList_store_blk rfl 91 _ _ rfl w1.heap.size (Rp.machR (.slice none 0 0) cs.1.val cs.2.1.val cs.2.2.val zeroV) rfl rfl pN (by kernel_rfl) rfl rfl ?_)
   intro W pM g1
   replace bx:=(bel_trans bx ha).grown g1 (by simp;omega) (fun x hx=>by cases hx;omega)
   have pG:=pM.out
   clear g1 ha pN pM
   generalize w1.heap.size=g at *
   have pB2:=pB.below bx
   have d0:=pB2.cell 0
   have d1:=pB2.cell 1
   have d2:=pB2.cell 2
   simp only [List.getElem?_cons_zero,List.getElem?_cons_succ] at d0 d1 d2
   go_wp2_with fail
   refine (kO _).mono ?_
   rintro e w2 ⟨rfl,hb⟩
   replace bx:=bel_trans bx hb
   replace pG:=pG.below hb
   clear hb kO pB2 d0 d1 d2
   have kRx:=kRun U w2 g bw bx hgU ⟨_,pG,World.ownsRow_nil _ _ _ _⟩ (hL0 _ _ bw bx)
   clear kRun hL0
   by_cases hcd:code=0
   ·subst hcd
    have he0:((0:Int) == 0)=true:=rfl
    simp only [decide_true,Bool.true_and]
    go_wp2_with fail
    refine kRx.mono ?_
    rintro e w3 ⟨rfl,⟨fv,hM3,hF3⟩,bw3,kp3⟩
    have pB3:=pB.below bw3
    clear kRx pG pB kp3 bx
    have c0:=pB3.cell 0
    have c1:=pB3.cell 1
    have c2:=pB3.cell 2
    simp only [List.getElem?_cons_zero,List.getElem?_cons_succ] at c0 c1 c2
    go_wp2_with fail
    have hdr:Below w3.heap.size w3 w3.drew:=by go_grown
    have kBx:=kB w3.drew g fv (rowsMach ((hR.below bw).below (bel_trans bw3 hdr)) (hM3.below hdr)) _ (owns_below hF3 hdr)
    have bd:=bel_trans bw3 hdr
    clear hdr kB
    refine wp_region_held_drew (S:=(fun w'=>w'.cell? ⟨w.heap.size+1,0,none⟩=some (.int .i64 y0)∧w'.cell? ⟨w.heap.size+1,1,none⟩=some (.int .i64 y1)∧w'.cell? ⟨w.heap.size+1,2,none⟩=some (.int .i64 y2))) (by kernel_rfl) ⟨c0,c1,c2⟩ (fun hS0=>?_)
    refine tkm 0 29 (.bool true) ?_
    refine tkm 1 30 (.bool true) ?_
    refine tkm 3 32 (.agg #[.int .i64 y0,.int .i64 y1,.int .i64 y2]) ?_
    refine tkr 2 31 (fun K hK=>?_)
    go_simp
    refine kBx.mono ?_
    rintro e w4 ⟨⟨v4,rfl,q4⟩,hb4⟩
    obtain ⟨fa,fc,rfl,hI4,hG4⟩:=bugs_sliceR q4 (fun x hx=>okB_fitsQ (hfo x hx))
    clear hG4 q4
    go_wp2_with fail
    refine hK.out _ _ ?_ (fun hS1=>?_)
    ·exact ⟨cells_kept hb4 _ _ hS0.1,cells_kept hb4 _ _ hS0.2.1,cells_kept hb4 _ _ hS0.2.2⟩
    clear hK kBx
    refine tkr 4 33 (fun K hK=>?_)
    go_simp
    refine (kCn _ fa fc hI4).mono ?_
    rintro e w5 ⟨rfl,hb5⟩
    go_wp2_with fail
    refine hK.out _ _ ?_ (fun hS2=>?_)
    ·exact ⟨cells_kept hb5 _ _ hS1.1,cells_kept hb5 _ _ hS1.2.1,cells_kept hb5 _ _ hS1.2.2⟩
    clear hK kCn
    refine tkm 5 34 (.bool hw) ?_
    refine tkm 6 6 (.bool hw) ?_
    refine tkm 7 7 (.int .i64 0) ?_
    refine wpAnyH_done (by kernel_rfl) ?_ _
    have bz:=bel_trans bw (bel_trans bd (bel_trans hb4 hb5))
    clear hS0 hS1 hS2 bd hb4 hb5 hI4 hM3 hF3 bw3 pB3 c0 c1 c2 bw hR
    go_wp2
    go_ret2
    exact ⟨rfl,bz⟩
   ·have he0:(code == 0)=false:=by simp [hcd]
    have HC:Hid (decide (code=0)=false):=by rw [Hid];simp [hcd]
    clear hcd
    go_wp2_with fail
    refine kRx.mono ?_
    rintro e w3 ⟨rfl,⟨fv,hM3,hF3⟩,bw3,kp3⟩
    have pB3:=pB.below bw3
    clear kRx pG pB kp3 bx
    have c0:=pB3.cell 0
    have c1:=pB3.cell 1
    have c2:=pB3.cell 2
    simp only [List.getElem?_cons_zero,List.getElem?_cons_succ] at c0 c1 c2
    go_wp2_with fail
    clear pB3 c0 c1 c2
    refine wp_region_held_drew (S:=(fun w'=>True)) (by kernel_rfl) trivial (fun hS0=>?_)
    refine tkm 0 29 (.bool false) ?_
    refine tkm 1 30 (.bool false) ?_
    refine tku 2 31 ?_
    refine tku 3 32 ?_
    refine tku 4 33 ?_
    refine tkm 5 34 (.bool false) ?_
    refine tkm 6 6 (.bool false) ?_
    refine tkm 7 7 (.int .i64 0) ?_
    refine wpAnyH_done (by kernel_rfl) ?_ _
    have bz:=bel_trans bw (bel_trans bw3 (by go_grown:Below w3.heap.size w3 w3.drew))
    clear hM3 hF3 bw3 bw hR kB kCn
    go_wp2
    go_ret2
    exact ⟨by rw [HC.out];rfl,bz⟩

end Go.Proofs.YtifoggpohlegmaaGreatDoor
