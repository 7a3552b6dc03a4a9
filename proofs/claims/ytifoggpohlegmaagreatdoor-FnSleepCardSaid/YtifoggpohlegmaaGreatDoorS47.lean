/-
  Joined: AbgE, CntJ.
-/
import Derived.Test.YtifoggpohlegmaaGreatDoorRows
import Derived.ProofKit
import Derived.OpenShut
import Derived.LaidMore
import Derived.MakeChecks
import Derived.Stop.LaidErr
import Derived.Test.YtifoggpohlegmaaGreatDoorS42

namespace Go.Proofs.YtifoggpohlegmaaGreatDoor
set_option maxRecDepth 100000
set_option maxHeartbeats 16000000
open Go.RowKit
set_option linter.unusedVariables false

theorem allI_ok {rows:List (List I3)} {S:List (Rec6 V4)} (hp:progOk rows=true) (hS:Shaped S):∀ x ∈ allI rows S,okB x=true:=fun x hx=>by
 obtain ⟨r,hr,hx⟩:=mem_allI.1 hx
 unfold bugsI at hx
 split at hx
 ·simp at hx;subst hx;rfl
 ·obtain ⟨k,hk,hx⟩:=List.mem_flatMap.1 hx
  exact ownM_ok hp (hS r hr) (enab_halt hk) x hx
theorem flat_len6 {f:Rec6 V4→List I3} (hf:∀ r,(f r).length≤3):∀ S:List (Rec6 V4),(S.flatMap f).length≤3*S.length
 | []=>by simp
 | r::S=>by
  have:=flat_len6 hf S
  have:=hf r
  rw [List.flatMap_cons,List.length_append,List.length_cons]
  omega
theorem bugsO_ok (rows:List (List I3)):(∀ x ∈ bugsO rows,I3.fits x)∧(bugsO rows).length≤100000:=by
 unfold bugsO
 split
 ·rename_i h
  obtain ⟨hp,hf⟩:=code_parts h
  refine ⟨fun x hx=>okB_fitsQ (allI_ok hp (fullS_shaped hp) x hx),?_⟩
  unfold allI
  have h1:=mergeB_len ((fullS rows).flatMap fun r=>bugsI rows r.1) []
  have h2:=flat_len6 (f:=fun r=>bugsI rows r.1) (fun r=>bugsI_len6 rows r.1) (fullS rows)
  simp only [List.length_nil] at h1
  omega
 ·exact ⟨fun x hx=>by simp at hx,by simp⟩

set_option linter.unusedSimpArgs false

theorem runs_all (rows:List (List I3)) (L:List (Rec6 V4 × Value)) (X nb vc B Bc g c:Nat) (va:Option Addr) (cs:Sl × Sl × Sl) (hp:progOk rows=true) (hsh:Shaped (L.map (·.1))) (hcl:∀ r ∈ L.map (·.1),∀ t ∈ nxM rows r.1,t.2 ∈ (L.map (·.1)).map (·.1)) (hl:L.length≤2000) :
  ∀ (n at9:Nat) (r:Rec6 V4) (mv:Value),L[at9]?=some (r,mv)→leftN rows r.1<n→RunsC rows L X nb vc B Bc g c va cs at9 r.1
 | 0,_,_,_,_,h=>by omega
 | n+1,at9,r,mv,hr,h=>runs_step rows L X nb vc B Bc g c va cs hp hsh hcl hl hr (fun at' r' mv' hr' h'=>runs_all rows L X nb vc B Bc g c va cs hp hsh hcl hl n at' r' mv' hr' (by omega))
def countV (rows:List (List I3)):Int:=if codeF rows=0 then (cntM rows zeroV:Int) else 0
theorem ctOk_zero (rows:List (List I3)) (L:List (Rec6 V4 × Value)):CtOk rows L (List.replicate L.length 0):=⟨by simp,fun i r mv h=>by
 left
 have hl:i<L.length:=(List.getElem?_eq_some_iff.1 h).1
 simp [List.getD,hl]⟩

theorem implCountRuns_not (a:Option Addr) (len cap:Nat) (rows:List (List I3)) (w:World) (hC:Codes w a len cap rows) (hV:VmShape w) (hc:codeF rows≠0) :
  Calls Tryz.prog 42 #[.agg #[.slice a len cap]] w fun e w'=>e=.returned (.tuple #[.int .i64 0,.int .i64 (codeF rows)])∧Below w.heap.size w w':=by
 have kS:=fun (W:World) (b:Below w.heap.size w W) (t:S4) (h:Vmem W t zeroV)=>spaceOf_not a len cap rows t W (hC.below b) h (hV.below b) hc
 generalize codeF rows=c at *
 have hcn:(c != 0)=true:=by simpa using hc
 have fz:=(shape_fits9 zero_shape).1
 have kN:=implNewVm_is
 have bw:Below w.heap.size w (w.alloc (.cells #[.slice a len cap] 25)):=by go_grown
 have pP:Blk (w.alloc (.cells #[.slice a len cap] 25)) w.heap.size 25 [.slice a len cap]:=blkAt _ _ _ rfl
 go_enter Tryz.func42,Tryz.ntmps42
 go_wp2_with fail
 generalize (w.alloc (.cells #[.slice a len cap] 25))=U at *
 go_cut [4,5] from 6 (fun s4 s5 W=>CutF w W c s4 s5)
 case first =>
  have hdr:Below U.heap.size U U.drew:=by go_grown
  refine wp_region_held_drew (S:=(fun w'=>w'.cell? ⟨w.heap.size,0,none⟩=some (.slice a len cap))) (by kernel_rfl) (by simpa using pP.cell 0) (fun hS0=>?_)
  refine tkm 0 7 (.agg #[.slice a len cap]) ?_
  have pP9:=pP.below hdr
  replace bw:=bel_trans bw hdr
  clear hdr
  generalize U.drew=V at *
  have bt:Below V.heap.size V V:=Below.refl _ _
  refine wpAnyH_ready (rs:=[1,6]) (by kernel_rfl) (by simp) ?_
  refine AllReadyH.cons (o:=⟨some 8,_,_,_,_,_⟩) rfl (fun K hK=>?_) (AllReadyH.cons (o:=⟨some 4,_,_,_,_,_⟩) rfl (fun K hK=>?_) AllReadyH.nil)
  ·go_simp
   refine (kN V).mono ?_
   rintro e V1 ⟨⟨⟨⟨t0a,t0n,t0c⟩,⟨t1a,t1n,t1c⟩,⟨t2a,t2n,t2c⟩,⟨t3a,t3n,t3c⟩⟩,rfl,hO⟩,hb1⟩
   have ut:S4.val ((t0a,t0n,t0c),(t1a,t1n,t1c),(t2a,t2n,t2c),(t3a,t3n,t3c))=.agg #[.slice t0a t0n t0c,.slice t1a t1n t1c,.slice t2a t2n t2c,.slice t3a t3n t3c]:=rfl
   rw [ut]
   have bt:=bel_trans bt hb1
   go_wp2_with fail
   refine hK.out _ _ (cells_kept bt _ _ hS0) (fun hS1=>?_)
   clear hK
   try simp only [Act.put,tka,tkb,tkc]
   refine wpAnyH_ready (rs:=[2,6]) (by kernel_rfl) (by simp) ?_
   refine AllReadyH.cons (o:=⟨some 9,_,_,_,_,_⟩) rfl (fun K hK=>?_) (AllReadyH.cons (o:=⟨some 4,_,_,_,_,_⟩) rfl (fun K hK=>?_) AllReadyH.nil)
   ·have kx:=kS V1 (bel_trans bw bt) ((t0a,t0n,t0c),(t1a,t1n,t1c),(t2a,t2n,t2c),(t3a,t3n,t3c)) (hO.mem fz)
    rw [ut] at kx
    go_simp
    refine kx.mono ?_
    rintro e V2 ⟨rfl,hb2⟩
    have bt:=bel_trans bt hb2
    go_wp2_with fail
    refine hK.out _ _ (cells_kept bt _ _ hS0) (fun hS2=>?_)
    clear hK kx
    try simp only [Act.put,tka,tkb,tkc]
    refine tkm 3 6 (.tuple #[.agg #[.slice none 0 0,.map none],.int .i64 c]) ?_
    refine tkm 4 10 (.agg #[.slice none 0 0,.map none]) ?_
    refine tkm 5 11 (.int .i64 c) ?_
    refine tkr 6 4 (fun K hK=>?_)
    have hb3:Below V2.heap.size V2 (V2.alloc (.cells #[.slice none 0 0,.map none] 106)):=by go_grown
    have pX:Blk (V2.alloc (.cells #[.slice none 0 0,.map none] 106)) V2.heap.size 106 [.slice none 0 0,.map none]:=blkAt _ _ _ rfl
    have hXB:w.heap.size≤V2.heap.size:=Nat.le_trans bw.size bt.size
    have bt:=bel_trans bt hb3
    go_simp
    refine hK.out _ _ (cells_kept bt _ _ hS0) (fun hS3=>?_)
    clear hK
    generalize (V2.alloc (.cells #[.slice none 0 0,.map none] 106))=V3 at *
    obtain ⟨X,hX⟩:∃ X,X=V2.heap.size:=⟨_,rfl⟩
    rw [← hX] at pX hXB ⊢
    clear hX
    try simp only [Act.put,tka,tkb,tkc]
    refine tkz 7 (fun K hK=>?_)
    refine step_store_blkD rfl 106 _ _ rfl X [.slice none 0 0,.map none] rfl rfl pX (by kernel_rfl) rfl rfl ?_
    intro V9 pX9 g9
    have bz:=(bel_trans bw bt).grown g9 (bel_trans bw bt).size (fun q e=>by cases e;exact hXB)
    have hXP:X≠w.heap.size:=blk_ne pX (pP9.below bt) (by decide)
    have c9:=cells_kept bt _ _ hS0
    refine hK.out _ _ (cell_grownB g9 c9 (by simp;omega)) (fun hS4=>?_)
    clear hK
    try simp only [Act.put,tka,tkb,tkc]
    refine tkm 8 5 (.int .i64 c) ?_
    refine wpAnyH_done (by kernel_rfl) ?_ _
    go_wp2_with fail
    go_meet
    case rel=>exact ⟨X,rfl,rfl,bz⟩
   ·have hb3:Below V1.heap.size V1 (V1.alloc (.cells #[.slice none 0 0,.map none] 106)):=by go_grown
    have pX:Blk (V1.alloc (.cells #[.slice none 0 0,.map none] 106)) V1.heap.size 106 [.slice none 0 0,.map none]:=blkAt _ _ _ rfl
    have hXB:w.heap.size≤V1.heap.size:=Nat.le_trans bw.size bt.size
    replace hO:=hO.below hb3
    have bt:=bel_trans bt hb3
    go_simp
    refine hK.out _ _ (cells_kept bt _ _ hS0) (fun hS3=>?_)
    clear hK
    generalize (V1.alloc (.cells #[.slice none 0 0,.map none] 106))=V2 at *
    obtain ⟨X,hX⟩:∃ X,X=V1.heap.size:=⟨_,rfl⟩
    rw [← hX] at pX hXB ⊢
    clear hX
    try simp only [Act.put,tka,tkb,tkc]
    refine tkr 2 9 (fun K hK=>?_)
    have kx:=kS V2 (bel_trans bw bt) ((t0a,t0n,t0c),(t1a,t1n,t1c),(t2a,t2n,t2c),(t3a,t3n,t3c)) (hO.mem fz)
    rw [ut] at kx
    go_simp
    refine kx.mono ?_
    rintro e V3 ⟨rfl,hb2⟩
    replace pX:=pX.below hb2
    have bt:=bel_trans bt hb2
    go_wp2_with fail
    refine hK.out _ _ (cells_kept bt _ _ hS0) (fun hS2=>?_)
    clear hK kx
    try simp only [Act.put,tka,tkb,tkc]
    refine tkm 3 6 (.tuple #[.agg #[.slice none 0 0,.map none],.int .i64 c]) ?_
    refine tkm 4 10 (.agg #[.slice none 0 0,.map none]) ?_
    refine tkm 5 11 (.int .i64 c) ?_
    refine tkz 7 (fun K hK=>?_)
    refine step_store_blkD rfl 106 _ _ rfl X [.slice none 0 0,.map none] rfl rfl pX (by kernel_rfl) rfl rfl ?_
    intro V9 pX9 g9
    have bz:=(bel_trans bw bt).grown g9 (bel_trans bw bt).size (fun q e=>by cases e;exact hXB)
    have hXP:X≠w.heap.size:=blk_ne pX (pP9.below bt) (by decide)
    have c9:=cells_kept bt _ _ hS0
    refine hK.out _ _ (cell_grownB g9 c9 (by simp;omega)) (fun hS4=>?_)
    clear hK
    try simp only [Act.put,tka,tkb,tkc]
    refine tkm 8 5 (.int .i64 c) ?_
    refine wpAnyH_done (by kernel_rfl) ?_ _
    go_wp2_with fail
    go_meet
    case rel=>exact ⟨X,rfl,rfl,bz⟩
  ·have hb3:Below V.heap.size V (V.alloc (.cells #[.slice none 0 0,.map none] 106)):=by go_grown
   have pX:Blk (V.alloc (.cells #[.slice none 0 0,.map none] 106)) V.heap.size 106 [.slice none 0 0,.map none]:=blkAt _ _ _ rfl
   have hXB:w.heap.size≤V.heap.size:=Nat.le_trans bw.size bt.size
   have bt:=bel_trans bt hb3
   go_simp
   refine hK.out _ _ (cells_kept bt _ _ hS0) (fun hS3=>?_)
   clear hK
   generalize (V.alloc (.cells #[.slice none 0 0,.map none] 106))=V1 at *
   obtain ⟨X,hX⟩:∃ X,X=V.heap.size:=⟨_,rfl⟩
   rw [← hX] at pX hXB ⊢
   clear hX
   try simp only [Act.put,tka,tkb,tkc]
   refine tkr 1 8 (fun K hK=>?_)
   go_simp
   refine (kN V1).mono ?_
   rintro e V2 ⟨⟨⟨⟨t0a,t0n,t0c⟩,⟨t1a,t1n,t1c⟩,⟨t2a,t2n,t2c⟩,⟨t3a,t3n,t3c⟩⟩,rfl,hO⟩,hb1⟩
   have ut:S4.val ((t0a,t0n,t0c),(t1a,t1n,t1c),(t2a,t2n,t2c),(t3a,t3n,t3c))=.agg #[.slice t0a t0n t0c,.slice t1a t1n t1c,.slice t2a t2n t2c,.slice t3a t3n t3c]:=rfl
   rw [ut]
   have bt:=bel_trans bt hb1
   go_wp2_with fail
   refine hK.out _ _ (cells_kept bt _ _ hS0) (fun hS1=>?_)
   clear hK
   try simp only [Act.put,tka,tkb,tkc]
   replace pX:=pX.below hb1
   refine tkr 2 9 (fun K hK=>?_)
   have kx:=kS V2 (bel_trans bw bt) ((t0a,t0n,t0c),(t1a,t1n,t1c),(t2a,t2n,t2c),(t3a,t3n,t3c)) (hO.mem fz)
   rw [ut] at kx
   go_simp
   refine kx.mono ?_
   rintro e V3 ⟨rfl,hb2⟩
   replace pX:=pX.below hb2
   have bt:=bel_trans bt hb2
   go_wp2_with fail
   refine hK.out _ _ (cells_kept bt _ _ hS0) (fun hS2=>?_)
   clear hK kx
   try simp only [Act.put,tka,tkb,tkc]
   refine tkm 3 6 (.tuple #[.agg #[.slice none 0 0,.map none],.int .i64 c]) ?_
   refine tkm 4 10 (.agg #[.slice none 0 0,.map none]) ?_
   refine tkm 5 11 (.int .i64 c) ?_
   refine tkz 7 (fun K hK=>?_)
   refine step_store_blkD rfl 106 _ _ rfl X [.slice none 0 0,.map none] rfl rfl pX (by kernel_rfl) rfl rfl ?_
   intro V9 pX9 g9
   have bz:=(bel_trans bw bt).grown g9 (bel_trans bw bt).size (fun q e=>by cases e;exact hXB)
   have hXP:X≠w.heap.size:=blk_ne pX (pP9.below bt) (by decide)
   have c9:=cells_kept bt _ _ hS0
   refine hK.out _ _ (cell_grownB g9 c9 (by simp;omega)) (fun hS4=>?_)
   clear hK
   try simp only [Act.put,tka,tkb,tkc]
   refine tkm 8 5 (.int .i64 c) ?_
   refine wpAnyH_done (by kernel_rfl) ?_ _
   go_wp2_with fail
   go_meet
   case rel=>exact ⟨X,rfl,rfl,bz⟩
 obtain ⟨X,rfl,rfl,bz⟩:=hcut
 clear kS kN bw pP fz
 go_wp2
 refine bodyPost_ret (by simp [results,Tryz.results42,go_sem];try rfl) rfl ?_
 exact ⟨rfl,bz⟩

theorem implCountRuns_ok (a:Option Addr) (len cap:Nat) (rows:List (List I3)) (w:World) (hC:Codes w a len cap rows) (hV:VmShape w) (hc:codeF rows=0) :
  Calls Tryz.prog 42 #[.agg #[.slice a len cap]] w fun e w'=>e=.returned (.tuple #[.int .i64 (cntM rows zeroV:Int),.int .i64 0])∧Below w.heap.size w w':=by
 obtain ⟨hp,hf⟩:=code_parts hc
 obtain ⟨i0,hi9,hz0,hz1,hz2⟩:=info_parts info_int
 obtain ⟨cs,hR⟩:=rows_of_codes6 hC hp
 have kS:=fun (W:World) (b:Below w.heap.size w W) (t:S4) (h:Vmem W t zeroV)=>spaceOf_yes a len cap rows t W (hC.below b) h (hV.below b) hp hf
 clear hc
 have fz:=(shape_fits9 zero_shape).1
 have kN:=implNewVm_is
 have bw:Below w.heap.size w (w.alloc (.cells #[.slice a len cap] 25)):=by go_grown
 have pP:Blk (w.alloc (.cells #[.slice a len cap] 25)) w.heap.size 25 [.slice a len cap]:=blkAt _ _ _ rfl
 go_enter Tryz.func42,Tryz.ntmps42
 go_wp2_with fail
 generalize (w.alloc (.cells #[.slice a len cap] 25))=U at *
 go_cut [4,5] from 6 (fun s4 s5 W=>CutK w W cs rows (fullS rows) s4 s5)
 case first =>
  have hdr:Below U.heap.size U U.drew:=by go_grown
  refine wp_region_held_drew (S:=(fun w'=>w'.cell? ⟨w.heap.size,0,none⟩=some (.slice a len cap))) (by kernel_rfl) (by simpa using pP.cell 0) (fun hS0=>?_)
  refine tkm 0 7 (.agg #[.slice a len cap]) ?_
  have pP9:=pP.below hdr
  replace bw:=bel_trans bw hdr
  clear hdr
  generalize U.drew=V at *
  have bt:Below V.heap.size V V:=Below.refl _ _
  refine wpAnyH_ready (rs:=[1,6]) (by kernel_rfl) (by simp) ?_
  refine AllReadyH.cons (o:=⟨some 8,_,_,_,_,_⟩) rfl (fun K hK=>?_) (AllReadyH.cons (o:=⟨some 4,_,_,_,_,_⟩) rfl (fun K hK=>?_) AllReadyH.nil)
  ·go_simp
   refine (kN V).mono ?_
   rintro e V1 ⟨⟨⟨⟨t0a,t0n,t0c⟩,⟨t1a,t1n,t1c⟩,⟨t2a,t2n,t2c⟩,⟨t3a,t3n,t3c⟩⟩,rfl,hO⟩,hb1⟩
   have ut:S4.val ((t0a,t0n,t0c),(t1a,t1n,t1c),(t2a,t2n,t2c),(t3a,t3n,t3c))=.agg #[.slice t0a t0n t0c,.slice t1a t1n t1c,.slice t2a t2n t2c,.slice t3a t3n t3c]:=rfl
   rw [ut]
   have bt:=bel_trans bt hb1
   go_wp2_with fail
   refine hK.out _ _ (cells_kept bt _ _ hS0) (fun hS1=>?_)
   clear hK
   try simp only [Act.put,tka,tkb,tkc]
   refine wpAnyH_ready (rs:=[2,6]) (by kernel_rfl) (by simp) ?_
   refine AllReadyH.cons (o:=⟨some 9,_,_,_,_,_⟩) rfl (fun K hK=>?_) (AllReadyH.cons (o:=⟨some 4,_,_,_,_,_⟩) rfl (fun K hK=>?_) AllReadyH.nil)
   ·have kx:=kS V1 (bel_trans bw bt) ((t0a,t0n,t0c),(t1a,t1n,t1c),(t2a,t2n,t2c),(t3a,t3n,t3c)) (hO.mem fz)
    rw [ut] at kx
    go_simp
    refine kx.mono ?_
    rintro e V2 ⟨va9,nb,cs',L,rfl,sp,hLF,hR',hb2⟩
    obtain rfl:=(hR.below (bel_trans bw bt)).uniq hR'
    have hBv:w.heap.size≤V1.heap.size:=Nat.le_trans bw.size bt.size
    obtain ⟨va8,vn8,vc8,hva⟩:=own_slice6 sp.row
    have bt:=bel_trans bt hb2
    go_wp2_with fail
    refine hK.out _ _ (cells_kept bt _ _ hS0) (fun hS2=>?_)
    clear hK kx
    try simp only [Act.put,tka,tkb,tkc]
    refine tkm 3 6 (.tuple #[.agg #[va9,.map (some nb)],.int .i64 0]) ?_
    refine tkm 4 10 (.agg #[va9,.map (some nb)]) ?_
    refine tkm 5 11 (.int .i64 0) ?_
    refine tkr 6 4 (fun K hK=>?_)
    have hb3:Below V2.heap.size V2 (V2.alloc (.cells #[.slice none 0 0,.map none] 106)):=by go_grown
    have pX:Blk (V2.alloc (.cells #[.slice none 0 0,.map none] 106)) V2.heap.size 106 [.slice none 0 0,.map none]:=blkAt _ _ _ rfl
    have hXB:w.heap.size≤V2.heap.size:=Nat.le_trans bw.size bt.size
    replace sp:=sp.below hb3
    have bt:=bel_trans bt hb3
    go_simp
    refine hK.out _ _ (cells_kept bt _ _ hS0) (fun hS3=>?_)
    clear hK
    generalize (V2.alloc (.cells #[.slice none 0 0,.map none] 106))=V3 at *
    obtain ⟨X,hX⟩:∃ X,X=V2.heap.size:=⟨_,rfl⟩
    rw [← hX] at pX hXB ⊢
    clear hX
    try simp only [Act.put,tka,tkb,tkc]
    subst hva
    refine tkz 7 (fun K hK=>?_)
    refine step_store_blkD rfl 106 _ _ rfl X [.slice va8 vn8 vc8,.map (some nb)] rfl rfl pX (by kernel_rfl) rfl rfl ?_
    intro V9 pX9 g9
    have bz:=(bel_trans bw bt).grown g9 (bel_trans bw bt).size (fun q e=>by cases e;exact hXB)
    replace sp:=sp.grown g9 pX (by decide) (by decide)
    have hXP:X≠w.heap.size:=blk_ne pX (pP9.below bt) (by decide)
    have c9:=cells_kept bt _ _ hS0
    refine hK.out _ _ (cell_grownB g9 c9 (by simp;omega)) (fun hS4=>?_)
    clear hK
    try simp only [Act.put,tka,tkb,tkc]
    refine tkm 8 5 (.int .i64 0) ?_
    refine wpAnyH_done (by kernel_rfl) ?_ _
    go_wp2_with fail
    go_meet
    case rel=>exact CutK.mk9 (va:=.slice none 0 0) rfl rfl pX9.out sp hLF hXB hBv bz
   ·have hb3:Below V1.heap.size V1 (V1.alloc (.cells #[.slice none 0 0,.map none] 106)):=by go_grown
    have pX:Blk (V1.alloc (.cells #[.slice none 0 0,.map none] 106)) V1.heap.size 106 [.slice none 0 0,.map none]:=blkAt _ _ _ rfl
    have hXB:w.heap.size≤V1.heap.size:=Nat.le_trans bw.size bt.size
    replace hO:=hO.below hb3
    have bt:=bel_trans bt hb3
    go_simp
    refine hK.out _ _ (cells_kept bt _ _ hS0) (fun hS3=>?_)
    clear hK
    generalize (V1.alloc (.cells #[.slice none 0 0,.map none] 106))=V2 at *
    obtain ⟨X,hX⟩:∃ X,X=V1.heap.size:=⟨_,rfl⟩
    rw [← hX] at pX hXB ⊢
    clear hX
    try simp only [Act.put,tka,tkb,tkc]
    refine tkr 2 9 (fun K hK=>?_)
    have kx:=kS V2 (bel_trans bw bt) ((t0a,t0n,t0c),(t1a,t1n,t1c),(t2a,t2n,t2c),(t3a,t3n,t3c)) (hO.mem fz)
    rw [ut] at kx
    go_simp
    refine kx.mono ?_
    rintro e V3 ⟨va9,nb,cs',L,rfl,sp,hLF,hR',hb2⟩
    obtain rfl:=(hR.below (bel_trans bw bt)).uniq hR'
    have hBv:w.heap.size≤V2.heap.size:=Nat.le_trans bw.size bt.size
    obtain ⟨va8,vn8,vc8,hva⟩:=own_slice6 sp.row
    replace pX:=pX.below hb2
    have bt:=bel_trans bt hb2
    go_wp2_with fail
    refine hK.out _ _ (cells_kept bt _ _ hS0) (fun hS2=>?_)
    clear hK kx
    try simp only [Act.put,tka,tkb,tkc]
    refine tkm 3 6 (.tuple #[.agg #[va9,.map (some nb)],.int .i64 0]) ?_
    refine tkm 4 10 (.agg #[va9,.map (some nb)]) ?_
    refine tkm 5 11 (.int .i64 0) ?_
    subst hva
    refine tkz 7 (fun K hK=>?_)
    refine step_store_blkD rfl 106 _ _ rfl X [.slice va8 vn8 vc8,.map (some nb)] rfl rfl pX (by kernel_rfl) rfl rfl ?_
    intro V9 pX9 g9
    have bz:=(bel_trans bw bt).grown g9 (bel_trans bw bt).size (fun q e=>by cases e;exact hXB)
    replace sp:=sp.grown g9 pX (by decide) (by decide)
    have hXP:X≠w.heap.size:=blk_ne pX (pP9.below bt) (by decide)
    have c9:=cells_kept bt _ _ hS0
    refine hK.out _ _ (cell_grownB g9 c9 (by simp;omega)) (fun hS4=>?_)
    clear hK
    try simp only [Act.put,tka,tkb,tkc]
    refine tkm 8 5 (.int .i64 0) ?_
    refine wpAnyH_done (by kernel_rfl) ?_ _
    go_wp2_with fail
    go_meet
    case rel=>exact CutK.mk9 (va:=.slice none 0 0) rfl rfl pX9.out sp hLF hXB hBv bz
  ·have hb3:Below V.heap.size V (V.alloc (.cells #[.slice none 0 0,.map none] 106)):=by go_grown
   have pX:Blk (V.alloc (.cells #[.slice none 0 0,.map none] 106)) V.heap.size 106 [.slice none 0 0,.map none]:=blkAt _ _ _ rfl
   have hXB:w.heap.size≤V.heap.size:=Nat.le_trans bw.size bt.size
   have bt:=bel_trans bt hb3
   go_simp
   refine hK.out _ _ (cells_kept bt _ _ hS0) (fun hS3=>?_)
   clear hK
   generalize (V.alloc (.cells #[.slice none 0 0,.map none] 106))=V1 at *
   obtain ⟨X,hX⟩:∃ X,X=V.heap.size:=⟨_,rfl⟩
   rw [← hX] at pX hXB ⊢
   clear hX
   try simp only [Act.put,tka,tkb,tkc]
   refine tkr 1 8 (fun K hK=>?_)
   go_simp
   refine (kN V1).mono ?_
   rintro e V2 ⟨⟨⟨⟨t0a,t0n,t0c⟩,⟨t1a,t1n,t1c⟩,⟨t2a,t2n,t2c⟩,⟨t3a,t3n,t3c⟩⟩,rfl,hO⟩,hb1⟩
   have ut:S4.val ((t0a,t0n,t0c),(t1a,t1n,t1c),(t2a,t2n,t2c),(t3a,t3n,t3c))=.agg #[.slice t0a t0n t0c,.slice t1a t1n t1c,.slice t2a t2n t2c,.slice t3a t3n t3c]:=rfl
   rw [ut]
   have bt:=bel_trans bt hb1
   go_wp2_with fail
   refine hK.out _ _ (cells_kept bt _ _ hS0) (fun hS1=>?_)
   clear hK
   try simp only [Act.put,tka,tkb,tkc]
   replace pX:=pX.below hb1
   refine tkr 2 9 (fun K hK=>?_)
   have kx:=kS V2 (bel_trans bw bt) ((t0a,t0n,t0c),(t1a,t1n,t1c),(t2a,t2n,t2c),(t3a,t3n,t3c)) (hO.mem fz)
   rw [ut] at kx
   go_simp
   refine kx.mono ?_
   rintro e V3 ⟨va9,nb,cs',L,rfl,sp,hLF,hR',hb2⟩
   obtain rfl:=(hR.below (bel_trans bw bt)).uniq hR'
   have hBv:w.heap.size≤V2.heap.size:=Nat.le_trans bw.size bt.size
   obtain ⟨va8,vn8,vc8,hva⟩:=own_slice6 sp.row
   replace pX:=pX.below hb2
   have bt:=bel_trans bt hb2
   go_wp2_with fail
   refine hK.out _ _ (cells_kept bt _ _ hS0) (fun hS2=>?_)
   clear hK kx
   try simp only [Act.put,tka,tkb,tkc]
   refine tkm 3 6 (.tuple #[.agg #[va9,.map (some nb)],.int .i64 0]) ?_
   refine tkm 4 10 (.agg #[va9,.map (some nb)]) ?_
   refine tkm 5 11 (.int .i64 0) ?_
   subst hva
   refine tkz 7 (fun K hK=>?_)
   refine step_store_blkD rfl 106 _ _ rfl X [.slice va8 vn8 vc8,.map (some nb)] rfl rfl pX (by kernel_rfl) rfl rfl ?_
   intro V9 pX9 g9
   have bz:=(bel_trans bw bt).grown g9 (bel_trans bw bt).size (fun q e=>by cases e;exact hXB)
   replace sp:=sp.grown g9 pX (by decide) (by decide)
   have hXP:X≠w.heap.size:=blk_ne pX (pP9.below bt) (by decide)
   have c9:=cells_kept bt _ _ hS0
   refine hK.out _ _ (cell_grownB g9 c9 (by simp;omega)) (fun hS4=>?_)
   clear hK
   try simp only [Act.put,tka,tkb,tkc]
   refine tkm 8 5 (.int .i64 0) ?_
   refine wpAnyH_done (by kernel_rfl) ?_ _
   go_wp2_with fail
   go_meet
   case rel=>exact CutK.mk9 (va:=.slice none 0 0) rfl rfl pX9.out sp hLF hXB hBv bz
 obtain ⟨X,va,vc,nb,L,rfl,rfl,pX,sp,hLF,hXB,bz⟩:=hcut
 clear kS kN bw pP fz
 have cX0:wc.cell? ⟨X,0,none⟩=some (.slice va L.length vc):=by simpa using pX.cell 0
 have hl2:L.length≤2000:=by
  have e:(L.map (·.1)).length=L.length:=by simp
  rw [hLF] at e
  omega
 obtain ⟨mv,hr⟩:∃ mv,L[0]?=some ((zeroV,0,0),mv):=by
  have e:=fullS_head rows
  rw [← hLF,List.getElem?_map] at e
  obtain ⟨y,hy,e2⟩:=Option.map_eq_some_iff.1 e
  exact ⟨y.2,by rw [hy,← e2]⟩
 have hbz:=bz.size
 have kR:=runs_all rows L X nb vc w.heap.size w.heap.size wc.heap.size L.length va cs hp (by rw [hLF];exact fullS_shaped hp) (by rw [hLF];exact fullS_closed hf) hl2 (leftN rows zeroV+1) 0 (zeroV,0,0) mv hr (Nat.lt_succ_self _)
 rw [← hLF] at sp
 have hc0:=ctOk_zero rows L
 clear hLF hr hXB
 go_wp2_with (at_make;refine wpList_make_full _ rfl _ _ 27 rfl w.heap.size 3 i0 (.int .i64 0) 1 Tryz.underlying27 hi9 hz0 hz1 _ _ _ _ L.length rfl rfl (by omega) (by omega) ?b2 ?b3 (by first | exact hbz | exact Nat.le_refl _) ?_)
 case b2=>first | omega | (rw [hz2];omega)
 case b3=>unfold maxLen;omega
 intro w5 hown hgrow
 rw [made_ints] at hown
 have b5:Below wc.heap.size wc w5:=⟨hgrow.os,hgrow.tape,hgrow.output,hgrow.size,fun k hk=>hgrow.block k hk (by simp)⟩
 have hO:OwnI w5 w.heap.size (some ⟨wc.heap.size,0,none⟩,L.length,L.length) (List.replicate L.length 0):=hown
 have kRx:=kR w5 _ (sp.below b5) (pX.below b5) hO hc0
 have b6:=bel_trans bz b5
 have hgB:w.heap.size≤wc.heap.size:=hbz
 clear kR hown hgrow hO hc0 sp pX cX0 bz b5
 generalize wc.heap.size=g at *
 go_wp2_with fail
 refine kRx.mono ?_
 rintro e w7 ⟨cts,rfl,ho7,hct7,g7⟩
 have b7:=b6.grown g7 b6.size (fun k e=>by cases e;exact hgB)
 clear kRx ho7 hct7 g7 b6
 have HCN:Hid (0=0):=rfl
 go_wp2
 refine bodyPost_ret (by simp [results,Tryz.results42,go_sem];try rfl) rfl ?_
 exact ⟨rfl,b7⟩
theorem implCountRuns_is (a:Option Addr) (len cap:Nat) (rows:List (List I3)) (w:World) (hC:Codes w a len cap rows) (hV:VmShape w) :
  Calls Tryz.prog 42 #[.agg #[.slice a len cap]] w fun e w'=>e=.returned (.tuple #[.int .i64 (countV rows),.int .i64 (codeF rows)])∧Below w.heap.size w w':=by
 unfold countV
 by_cases h:codeF rows=0
 ·rw [if_pos h,h]
  exact implCountRuns_ok a len cap rows w hC hV h
 ·rw [if_neg h]
  exact implCountRuns_not a len cap rows w hC hV h
end Go.Proofs.YtifoggpohlegmaaGreatDoor
