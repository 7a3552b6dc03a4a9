/-
  Joined: IsrI, KeyA.
-/
import Derived.Test.YtifoggpohlegmaaGreatDoorRows
import Derived.ProofKit
import Derived.OpenShut
import Derived.LaidMore
import Derived.MakeChecks
import Derived.Stop.LaidErr
import Derived.Test.YtifoggpohlegmaaGreatDoorA37

namespace Go.Proofs.YtifoggpohlegmaaGreatDoor
set_option maxRecDepth 100000
set_option maxHeartbeats 16000000
open Go.RowKit
set_option linter.unusedVariables false
set_option linter.unusedSimpArgs false

def inK (rows:List (List I3)) (s:ByteArray):Bool:=decide (0≤findT (keysL (fullS rows)) s (keysL (fullS rows)).length)
theorem inK_iff (rows:List (List I3)) (s:ByteArray):inK rows s=true↔s ∈ keysL (fullS rows):=by
 unfold inK
 rw [decide_eq_true_iff,findT_iff _ (Nat.le_refl _),List.take_length]
def reachV (rows:List (List I3)) (s:ByteArray):Bool:=if 65536<s.size then false else if codeF rows=0 then inK rows s else false
def reachC (rows:List (List I3)) (s:ByteArray):Int:=if 65536<s.size then 2 else codeF rows

theorem implIsReached_long (a:Option Addr) (len cap:Nat) (s:ByteArray) (w:World) (hs:65536<s.size) :
  Calls Tryz.prog 31 #[.agg #[.slice a len cap],.string s] w fun e w'=>e=.returned (.tuple #[.bool false,.int .i64 2])∧Below w.heap.size w w':=by
 have bw:Below w.heap.size w (w.alloc (.cells #[.slice a len cap] 25)):=by go_grown
 have h9:(65536:Int)<(s.size:Int):=by omega
 go_enter Tryz.func31,Tryz.ntmps31
 go_wp2
 refine bodyPost_ret (by simp [results,Tryz.results31,go_sem];try rfl) rfl ?_
 exact ⟨rfl,bw⟩

theorem implIsReached_not (a:Option Addr) (len cap:Nat) (rows:List (List I3)) (s:ByteArray) (w:World) (hC:Codes w a len cap rows) (hV:VmShape w) (hs:¬ 65536<s.size) (hc:codeF rows≠0) :
  Calls Tryz.prog 31 #[.agg #[.slice a len cap],.string s] w fun e w'=>e=.returned (.tuple #[.bool false,.int .i64 (codeF rows)])∧Below w.heap.size w w':=by
 have kS:=fun (W:World) (b:Below w.heap.size w W) (t:S4) (h:Vmem W t zeroV)=>spaceOf_not a len cap rows t W (hC.below b) h (hV.below b) hc
 generalize codeF rows=c at *
 have hcn:(c != 0)=true:=by simpa using hc
 have h9:¬ (65536:Int)<(s.size:Int):=by omega
 have fz:=(shape_fits9 zero_shape).1
 have kN:=implNewVm_is
 have bw:Below w.heap.size w (w.alloc (.cells #[.slice a len cap] 25)):=by go_grown
 have pP:Blk (w.alloc (.cells #[.slice a len cap] 25)) w.heap.size 25 [.slice a len cap]:=blkAt _ _ _ rfl
 go_enter Tryz.func31,Tryz.ntmps31
 go_wp2_with fail
 generalize (w.alloc (.cells #[.slice a len cap] 25))=U at *
 go_cut [6,7] from 13 (fun s4 s5 W=>CutF w W c s4 s5)
 case first =>
  have hdr:Below U.heap.size U U.drew:=by go_grown
  refine wp_region_held_drew (S:=(fun w'=>w'.cell? ⟨w.heap.size,0,none⟩=some (.slice a len cap))) (by kernel_rfl) (by simpa using pP.cell 0) (fun hS0=>?_)
  refine tkm 0 14 (.agg #[.slice a len cap]) ?_
  have pP9:=pP.below hdr
  replace bw:=bel_trans bw hdr
  clear hdr
  generalize U.drew=V at *
  have bt:Below V.heap.size V V:=Below.refl _ _
  refine wpAnyH_ready (rs:=[1,6]) (by kernel_rfl) (by simp) ?_
  refine AllReadyH.cons (o:=⟨some 15,_,_,_,_,_⟩) rfl (fun K hK=>?_) (AllReadyH.cons (o:=⟨some 6,_,_,_,_,_⟩) rfl (fun K hK=>?_) AllReadyH.nil)
  ·go_simp
   refine (kN V).mono ?_
   rintro e V1 ⟨⟨⟨⟨t0a,t0n,t0c⟩,⟨t1a,t1n,t1c⟩,⟨t2a,t2n,t2c⟩,⟨t3a,t3n,t3c⟩⟩,rfl,hO⟩,hb1⟩
   have ut:S4.val ((t0a,t0n,t0c),(t1a,t1n,t1c),(t2a,t2n,t2c),(t3a,t3n,t3c))=.agg #[.slice t0a t0n t0c,.slice t1a t1n t1c,.slice t2a t2n t2c,.slice t3a t3n t3c]:=rfl
   rw [ut]
   have bt:=bel_trans bt hb1
   go_wp2_with fail
   refine hK.out _ _ (cells_kept bt _ _ hS0) (fun hS1=>?_)
   clear hK
   try simp only [Act.put,tka,tkb,tkc]
   refine wpAnyH_ready (rs:=[2,6]) (by kernel_rfl) (by simp) ?_
   refine AllReadyH.cons (o:=⟨some 16,_,_,_,_,_⟩) rfl (fun K hK=>?_) (AllReadyH.cons (o:=⟨some 6,_,_,_,_,_⟩) rfl (fun K hK=>?_) AllReadyH.nil)
   ·have kx:=kS V1 (bel_trans bw bt) ((t0a,t0n,t0c),(t1a,t1n,t1c),(t2a,t2n,t2c),(t3a,t3n,t3c)) (hO.mem fz)
    rw [ut] at kx
    go_simp
    refine kx.mono ?_
    rintro e V2 ⟨rfl,hb2⟩
    have bt:=bel_trans bt hb2
    go_wp2_with fail
    refine hK.out _ _ (cells_kept bt _ _ hS0) (fun hS2=>?_)
    clear hK kx
    try simp only [Act.put,tka,tkb,tkc]
    refine tkm 3 13 (.tuple #[.agg #[.slice none 0 0,.map none],.int .i64 c]) ?_
    refine tkm 4 17 (.agg #[.slice none 0 0,.map none]) ?_
    refine tkm 5 18 (.int .i64 c) ?_
    refine tkr 6 6 (fun K hK=>?_)
    have hb3:Below V2.heap.size V2 (V2.alloc (.cells #[.slice none 0 0,.map none] 106)):=by go_grown
    have pX:Blk (V2.alloc (.cells #[.slice none 0 0,.map none] 106)) V2.heap.size 106 [.slice none 0 0,.map none]:=blkAt _ _ _ rfl
    have hXB:w.heap.size≤V2.heap.size:=Nat.le_trans bw.size bt.size
    have bt:=bel_trans bt hb3
    go_simp
    refine hK.out _ _ (cells_kept bt _ _ hS0) (fun hS3=>?_)
    clear hK
    generalize (V2.alloc (.cells #[.slice none 0 0,.map none] 106))=V3 at *
    obtain ⟨X,hX⟩:∃ X,X=V2.heap.size:=⟨_,rfl⟩
    rw [← hX] at pX hXB ⊢
    clear hX
    try simp only [Act.put,tka,tkb,tkc]
    refine tkz 7 (fun K hK=>?_)
    refine step_store_blkD rfl 106 _ _ rfl X [.slice none 0 0,.map none] rfl rfl pX (by kernel_rfl) rfl rfl ?_
    intro V9 pX9 g9
    have bz:=(bel_trans bw bt).grown g9 (bel_trans bw bt).size (fun q e=>by cases e;exact hXB)
    have hXP:X≠w.heap.size:=blk_ne pX (pP9.below bt) (by decide)
    have c9:=cells_kept bt _ _ hS0
    refine hK.out _ _ (cell_grownB g9 c9 (by simp;omega)) (fun hS4=>?_)
    clear hK
    try simp only [Act.put,tka,tkb,tkc]
    refine tkm 8 7 (.int .i64 c) ?_
    refine wpAnyH_done (by kernel_rfl) ?_ _
    go_wp2_with fail
    go_meet
    case rel=>exact ⟨X,rfl,rfl,bz⟩
   ·have hb3:Below V1.heap.size V1 (V1.alloc (.cells #[.slice none 0 0,.map none] 106)):=by go_grown
    have pX:Blk (V1.alloc (.cells #[.slice none 0 0,.map none] 106)) V1.heap.size 106 [.slice none 0 0,.map none]:=blkAt _ _ _ rfl
    have hXB:w.heap.size≤V1.heap.size:=Nat.le_trans bw.size bt.size
    replace hO:=hO.below hb3
    have bt:=bel_trans bt hb3
    go_simp
    refine hK.out _ _ (cells_kept bt _ _ hS0) (fun hS3=>?_)
    clear hK
    generalize (V1.alloc (.cells #[.slice none 0 0,.map none] 106))=V2 at *
    obtain ⟨X,hX⟩:∃ X,X=V1.heap.size:=⟨_,rfl⟩
    rw [← hX] at pX hXB ⊢
    clear hX
    try simp only [Act.put,tka,tkb,tkc]
    refine tkr 2 16 (fun K hK=>?_)
    have kx:=kS V2 (bel_trans bw bt) ((t0a,t0n,t0c),(t1a,t1n,t1c),(t2a,t2n,t2c),(t3a,t3n,t3c)) (hO.mem fz)
    rw [ut] at kx
    go_simp
    refine kx.mono ?_
    rintro e V3 ⟨rfl,hb2⟩
    replace pX:=pX.below hb2
    have bt:=bel_trans bt hb2
    go_wp2_with fail
    refine hK.out _ _ (cells_kept bt _ _ hS0) (fun hS2=>?_)
    clear hK kx
    try simp only [Act.put,tka,tkb,tkc]
    refine tkm 3 13 (.tuple #[.agg #[.slice none 0 0,.map none],.int .i64 c]) ?_
    refine tkm 4 17 (.agg #[.slice none 0 0,.map none]) ?_
    refine tkm 5 18 (.int .i64 c) ?_
    refine tkz 7 (fun K hK=>?_)
    refine step_store_blkD rfl 106 _ _ rfl X [.slice none 0 0,.map none] rfl rfl pX (by kernel_rfl) rfl rfl ?_
    intro V9 pX9 g9
    have bz:=(bel_trans bw bt).grown g9 (bel_trans bw bt).size (fun q e=>by cases e;exact hXB)
    have hXP:X≠w.heap.size:=blk_ne pX (pP9.below bt) (by decide)
    have c9:=cells_kept bt _ _ hS0
    refine hK.out _ _ (cell_grownB g9 c9 (by simp;omega)) (fun hS4=>?_)
    clear hK
    try simp only [Act.put,tka,tkb,tkc]
    refine tkm 8 7 (.int .i64 c) ?_
    refine wpAnyH_done (by kernel_rfl) ?_ _
    go_wp2_with fail
    go_meet
    case rel=>exact ⟨X,rfl,rfl,bz⟩
  ·have hb3:Below V.heap.size V (V.alloc (.cells #[.slice none 0 0,.map none] 106)):=by go_grown
   have pX:Blk (V.alloc (.cells #[.slice none 0 0,.map none] 106)) V.heap.size 106 [.slice none 0 0,.map none]:=blkAt _ _ _ rfl
   have hXB:w.heap.size≤V.heap.size:=Nat.le_trans bw.size bt.size
   have bt:=bel_trans bt hb3
   go_simp
   refine hK.out _ _ (cells_kept bt _ _ hS0) (fun hS3=>?_)
   clear hK
   generalize (V.alloc (.cells #[.slice none 0 0,.map none] 106))=V1 at *
   obtain ⟨X,hX⟩:∃ X,X=V.heap.size:=⟨_,rfl⟩
   rw [← hX] at pX hXB ⊢
   clear hX
   try simp only [Act.put,tka,tkb,tkc]
   refine tkr 1 15 (fun K hK=>?_)
   go_simp
   refine (kN V1).mono ?_
   rintro e V2 ⟨⟨⟨⟨t0a,t0n,t0c⟩,⟨t1a,t1n,t1c⟩,⟨t2a,t2n,t2c⟩,⟨t3a,t3n,t3c⟩⟩,rfl,hO⟩,hb1⟩
   have ut:S4.val ((t0a,t0n,t0c),(t1a,t1n,t1c),(t2a,t2n,t2c),(t3a,t3n,t3c))=.agg #[.slice t0a t0n t0c,.slice t1a t1n t1c,.slice t2a t2n t2c,.slice t3a t3n t3c]:=rfl
   rw [ut]
   have bt:=bel_trans bt hb1
   go_wp2_with fail
   refine hK.out _ _ (cells_kept bt _ _ hS0) (fun hS1=>?_)
   clear hK
   try simp only [Act.put,tka,tkb,tkc]
   replace pX:=pX.below hb1
   refine tkr 2 16 (fun K hK=>?_)
   have kx:=kS V2 (bel_trans bw bt) ((t0a,t0n,t0c),(t1a,t1n,t1c),(t2a,t2n,t2c),(t3a,t3n,t3c)) (hO.mem fz)
   rw [ut] at kx
   go_simp
   refine kx.mono ?_
   rintro e V3 ⟨rfl,hb2⟩
   replace pX:=pX.below hb2
   have bt:=bel_trans bt hb2
   go_wp2_with fail
   refine hK.out _ _ (cells_kept bt _ _ hS0) (fun hS2=>?_)
   clear hK kx
   try simp only [Act.put,tka,tkb,tkc]
   refine tkm 3 13 (.tuple #[.agg #[.slice none 0 0,.map none],.int .i64 c]) ?_
   refine tkm 4 17 (.agg #[.slice none 0 0,.map none]) ?_
   refine tkm 5 18 (.int .i64 c) ?_
   refine tkz 7 (fun K hK=>?_)
   refine step_store_blkD rfl 106 _ _ rfl X [.slice none 0 0,.map none] rfl rfl pX (by kernel_rfl) rfl rfl ?_
   intro V9 pX9 g9
   have bz:=(bel_trans bw bt).grown g9 (bel_trans bw bt).size (fun q e=>by cases e;exact hXB)
   have hXP:X≠w.heap.size:=blk_ne pX (pP9.below bt) (by decide)
   have c9:=cells_kept bt _ _ hS0
   refine hK.out _ _ (cell_grownB g9 c9 (by simp;omega)) (fun hS4=>?_)
   clear hK
   try simp only [Act.put,tka,tkb,tkc]
   refine tkm 8 7 (.int .i64 c) ?_
   refine wpAnyH_done (by kernel_rfl) ?_ _
   go_wp2_with fail
   go_meet
   case rel=>exact ⟨X,rfl,rfl,bz⟩
 obtain ⟨X,rfl,rfl,bz⟩:=hcut
 clear kS kN bw pP fz
 go_wp2
 refine bodyPost_ret (by simp [results,Tryz.results31,go_sem];try rfl) rfl ?_
 exact ⟨rfl,bz⟩

theorem implIsReached_ok (a:Option Addr) (len cap:Nat) (rows:List (List I3)) (s:ByteArray) (w:World) (hC:Codes w a len cap rows) (hV:VmShape w) (hs:¬ 65536<s.size) (hc:codeF rows=0) :
  Calls Tryz.prog 31 #[.agg #[.slice a len cap],.string s] w fun e w'=>e=.returned (.tuple #[.bool (inK rows s),.int .i64 0])∧Below w.heap.size w w':=by
 obtain ⟨hp,hf⟩:=code_parts hc
 obtain ⟨cs,hR⟩:=rows_of_codes6 hC hp
 have kS:=fun (W:World) (b:Below w.heap.size w W) (t:S4) (h:Vmem W t zeroV)=>spaceOf_yes a len cap rows t W (hC.below b) h (hV.below b) hp hf
 have h9:¬ (65536:Int)<(s.size:Int):=by omega
 have hkey:keyOf Tryz.prog 9 (.string s)=some (.string s.data.toList):=WideMaps.keyOf_string_mk Tryz.underlying9 (by unfold maxLen;omega)
 have hik:=inK_iff rows s
 have fz:=(shape_fits9 zero_shape).1
 have kN:=implNewVm_is
 have bw:Below w.heap.size w (w.alloc (.cells #[.slice a len cap] 25)):=by go_grown
 have pP:Blk (w.alloc (.cells #[.slice a len cap] 25)) w.heap.size 25 [.slice a len cap]:=blkAt _ _ _ rfl
 clear hc
 go_enter Tryz.func31,Tryz.ntmps31
 go_wp2_with fail
 generalize (w.alloc (.cells #[.slice a len cap] 25))=U at *
 go_cut [6,7] from 13 (fun s4 s5 W=>CutK w W cs rows (fullS rows) s4 s5)
 case first =>
  have hdr:Below U.heap.size U U.drew:=by go_grown
  refine wp_region_held_drew (S:=(fun w'=>w'.cell? ⟨w.heap.size,0,none⟩=some (.slice a len cap))) (by kernel_rfl) (by simpa using pP.cell 0) (fun hS0=>?_)
  refine tkm 0 14 (.agg #[.slice a len cap]) ?_
  have pP9:=pP.below hdr
  replace bw:=bel_trans bw hdr
  clear hdr
  generalize U.drew=V at *
  have bt:Below V.heap.size V V:=Below.refl _ _
  refine wpAnyH_ready (rs:=[1,6]) (by kernel_rfl) (by simp) ?_
  refine AllReadyH.cons (o:=⟨some 15,_,_,_,_,_⟩) rfl (fun K hK=>?_) (AllReadyH.cons (o:=⟨some 6,_,_,_,_,_⟩) rfl (fun K hK=>?_) AllReadyH.nil)
  ·go_simp
   refine (kN V).mono ?_
   rintro e V1 ⟨⟨⟨⟨t0a,t0n,t0c⟩,⟨t1a,t1n,t1c⟩,⟨t2a,t2n,t2c⟩,⟨t3a,t3n,t3c⟩⟩,rfl,hO⟩,hb1⟩
   have ut:S4.val ((t0a,t0n,t0c),(t1a,t1n,t1c),(t2a,t2n,t2c),(t3a,t3n,t3c))=.agg #[.slice t0a t0n t0c,.slice t1a t1n t1c,.slice t2a t2n t2c,.slice t3a t3n t3c]:=rfl
   rw [ut]
   have bt:=bel_trans bt hb1
   go_wp2_with fail
   refine hK.out _ _ (cells_kept bt _ _ hS0) (fun hS1=>?_)
   clear hK
   try simp only [Act.put,tka,tkb,tkc]
   refine wpAnyH_ready (rs:=[2,6]) (by kernel_rfl) (by simp) ?_
   refine AllReadyH.cons (o:=⟨some 16,_,_,_,_,_⟩) rfl (fun K hK=>?_) (AllReadyH.cons (o:=⟨some 6,_,_,_,_,_⟩) rfl (fun K hK=>?_) AllReadyH.nil)
   ·have kx:=kS V1 (bel_trans bw bt) ((t0a,t0n,t0c),(t1a,t1n,t1c),(t2a,t2n,t2c),(t3a,t3n,t3c)) (hO.mem fz)
    rw [ut] at kx
    go_simp
    refine kx.mono ?_
    rintro e V2 ⟨va9,nb,cs',L,rfl,sp,hLF,hR',hb2⟩
    obtain rfl:=(hR.below (bel_trans bw bt)).uniq hR'
    have hBv:w.heap.size≤V1.heap.size:=Nat.le_trans bw.size bt.size
    obtain ⟨va8,vn8,vc8,hva⟩:=own_slice6 sp.row
    have bt:=bel_trans bt hb2
    go_wp2_with fail
    refine hK.out _ _ (cells_kept bt _ _ hS0) (fun hS2=>?_)
    clear hK kx
    try simp only [Act.put,tka,tkb,tkc]
    refine tkm 3 13 (.tuple #[.agg #[va9,.map (some nb)],.int .i64 0]) ?_
    refine tkm 4 17 (.agg #[va9,.map (some nb)]) ?_
    refine tkm 5 18 (.int .i64 0) ?_
    refine tkr 6 6 (fun K hK=>?_)
    have hb3:Below V2.heap.size V2 (V2.alloc (.cells #[.slice none 0 0,.map none] 106)):=by go_grown
    have pX:Blk (V2.alloc (.cells #[.slice none 0 0,.map none] 106)) V2.heap.size 106 [.slice none 0 0,.map none]:=blkAt _ _ _ rfl
    have hXB:w.heap.size≤V2.heap.size:=Nat.le_trans bw.size bt.size
    replace sp:=sp.below hb3
    have bt:=bel_trans bt hb3
    go_simp
    refine hK.out _ _ (cells_kept bt _ _ hS0) (fun hS3=>?_)
    clear hK
    generalize (V2.alloc (.cells #[.slice none 0 0,.map none] 106))=V3 at *
    obtain ⟨X,hX⟩:∃ X,X=V2.heap.size:=⟨_,rfl⟩
    rw [← hX] at pX hXB ⊢
    clear hX
    try simp only [Act.put,tka,tkb,tkc]
    subst hva
    refine tkz 7 (fun K hK=>?_)
    refine step_store_blkD rfl 106 _ _ rfl X [.slice va8 vn8 vc8,.map (some nb)] rfl rfl pX (by kernel_rfl) rfl rfl ?_
    intro V9 pX9 g9
    have bz:=(bel_trans bw bt).grown g9 (bel_trans bw bt).size (fun q e=>by cases e;exact hXB)
    replace sp:=sp.grown g9 pX (by decide) (by decide)
    have hXP:X≠w.heap.size:=blk_ne pX (pP9.below bt) (by decide)
    have c9:=cells_kept bt _ _ hS0
    refine hK.out _ _ (cell_grownB g9 c9 (by simp;omega)) (fun hS4=>?_)
    clear hK
    try simp only [Act.put,tka,tkb,tkc]
    refine tkm 8 7 (.int .i64 0) ?_
    refine wpAnyH_done (by kernel_rfl) ?_ _
    go_wp2_with fail
    go_meet
    case rel=>exact CutK.mk9 (va:=.slice none 0 0) rfl rfl pX9.out sp hLF hXB hBv bz
   ·have hb3:Below V1.heap.size V1 (V1.alloc (.cells #[.slice none 0 0,.map none] 106)):=by go_grown
    have pX:Blk (V1.alloc (.cells #[.slice none 0 0,.map none] 106)) V1.heap.size 106 [.slice none 0 0,.map none]:=blkAt _ _ _ rfl
    have hXB:w.heap.size≤V1.heap.size:=Nat.le_trans bw.size bt.size
    replace hO:=hO.below hb3
    have bt:=bel_trans bt hb3
    go_simp
    refine hK.out _ _ (cells_kept bt _ _ hS0) (fun hS3=>?_)
    clear hK
    generalize (V1.alloc (.cells #[.slice none 0 0,.map none] 106))=V2 at *
    obtain ⟨X,hX⟩:∃ X,X=V1.heap.size:=⟨_,rfl⟩
    rw [← hX] at pX hXB ⊢
    clear hX
    try simp only [Act.put,tka,tkb,tkc]
    refine tkr 2 16 (fun K hK=>?_)
    have kx:=kS V2 (bel_trans bw bt) ((t0a,t0n,t0c),(t1a,t1n,t1c),(t2a,t2n,t2c),(t3a,t3n,t3c)) (hO.mem fz)
    rw [ut] at kx
    go_simp
    refine kx.mono ?_
    rintro e V3 ⟨va9,nb,cs',L,rfl,sp,hLF,hR',hb2⟩
    obtain rfl:=(hR.below (bel_trans bw bt)).uniq hR'
    have hBv:w.heap.size≤V2.heap.size:=Nat.le_trans bw.size bt.size
    obtain ⟨va8,vn8,vc8,hva⟩:=own_slice6 sp.row
    replace pX:=pX.below hb2
    have bt:=bel_trans bt hb2
    go_wp2_with fail
    refine hK.out _ _ (cells_kept bt _ _ hS0) (fun hS2=>?_)
    clear hK kx
    try simp only [Act.put,tka,tkb,tkc]
    refine tkm 3 13 (.tuple #[.agg #[va9,.map (some nb)],.int .i64 0]) ?_
    refine tkm 4 17 (.agg #[va9,.map (some nb)]) ?_
    refine tkm 5 18 (.int .i64 0) ?_
    subst hva
    refine tkz 7 (fun K hK=>?_)
    refine step_store_blkD rfl 106 _ _ rfl X [.slice va8 vn8 vc8,.map (some nb)] rfl rfl pX (by kernel_rfl) rfl rfl ?_
    intro V9 pX9 g9
    have bz:=(bel_trans bw bt).grown g9 (bel_trans bw bt).size (fun q e=>by cases e;exact hXB)
    replace sp:=sp.grown g9 pX (by decide) (by decide)
    have hXP:X≠w.heap.size:=blk_ne pX (pP9.below bt) (by decide)
    have c9:=cells_kept bt _ _ hS0
    refine hK.out _ _ (cell_grownB g9 c9 (by simp;omega)) (fun hS4=>?_)
    clear hK
    try simp only [Act.put,tka,tkb,tkc]
    refine tkm 8 7 (.int .i64 0) ?_
    refine wpAnyH_done (by kernel_rfl) ?_ _
    go_wp2_with fail
    go_meet
    case rel=>exact CutK.mk9 (va:=.slice none 0 0) rfl rfl pX9.out sp hLF hXB hBv bz
  ·have hb3:Below V.heap.size V (V.alloc (.cells #[.slice none 0 0,.map none] 106)):=by go_grown
   have pX:Blk (V.alloc (.cells #[.slice none 0 0,.map none] 106)) V.heap.size 106 [.slice none 0 0,.map none]:=blkAt _ _ _ rfl
   have hXB:w.heap.size≤V.heap.size:=Nat.le_trans bw.size bt.size
   have bt:=bel_trans bt hb3
   go_simp
   refine hK.out _ _ (cells_kept bt _ _ hS0) (fun hS3=>?_)
   clear hK
   generalize (V.alloc (.cells #[.slice none 0 0,.map none] 106))=V1 at *
   obtain ⟨X,hX⟩:∃ X,X=V.heap.size:=⟨_,rfl⟩
   rw [← hX] at pX hXB ⊢
   clear hX
   try simp only [Act.put,tka,tkb,tkc]
   refine tkr 1 15 (fun K hK=>?_)
   go_simp
   refine (kN V1).mono ?_
   rintro e V2 ⟨⟨⟨⟨t0a,t0n,t0c⟩,⟨t1a,t1n,t1c⟩,⟨t2a,t2n,t2c⟩,⟨t3a,t3n,t3c⟩⟩,rfl,hO⟩,hb1⟩
   have ut:S4.val ((t0a,t0n,t0c),(t1a,t1n,t1c),(t2a,t2n,t2c),(t3a,t3n,t3c))=.agg #[.slice t0a t0n t0c,.slice t1a t1n t1c,.slice t2a t2n t2c,.slice t3a t3n t3c]:=rfl
   rw [ut]
   have bt:=bel_trans bt hb1
   go_wp2_with fail
   refine hK.out _ _ (cells_kept bt _ _ hS0) (fun hS1=>?_)
   clear hK
   try simp only [Act.put,tka,tkb,tkc]
   replace pX:=pX.below hb1
   refine tkr 2 16 (fun K hK=>?_)
   have kx:=kS V2 (bel_trans bw bt) ((t0a,t0n,t0c),(t1a,t1n,t1c),(t2a,t2n,t2c),(t3a,t3n,t3c)) (hO.mem fz)
   rw [ut] at kx
   go_simp
   refine kx.mono ?_
   rintro e V3 ⟨va9,nb,cs',L,rfl,sp,hLF,hR',hb2⟩
   obtain rfl:=(hR.below (bel_trans bw bt)).uniq hR'
   have hBv:w.heap.size≤V2.heap.size:=Nat.le_trans bw.size bt.size
   obtain ⟨va8,vn8,vc8,hva⟩:=own_slice6 sp.row
   replace pX:=pX.below hb2
   have bt:=bel_trans bt hb2
   go_wp2_with fail
   refine hK.out _ _ (cells_kept bt _ _ hS0) (fun hS2=>?_)
   clear hK kx
   try simp only [Act.put,tka,tkb,tkc]
   refine tkm 3 13 (.tuple #[.agg #[va9,.map (some nb)],.int .i64 0]) ?_
   refine tkm 4 17 (.agg #[va9,.map (some nb)]) ?_
   refine tkm 5 18 (.int .i64 0) ?_
   subst hva
   refine tkz 7 (fun K hK=>?_)
   refine step_store_blkD rfl 106 _ _ rfl X [.slice va8 vn8 vc8,.map (some nb)] rfl rfl pX (by kernel_rfl) rfl rfl ?_
   intro V9 pX9 g9
   have bz:=(bel_trans bw bt).grown g9 (bel_trans bw bt).size (fun q e=>by cases e;exact hXB)
   replace sp:=sp.grown g9 pX (by decide) (by decide)
   have hXP:X≠w.heap.size:=blk_ne pX (pP9.below bt) (by decide)
   have c9:=cells_kept bt _ _ hS0
   refine hK.out _ _ (cell_grownB g9 c9 (by simp;omega)) (fun hS4=>?_)
   clear hK
   try simp only [Act.put,tka,tkb,tkc]
   refine tkm 8 7 (.int .i64 0) ?_
   refine wpAnyH_done (by kernel_rfl) ?_ _
   go_wp2_with fail
   go_meet
   case rel=>exact CutK.mk9 (va:=.slice none 0 0) rfl rfl pX9.out sp hLF hXB hBv bz
 obtain ⟨X,va,vc,nb,L,rfl,rfl,pX,sp,hLF,hXB,bz⟩:=hcut
 clear kS kN bw pP fz
 have cX1:wc.cell? ⟨X,1,none⟩=some (.map (some nb)):=by simpa using pX.cell 1
 obtain ⟨D,hm,hN⟩:=sp.map
 have hhas:Maps.has D (.string s.data.toList)=inK rows s:=by
  rw [Bool.eq_iff_iff,hN.has s,hLF,hik]
 clear hN hik hLF sp pX hXB
 obtain ⟨b,hb9⟩:∃ b,b=inK rows s:=⟨_,rfl⟩
 rw [← hb9] at hhas
 have HB:Hid (b=inK rows s):=hb9
 clear hb9
 go_wp2_with (at_lookup;refine wpList_lookup_own_ok_int _ rfl _ _ 104 rfl 9 3 .i64 law_str6 Tryz.underlying104 Tryz.underlying3 (zero_int6 _) nb L.length D rfl hm _ _ rfl hkey ?_;intro c hat hwc)
 clear hat hwc
 refine bodyPost_ret (by simp [results,Tryz.results31,go_sem];try rfl) rfl ?_
 exact ⟨by rw [HB.out],bz⟩

theorem implIsReached_is (a:Option Addr) (len cap:Nat) (rows:List (List I3)) (s:ByteArray) (w:World) (hC:Codes w a len cap rows) (hV:VmShape w) :
  Calls Tryz.prog 31 #[.agg #[.slice a len cap],.string s] w fun e w'=>e=.returned (.tuple #[.bool (reachV rows s),.int .i64 (reachC rows s)])∧Below w.heap.size w w':=by
 unfold reachV reachC
 by_cases hs:65536<s.size
 ·rw [if_pos hs,if_pos hs]
  exact implIsReached_long a len cap s w hs
 ·rw [if_neg hs,if_neg hs]
  by_cases h:codeF rows=0
  ·rw [if_pos h,h]
   exact implIsReached_ok a len cap rows s w hC hV hs h
  ·rw [if_neg h]
   exact implIsReached_not a len cap rows s w hC hV hs h


def keyA (m:V4):ByteArray:=if shapeOk m then keyT m else ByteArray.empty
def keyC (m:V4):Int:=if shapeOk m then 0 else 1
theorem implKeyOf_is (s:S4) (m:V4) (w:World) (h:Vmem w s m) (hV:VmShape w) :
  Calls Tryz.prog 30 #[s.val] w fun e w'=>e=.returned (.tuple #[.string (keyA m),.int .i64 (keyC m)])∧Below w.heap.size w w':=by
 unfold keyA keyC
 cases hok:shapeOk m
 ·exact implKeyOf_bad s m w h hok hV
 ·exact implKeyOf_ok s m w h hok hV
end Go.Proofs.YtifoggpohlegmaaGreatDoor
