/-
  Joined: RsS.
-/
import Derived.Test.YtjgffnlmjmibgaaGreatDoorE11
import Derived.Test.YtjgffnlmjmibgaaGreatDoorE46

namespace Go.Proofs.YtjgffnlmjmibgaaGreatDoor
set_option maxRecDepth 100000
set_option maxHeartbeats 16000000
open Go.RowKit
set_option linter.unusedVariables false
set_option linter.unusedSimpArgs false

theorem runS_runJ (rows:List (List I3)) (ks:List Int):runS rows zeroV [] ks=((runI rows zeroV [] ks).1,mergeB (runI rows zeroV [] ks).2.1 (deadM rows (runI rows zeroV [] ks).1),(runI rows zeroV [] ks).2.2):=by
 have h0:([]:List I3)=mergeB [] (deadM rows zeroV):=by unfold deadM;rw [stuck_zero];rfl
 obtain ⟨h1,h2,h3⟩:=run_same (rows:=rows) ks zeroV [] [] h0
 rw [← h1,← h2] at *
 exact Prod.ext h1 (Prod.ext h3 rfl)
theorem runF_okJ (rows:List (List I3)) (ks:List Int):(∀ x ∈ runF rows ks,okB x=true)∧(runF rows ks).length≤5000:=by
 unfold runF
 split
 ·simp
 ·split
  ·rename_i h1 h2
   have a:=runI_ok h2 ks zeroV [] zero_shape (by simp)
   have b:=runI_len (rows:=rows) ks zeroV []
   have c:=mergeB_len (runI rows zeroV [] ks).2.1 (deadM rows (runI rows zeroV [] ks).1)
   have d:(deadM rows (runI rows zeroV [] ks).1).length≤1:=by unfold deadM;split<;>simp
   refine ⟨mergeB_ok a.2 (deadM_ok _ _),?_⟩
   simp at b
   omega
  ·simp
theorem runZ_ok (rows:List (List I3)) (ks:List Int):V4.fits (runZ rows ks)∧((runZ rows ks).1.length≤1000∧(runZ rows ks).2.1.length≤1000∧(runZ rows ks).2.2.1.length≤1000∧(runZ rows ks).2.2.2.length≤1000):=by
 unfold runZ
 split
 ·exact ⟨⟨by simp,by simp,by simp,by simp⟩,by simp⟩
 ·split
  ·rename_i h1 h2
   have a:=(runI_ok h2 ks zeroV [] zero_shape (by simp)).1
   obtain ⟨l0,l1,l2,l3,_⟩:=shape_parts a
   exact ⟨(shape_fits9 a).1,by omega,by omega,by omega,by omega⟩
  ·exact ⟨⟨by simp,by simp,by simp,by simp⟩,by simp⟩

theorem specRunSchedule_is (a:Option Addr) (len cap:Nat) (rows:List (List I3)) (la:Option Addr) (n c:Nat) (ks:List Int) (w:World) (hC:Codes w a len cap rows) (hL:Ints .i64 w la n c ks) :
  Calls Tryz.prog 30 #[.agg #[.slice a len cap],.slice la n c] w fun e w'=>RunGot e w' w.heap.size (runZ rows ks) (runF rows ks) (runC rows ks)∧Below w.heap.size w w':=by
 unfold runZ runF runC
 rw [hL.1]
 have bw:Below w.heap.size w ((w.alloc (.cells #[.slice a len cap] 25)).alloc (.cells #[.slice none 0 0,.slice none 0 0,.slice none 0 0,.slice none 0 0] 33)):=by go_grown
 have pP:Blk ((w.alloc (.cells #[.slice a len cap] 25)).alloc (.cells #[.slice none 0 0,.slice none 0 0,.slice none 0 0,.slice none 0 0] 33)) w.heap.size 25 [.slice a len cap]:=blkOld _ (blkAt _ _ _ rfl)
 have pR:Blk ((w.alloc (.cells #[.slice a len cap] 25)).alloc (.cells #[.slice none 0 0,.slice none 0 0,.slice none 0 0,.slice none 0 0] 33)) (w.heap.size+1) 33 [.slice none 0 0,.slice none 0 0,.slice none 0 0,.slice none 0 0]:=blkAt _ _ _ (by simp)
 have hsU:w.heap.size+1<((w.alloc (.cells #[.slice a len cap] 25)).alloc (.cells #[.slice none 0 0,.slice none 0 0,.slice none 0 0,.slice none 0 0] 33)).heap.size:=pR.lt
 by_cases hn:4096<n
 ·have hn':(4096:Int)<(n:Int):=by omega
  simp only [if_pos hn]
  clear hC hL hn pP
  go_enter Tryz.func30,Tryz.ntmps30
  go_wp2_with fail
  go_returns
  exact ⟨RunGot.mk9 ((none,0,0),(none,0,0),(none,0,0),(none,0,0)) _ rfl (own_nilV _ _) (by simpa [flat] using own_emptyB ((w.alloc (.cells #[.slice a len cap] 25)).alloc (.cells #[.slice none 0 0,.slice none 0 0,.slice none 0 0,.slice none 0 0] 33)) 99 3 w.heap.size (by simp;omega)),bel_trans bw (by go_grown)⟩
 simp only [if_neg hn]
 have hn':¬ (4096:Int)<(n:Int):=by omega
 have kP:=fun W (b:Below w.heap.size w W)=>specProgramOK_is a len cap rows W (hC.below b)
 cases hp:progOk rows
 ·rw [hp] at kP
  simp only [Bool.false_eq_true,if_false]
  clear hp hC hL hn
  go_enter Tryz.func30,Tryz.ntmps30
  go_wp2_with fail
  generalize ((w.alloc (.cells #[.slice a len cap] 25)).alloc (.cells #[.slice none 0 0,.slice none 0 0,.slice none 0 0,.slice none 0 0] 33))=U at *
  go_wp2_with (first | refine wpList_load_blk rfl 25 _ rfl w.heap.size rfl pP _ Tryz.underlying25 rfl (by kernel_rfl) ?_)
  refine (kP _ bw).mono ?_
  rintro e w1 ⟨rfl,hb⟩
  replace bw:=bel_trans bw hb
  replace pR:=pR.below hb
  have ha:Below w1.heap.size w1 (w1.alloc (.cells #[] 99)):=by go_grown
  have q:=own_emptyB w1 99 3 w.heap.size bw.size
  replace bw:=bel_trans bw ha
  replace pR:=pR.below ha
  clear hb kP pP ha
  go_wp2_with (first | refine wpList_store_blk rfl 33 _ _ rfl (w.heap.size+1) [.slice none 0 0,.slice none 0 0,.slice none 0 0,.slice none 0 0] rfl rfl pR (by kernel_rfl) rfl rfl ?_)
  intro U2 pR2 g2
  have bz:=bw.grown g2 bw.size (fun k e=>by cases e;omega)
  have q2:=q.kept g2 (own_apart_blk q pR (by decide))
  clear bw g2 pR q
  go_wp2_with fail
  refine bodyPost_ret (results_blk3 Tryz.results30 _ _ _ _ _ _ rfl pR2.out Tryz.underlying33 rfl (by kernel_rfl)) rfl ?_
  exact ⟨RunGot.mk9 ((none,0,0),(none,0,0),(none,0,0),(none,0,0)) _ rfl (own_nilV _ _) q2,bz⟩
 ·rw [hp] at kP
  simp only [if_true]
  obtain ⟨rfl,cs,hR⟩:=hC.rowsAt hp
  have kR:=fun (W:World) (b:Below w.heap.size w W)=>l04Run_is (cap:=cap) (hR.below b) hp (hL.below b) (by omega)
  rw [runS_runJ] at kR
  simp only at kR
  generalize mergeB (runI rows zeroV [] ks).2.1 (deadM rows (runI rows zeroV [] ks).1)=fs at *
  generalize (runI rows zeroV [] ks).1=z at *
  generalize (runI rows zeroV [] ks).2.2=cd at *
  clear hp hC hL hn hR
  go_enter Tryz.func30,Tryz.ntmps30
  go_wp2_with fail
  generalize ((w.alloc (.cells #[.slice a 3 cap] 25)).alloc (.cells #[.slice none 0 0,.slice none 0 0,.slice none 0 0,.slice none 0 0] 33))=U at *
  go_wp2_with (first | refine wpList_load_blk rfl 25 _ rfl w.heap.size rfl pP _ Tryz.underlying25 rfl (by kernel_rfl) ?_)
  refine (kP _ bw).mono ?_
  rintro e w1 ⟨rfl,hb⟩
  replace bw:=bel_trans bw hb
  replace pP:=pP.below hb
  replace pR:=pR.below hb
  clear hb kP
  go_wp2_with (first | refine wpList_load_blk rfl 25 _ rfl w.heap.size rfl pP _ Tryz.underlying25 rfl (by kernel_rfl) ?_)
  refine (kR _ bw).mono ?_
  rintro e w2 ⟨⟨⟨⟨t0a,t0n,t0c⟩,⟨t1a,t1n,t1c⟩,⟨t2a,t2n,t2c⟩,⟨t3a,t3n,t3c⟩⟩,v,rfl,hO,q⟩,hb⟩
  have ut:S4.val ((t0a,t0n,t0c),(t1a,t1n,t1c),(t2a,t2n,t2c),(t3a,t3n,t3c))=.agg #[.slice t0a t0n t0c,.slice t1a t1n t1c,.slice t2a t2n t2c,.slice t3a t3n t3c]:=rfl
  rw [ut]
  replace hO:=hO.lowerB (B':=w.heap.size) bw.size
  replace q:=own_lowerB (B':=w.heap.size) q bw.size
  replace bw:=bel_trans bw hb
  replace pR:=pR.below hb
  clear hb kR pP ut
  go_wp2_with (first | refine wpList_store_blk rfl 33 _ _ rfl (w.heap.size+1) [.slice t0a t0n t0c,.slice t1a t1n t1c,.slice t2a t2n t2c,.slice t3a t3n t3c] rfl rfl pR (by kernel_rfl) rfl rfl ?_)
  intro U2 pR2 g2
  have bz:=bw.grown g2 bw.size (fun k e=>by cases e;omega)
  have q2:=q.kept g2 (own_apart_blk q pR (by decide))
  have hO2:=hO.kept9 g2 pR (by decide)
  clear bw g2 pR q hO
  go_wp2_with fail
  refine bodyPost_ret (results_blk3 Tryz.results30 _ _ _ _ _ _ rfl pR2.out Tryz.underlying33 rfl (by kernel_rfl)) rfl ?_
  exact ⟨RunGot.mk9 ((t0a,t0n,t0c),(t1a,t1n,t1c),(t2a,t2n,t2c),(t3a,t3n,t3c)) _ rfl hO2 q2,bz⟩
end Go.Proofs.YtjgffnlmjmibgaaGreatDoor
