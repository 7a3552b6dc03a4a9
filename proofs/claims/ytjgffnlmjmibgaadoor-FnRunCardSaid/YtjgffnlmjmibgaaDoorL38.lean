/-
  Joined: RpB, RpC, RpD, RpE.
-/
import Derived.Recover
import Derived.Test.YtjgffnlmjmibgaaDoorL34
import Derived.Test.YtjgffnlmjmibgaaDoorL37

namespace Go.Proofs.YtjgffnlmjmibgaaDoor
set_option maxRecDepth 100000
set_option maxHeartbeats 16000000
open Go.RowKit
set_option linter.unusedVariables false
set_option linter.unusedSimpArgs false

def RunKept (w w':World):Prop:=∀ (j:Nat) (cur:Array Value) (e:TypeId) (fz:Nat × Nat),w.heap[j]?=some (Obj.cells cur e fz)→e≠40→e≠71→w'.heap[j]?=some (Obj.cells cur e fz)
theorem RunKept.refl (w:World):RunKept w w:=fun _ _ _ _ h _ _=>h
theorem RunKept.trans {a b c:World} (h:RunKept a b) (k:RunKept b c):RunKept a c:=fun j cur e fz h0 he h9=>k j cur e fz (h j cur e fz h0 he h9) he h9
theorem RunKept.of_below {w w':World} (h:Below w.heap.size w w'):RunKept w w':=fun j cur e fz h0 _ _=>by rw [h.block j (Array.getElem?_eq_some_iff.1 h0).1];exact h0
theorem RunKept.of_blk {w w':World} {g:Nat} {cs:List Value} (hB:Blk w g 71 cs) (h:w.grownBy w' (some g)):RunKept w w':=fun j cur e fz h0 _ h9=>by
 rw [h.block j (Array.getElem?_eq_some_iff.1 h0).1 ?_]
 ·exact h0
 ·intro e9
  cases e9
  unfold Blk at hB
  rw [hB] at h0
  simp at h0
  exact h9 h0.2.1.symm
theorem RunKept.of_own {B s n:Nat} {w w':World} {v:Value} {xs:List Value} (hg:w.grownBy w' v.ownBlock) (ho:w.ownsRow B 40 s v n xs):RunKept w w':=fun j cur e fz h0 he _=>by
 rw [hg.block j (Array.getElem?_eq_some_iff.1 h0).1 ?_]
 ·exact h0
 ·rcases ho.2 with ⟨rfl,_⟩ | ⟨g,cap,cur',rfl,_,hh,_⟩
  ·simp [Value.ownBlock]
  ·simp only [Value.ownBlock,ne_eq,Option.some.injEq]
   rintro rfl
   rw [hh] at h0
   simp at h0
   exact he h0.2.1.symm
theorem RunKept.blk {w w':World} {g t:Nat} {cs:List Value} (h:RunKept w w') (hB:Blk w g t cs) (h1:t≠40) (h2:t≠71):Blk w' g t cs:=h g _ t _ hB h1 h2
theorem own_ne_blkR {w:World} {B e s n g t:Nat} {v:Value} {xs cs:List Value} (h:w.ownsRow B e s v n xs) (hB:Blk w g t cs) (he:e≠t):some g≠v.ownBlock:=by
 rcases h.2 with ⟨rfl,_⟩ | ⟨g',cap,cur',rfl,_,hh,_⟩
 ·simp [Value.ownBlock]
 ·simp only [Value.ownBlock,ne_eq,Option.some.injEq]
  rintro rfl
  unfold Blk at hB
  rw [hB] at hh
  simp at hh
  exact he hh.2.symm
theorem goM_natR (rows:List (List I3)) (m:V4) (k:Nat):goM rows m (k:Int)=stepM m (insM rows m k) k:=by unfold goM;rw [Int.toNat_natCast]

theorem Rp.take_is {fv:Value} {w:World} {g:Nat} {cs:Sl × Sl × Sl} {rows:List (List I3)} {m:V4} (h:Rp.MachAt fv w g cs rows m) (hp:progOk rows=true) (hs:shapeOk m=true) {k:Nat} (hk:k<3) (hd:doneM rows m k=false) :
  Calls Tryd.prog 101 #[.pointer (some ⟨g,0,none⟩),.int .i64 k] w fun e w'=>e=.returned (.agg #[.int .i64 (stepM m (insM rows m k) k).2,.int .i64 k,.int .i64 (m.1.getD k 0)])∧Blk w' g 71 (Rp.machR fv cs.1.val cs.2.1.val cs.2.2.val (stepM m (insM rows m k) k).1)∧w.grownBy w' (some g):=by
 have kS:=fun W (hM:Rp.MachAt fv W g cs rows m)=>Rp.step_is hM hp hs hk hd
 generalize stepM m (insM rows m k) k=zf at *
 obtain ⟨z,f⟩:=zf
 simp only at kS ⊢
 have hk3:(k:Int)<3:=by omega
 obtain ⟨pc,hpc⟩:∃ pc,pc=m.1.getD k 0:=⟨_,rfl⟩
 rw [← hpc]
 have HPc:Hid (pc=m.1.getD k 0):=hpc
 clear hd hp hs hpc
 have hgl:=h.1.lt
 have pB:=Blk.new w 40 [.int .i64 0,.int .i64 0,.int .i64 0]
 have bz:Below w.heap.size w (w.alloc (.cells #[.int .i64 0,.int .i64 0,.int .i64 0] 40)):=by go_grown
 replace h:=h.below bz
 have r1:=h.pc hk
 rw [← HPc.out] at r1
 clear HPc
 have kSx:=kS _ h
 clear kS h
 go_enter Tryd.func101,Tryd.ntmps101
 go_wp2_with fail
 refine kSx.mono ?_
 rintro e w2 ⟨rfl,hM2,g2⟩
 have gz:w.grownBy w2 (some g):=grown_tr (grown_new bz) g2
 have pB2:=pB.kept g2 (by simp;omega)
 have hsz:=gz.size
 clear kSx g2 bz r1 pB
 obtain ⟨GB,hGB⟩:∃ GB,GB=w.heap.size:=⟨_,rfl⟩
 have hwj:w.heap.size≤GB:=by omega
 rw [← hGB] at pB2 hgl ⊢
 clear hGB hsz
 go_wp2_with (refine wpList_store_blk rfl 40 _ _ rfl GB [.int .i64 f,.int .i64 k,.int .i64 pc] rfl rfl pB2 (by kernel_rfl) rfl rfl ?_)
 intro W9 pR2 g3
 have hM3:=hM2.kept g3 (by simp;omega)
 go_wp2
 refine bodyPost_ret (results_blk1 Tryd.results101 _ _ _ _ _ _ rfl pR2.out Tryd.underlying40 rfl (by kernel_rfl)) rfl ?_
 exact ⟨rfl,hM3,grown_box gz g3 hwj⟩

theorem rstep_go {fv:Value} {w:World} {g:Nat} {cs:Sl × Sl × Sl} {rows:List (List I3)} {m:V4} (h:Rp.MachAt fv w g cs rows m) (hp:progOk rows=true) (hs:shapeOk m=true) {k:Nat} (hk:k<3) (hd:doneM rows m k=false) (hw:waitM rows m k=false) :
  Calls Tryd.prog 62 #[.pointer (some ⟨g,0,none⟩),.int .i64 k] w fun e w'=>e=.returned (.iface 40 (.agg #[.int .i64 (goM rows m k).2,.int .i64 k,.int .i64 (m.1.getD k 0)]))∧Blk w' g 71 (Rp.machR fv cs.1.val cs.2.1.val cs.2.2.val (goM rows m k).1)∧w.grownBy w' (some g):=by
 rw [goM_natR]
 have kT:=isThread_is k
 have ht:inB (k:Int) 0 2=true:=inB_true.2 (by omega)
 have kD:=Rp.doneT_is h hk
 have kW:=fun W (hM:Rp.MachAt fv W g cs rows m)=>Rp.waits_is hM hp hs hk
 have kS:=fun W (hM:Rp.MachAt fv W g cs rows m)=>Rp.take_is hM hp hs hk hd
 generalize stepM m (insM rows m k) k=zf at *
 obtain ⟨z,f⟩:=zf
 simp only at kS ⊢
 rw [ht] at kT
 rw [hd] at kD
 rw [hw] at kW
 have hk3:(k:Int)<3:=by omega
 obtain ⟨pc,hpc⟩:∃ pc,pc=m.1.getD k 0:=⟨_,rfl⟩
 rw [← hpc] at kS ⊢
 clear hd ht hw hp hs hpc
 go_enter Tryd.func62,Tryd.ntmps62
 go_wp2_with fail
 refine (kT _).mono ?_
 rintro e w1 ⟨rfl,rfl⟩
 clear kT
 go_wp2_with fail
 refine kD.mono ?_
 rintro e w1 ⟨rfl,d,rfl⟩
 clear kD
 go_wp2_with fail
 refine (kW _ (h.below (below_dN _))).mono ?_
 rintro e w1 ⟨rfl,hb⟩
 have bz:Below w.heap.size w w1:=bel_trans (below_dN _) hb
 clear hb kW
 replace h:=h.below bz
 have kSx:=kS _ h
 clear kS h
 go_wp2_with fail
 refine kSx.mono ?_
 rintro e w2 ⟨rfl,hM2,g2⟩
 have gz:w.grownBy w2 (some g):=grown_tr (grown_new bz) g2
 clear kSx g2 bz
 go_wp2
 go_ret
 exact ⟨rfl,hM2,gz⟩

theorem below_lowR {B C:Nat} {a b:World} (h:Below C a b) (hB:B≤C):Below B a b:=⟨h.os,h.tape,h.output,h.size,fun k hk=>h.block k (by omega)⟩
theorem below_thenR {B:Nat} {a b c:World} (h:Below B a b) (k:Below b.heap.size b c) (hB:B≤b.heap.size):Below B a c:=
 ⟨k.os.trans h.os,k.tape.trans h.tape,k.output.trans h.output,Nat.le_trans h.size k.size,fun j hj=>(k.block j (by omega)).trans (h.block j hj)⟩
theorem flat_snocR (fs:List I3) (x:I3):flat (fs++[x])=flat fs++[.int .i64 x.1,.int .i64 x.2.1,.int .i64 x.2.2]:=by
 induction fs with
 | nil=>rfl
 | cons y ys ih=>simp only [List.cons_append,flat,ih];simp [flat,I3.cells]

theorem keep_bug {fv:Value} {w:World} {g B:Nat} {cs:Sl × Sl × Sl} {m:V4} {fs:List I3} (hM:Blk w g 71 (Rp.machR fv cs.1.val cs.2.1.val cs.2.2.val m)) (hF:w.ownsRow B 40 3 fv fs.length (flat fs)) (hgB:B≤g) (hn:fs.length≤1000000) {f k pc:Int} (hf:f≠0) :
  Calls Tryd.prog 61 #[.pointer (some ⟨g,0,none⟩),.iface 40 (.agg #[.int .i64 f,.int .i64 k,.int .i64 pc])] w fun e w'=>e=.returned (.tuple #[])∧∃ fv',Blk w' g 71 (Rp.machR fv' cs.1.val cs.2.1.val cs.2.2.val m)∧w'.ownsRow B 40 3 fv' (fs.length+1) (flat (fs++[(f,k,pc)]))∧Below B w w'∧RunKept w w':=by
 obtain ⟨i0,hi,hz0,hz1,hz2⟩:=info_parts info_bug
 have hgl:=hM.lt
 have hfn:(f != 0)=true:=by simp [hf]
 have hBw:B≤w.heap.size:=by omega
 clear hf
 have hal:Below w.heap.size w ((w.alloc (.cells #[.int .i64 f,.int .i64 k,.int .i64 pc] 40)).alloc (.cells #[.int .i64 f,.int .i64 k,.int .i64 pc] 40)):=by go_grown
 have pX:Blk ((w.alloc (.cells #[.int .i64 f,.int .i64 k,.int .i64 pc] 40)).alloc (.cells #[.int .i64 f,.int .i64 k,.int .i64 pc] 40)) w.heap.size 40 [.int .i64 f,.int .i64 k,.int .i64 pc]:=blkOld _ (blkAt _ _ _ rfl)
 have hX9:∀ j,fv.ownBlock=some j→j<w.heap.size:=fun j hj=>(hF.lt j hj).2
 have pM:=hM.below hal
 replace hF:=owns_below hF hal
 have bw:Below B w ((w.alloc (.cells #[.int .i64 f,.int .i64 k,.int .i64 pc] 40)).alloc (.cells #[.int .i64 f,.int .i64 k,.int .i64 pc] 40)):=below_lowR hal hBw
 have kp:=RunKept.of_below hal
 have hBU:B≤((w.alloc (.cells #[.int .i64 f,.int .i64 k,.int .i64 pc] 40)).alloc (.cells #[.int .i64 f,.int .i64 k,.int .i64 pc] 40)).heap.size:=Nat.le_trans hBw hal.size
 have hgX:g≠w.heap.size:=by omega
 have hA:=bug_of_bug
 go_enter Tryd.func61,Tryd.ntmps61
 go_wp2
 clear hal hM hA
 generalize ((w.alloc (.cells #[.int .i64 f,.int .i64 k,.int .i64 pc] 40)).alloc (.cells #[.int .i64 f,.int .i64 k,.int .i64 pc] 40))=U at *
 generalize w.heap.size=X at *
 have c0:=pX.cell 0
 have c1:=pX.cell 1
 have c2:=pX.cell 2
 simp only [List.getElem?_cons_zero,List.getElem?_cons_succ] at c0 c1 c2
 refine wp_region_held_drew (S:=(fun w'=>w'.cell? ⟨X,0,none⟩=some (.int .i64 f)∧w'.cell? ⟨X,1,none⟩=some (.int .i64 k)∧w'.cell? ⟨X,2,none⟩=some (.int .i64 pc))) (by kernel_rfl) ⟨c0,c1,c2⟩ (fun hS0=>?_)
 refine tkm 0 17 (.pointer (some ⟨g,0,none⟩)) ?_
 refine tkm 1 18 (.pointer (some ⟨g,0,none⟩)) ?_
 refine tkm 2 19 (.pointer (some ⟨g,0,none⟩)) ?_
 refine tkm 3 20 (.pointer (some ⟨g,18,none⟩)) ?_
 refine tkm 5 22 (.agg #[.int .i64 f,.int .i64 k,.int .i64 pc]) ?_
 refine wpAnyH_ready (rs:=[4,6]) (by kernel_rfl) (by simp) ?_
 refine AllReadyH.cons (o:=⟨some 21,_,_,_,_,_⟩) rfl (fun K hK=>?_) (AllReadyH.cons (o:=⟨some 23,_,_,_,_,_⟩) rfl (fun K hK=>?_) AllReadyH.nil)
 ·have rF:=pM.cell 18
  rw [Rp.machR_found] at rF
  go_simp
  refine hK.out _ _ ⟨c0,c1,c2⟩ (fun hS1=>?_)
  clear hK rF
  try simp only [Act.put,tka,tkb,tkc]
  refine tkr 6 23 (fun K hK=>?_)
  have hdr:Below U.heap.size U U.drew:=by go_grown
  replace c0:=cells_kept hdr _ _ c0
  replace c1:=cells_kept hdr _ _ c1
  replace c2:=cells_kept hdr _ _ c2
  replace pM:=pM.below hdr
  replace pX:=pX.below hdr
  replace hF:=owns_below hF hdr
  replace bw:=below_thenR bw hdr hBU
  replace kp:=kp.trans (RunKept.of_below hdr)
  replace hBU:B≤U.drew.heap.size:=hBU
  clear hdr
  generalize U.drew=U' at *
  obtain ⟨V,hV⟩:∃ V,V=U'.heap.size:=⟨_,rfl⟩
  have e0:(U'.alloc (.cells #[.int .i64 f,.int .i64 k,.int .i64 pc] 40)).cell? ⟨V,0,none⟩=some (.int .i64 f):=by subst hV;simp [go_sem]
  have e1:(U'.alloc (.cells #[.int .i64 f,.int .i64 k,.int .i64 pc] 40)).cell? ⟨V,1,none⟩=some (.int .i64 k):=by subst hV;simp [go_sem]
  have e2:(U'.alloc (.cells #[.int .i64 f,.int .i64 k,.int .i64 pc] 40)).cell? ⟨V,2,none⟩=some (.int .i64 pc):=by subst hV;simp [go_sem]
  have hal:Below U'.heap.size U' (U'.alloc (.cells #[.int .i64 f,.int .i64 k,.int .i64 pc] 40)):=by go_grown
  replace c0:=cells_kept hal _ _ c0
  replace c1:=cells_kept hal _ _ c1
  replace c2:=cells_kept hal _ _ c2
  replace pM:=pM.below hal
  replace pX:=pX.below hal
  replace hF:=owns_below hF hal
  have hBs:B≤(U'.alloc (.cells #[.int .i64 f,.int .i64 k,.int .i64 pc] 40)).heap.size:=Nat.le_trans hBU hal.size
  replace bw:Below B w (U'.alloc (.cells #[.int .i64 f,.int .i64 k,.int .i64 pc] 40)):=below_thenR bw hal hBU
  replace kp:=kp.trans (RunKept.of_below hal)
  go_simp
  rw [← hV]
  refine hK.out _ _ ⟨c0,c1,c2⟩ (fun hS2=>?_)
  clear hK hal hV
  generalize (U'.alloc (.cells #[.int .i64 f,.int .i64 k,.int .i64 pc] 40))=V2 at *
  try simp only [Act.put,tka,tkb,tkc]
  refine tkr 7 24 (fun K hK=>?_)
  refine step_append_mine rfl _ _ 31 rfl B 40 i0 (.agg #[.int .i64 0,.int .i64 0,.int .i64 0]) 3 24 Tryd.underlying31 hi hz0 hz1 hz2 rfl (by decide) fv fs.length (flat fs) rfl hF ⟨V,0,none⟩ 1 1 [.int .i64 f,.int .i64 k,.int .i64 pc] rfl rfl (three_at e0 e1 e2) (three_one _ _ _) (by unfold maxLen;omega) (by omega) hBs ?_
  intro fv2 U2 q2 gr
  have nX:some X≠fv.ownBlock:=fun e=>absurd (hX9 X e.symm) (Nat.lt_irrefl X)
  replace c0:=cell_grownB gr c0 nX
  replace c1:=cell_grownB gr c1 nX
  replace c2:=cell_grownB gr c2 nX
  have nG:=own_ne_blkR hF pM (by decide)
  replace pM:=pM.kept gr (fun e=>nG e.symm)
  replace bw:Below B w U2:=bw.grown gr hBs (fun j hj=>(hF.lt j hj).1)
  replace kp:=kp.trans (RunKept.of_own gr hF)
  refine hK.out _ _ ⟨c0,c1,c2⟩ (fun hS3=>?_)
  have gr2:=gr.size
  clear hK gr nX nG hF e0 e1 e2 pX
  try simp only [Act.put,tka,tkb,tkc]
  obtain ⟨gg,cc,rfl⟩:=own_someB q2 (by omega)
  refine tkm 8 25 (.pointer (some ⟨g,0,none⟩)) ?_
  refine tkm 9 26 (.pointer (some ⟨g,18,none⟩)) ?_
  have rF:=pM.cell 18
  rw [Rp.machR_found] at rF
  have fF:=pM.frozen 18
  refine tkz 10 (fun K hK=>?_)
  have pN:=pM.set 18 (.slice (some ⟨gg,0,none⟩) (fs.length+1) cc)
  rw [Rp.machR_set] at pN
  have gN:=grown_cell U2 g 18 (.slice (some ⟨gg,0,none⟩) (fs.length+1) cc)
  have q3:=q2.kept gN (.inr (own_ne_blkR q2 pM (by decide)).symm)
  have bN:=bw.grown gN (Nat.le_trans hBs gr2) (fun j hj=>by cases hj;exact hgB)
  have kN:=kp.trans (RunKept.of_blk pM gN)
  have nX2:g≠X:=hgX
  have d0:=cell_grownB gN c0 (fun e=>nX2 (by cases e;rfl))
  have d1:=cell_grownB gN c1 (fun e=>nX2 (by cases e;rfl))
  have d2:=cell_grownB gN c2 (fun e=>nX2 (by cases e;rfl))
  go_simp
  refine hK.out _ _ ⟨d0,d1,d2⟩ (fun hS4=>?_)
  clear hK
  try simp only [Act.put,tka,tkb,tkc]
  refine wpAnyH_done (by kernel_rfl) ?_ _
  clear c0 c1 c2 d0 d1 d2 rF fF gN bw kp pM hS0 hS3 hS4
  generalize U2.setCell ⟨g,18,none⟩ (.slice (some ⟨gg,0,none⟩) (fs.length+1) cc)=U3 at *
  go_wp2_with fail
  go_end0
  exact ⟨rfl,_,pN,by rw [flat_snocR];exact q3,bN,kN⟩
 ·obtain ⟨V,hV⟩:∃ V,V=U.heap.size:=⟨_,rfl⟩
  have e0:(U.alloc (.cells #[.int .i64 f,.int .i64 k,.int .i64 pc] 40)).drew.cell? ⟨V,0,none⟩=some (.int .i64 f):=by subst hV;simp [go_sem]
  have e1:(U.alloc (.cells #[.int .i64 f,.int .i64 k,.int .i64 pc] 40)).drew.cell? ⟨V,1,none⟩=some (.int .i64 k):=by subst hV;simp [go_sem]
  have e2:(U.alloc (.cells #[.int .i64 f,.int .i64 k,.int .i64 pc] 40)).drew.cell? ⟨V,2,none⟩=some (.int .i64 pc):=by subst hV;simp [go_sem]
  have hal:Below U.heap.size U (U.alloc (.cells #[.int .i64 f,.int .i64 k,.int .i64 pc] 40)).drew:=by go_grown
  replace c0:=cells_kept hal _ _ c0
  replace c1:=cells_kept hal _ _ c1
  replace c2:=cells_kept hal _ _ c2
  replace pM:=pM.below hal
  replace pX:=pX.below hal
  replace hF:=owns_below hF hal
  have hBs:B≤(U.alloc (.cells #[.int .i64 f,.int .i64 k,.int .i64 pc] 40)).drew.heap.size:=Nat.le_trans hBU hal.size
  replace bw:Below B w (U.alloc (.cells #[.int .i64 f,.int .i64 k,.int .i64 pc] 40)).drew:=below_thenR bw hal hBU
  replace kp:=kp.trans (RunKept.of_below hal)
  go_simp
  rw [← hV]
  refine hK.out _ _ ⟨c0,c1,c2⟩ (fun hS1=>?_)
  clear hK hal hV
  generalize (U.alloc (.cells #[.int .i64 f,.int .i64 k,.int .i64 pc] 40)).drew=V1 at *
  try simp only [Act.put,tka,tkb,tkc]
  refine tkr 4 21 (fun K hK=>?_)
  have rF:=pM.cell 18
  rw [Rp.machR_found] at rF
  go_simp
  refine hK.out _ _ ⟨c0,c1,c2⟩ (fun hS2=>?_)
  clear hK rF
  try simp only [Act.put,tka,tkb,tkc]
  refine tkr 7 24 (fun K hK=>?_)
  refine step_append_mine rfl _ _ 31 rfl B 40 i0 (.agg #[.int .i64 0,.int .i64 0,.int .i64 0]) 3 24 Tryd.underlying31 hi hz0 hz1 hz2 rfl (by decide) fv fs.length (flat fs) rfl hF ⟨V,0,none⟩ 1 1 [.int .i64 f,.int .i64 k,.int .i64 pc] rfl rfl (three_at e0 e1 e2) (three_one _ _ _) (by unfold maxLen;omega) (by omega) hBs ?_
  intro fv2 U2 q2 gr
  have nX:some X≠fv.ownBlock:=fun e=>absurd (hX9 X e.symm) (Nat.lt_irrefl X)
  replace c0:=cell_grownB gr c0 nX
  replace c1:=cell_grownB gr c1 nX
  replace c2:=cell_grownB gr c2 nX
  have nG:=own_ne_blkR hF pM (by decide)
  replace pM:=pM.kept gr (fun e=>nG e.symm)
  replace bw:Below B w U2:=bw.grown gr hBs (fun j hj=>(hF.lt j hj).1)
  replace kp:=kp.trans (RunKept.of_own gr hF)
  refine hK.out _ _ ⟨c0,c1,c2⟩ (fun hS3=>?_)
  have gr2:=gr.size
  clear hK gr nX nG hF e0 e1 e2 pX
  try simp only [Act.put,tka,tkb,tkc]
  obtain ⟨gg,cc,rfl⟩:=own_someB q2 (by omega)
  refine tkm 8 25 (.pointer (some ⟨g,0,none⟩)) ?_
  refine tkm 9 26 (.pointer (some ⟨g,18,none⟩)) ?_
  have rF:=pM.cell 18
  rw [Rp.machR_found] at rF
  have fF:=pM.frozen 18
  refine tkz 10 (fun K hK=>?_)
  have pN:=pM.set 18 (.slice (some ⟨gg,0,none⟩) (fs.length+1) cc)
  rw [Rp.machR_set] at pN
  have gN:=grown_cell U2 g 18 (.slice (some ⟨gg,0,none⟩) (fs.length+1) cc)
  have q3:=q2.kept gN (.inr (own_ne_blkR q2 pM (by decide)).symm)
  have bN:=bw.grown gN (Nat.le_trans hBs gr2) (fun j hj=>by cases hj;exact hgB)
  have kN:=kp.trans (RunKept.of_blk pM gN)
  have nX2:g≠X:=hgX
  have d0:=cell_grownB gN c0 (fun e=>nX2 (by cases e;rfl))
  have d1:=cell_grownB gN c1 (fun e=>nX2 (by cases e;rfl))
  have d2:=cell_grownB gN c2 (fun e=>nX2 (by cases e;rfl))
  go_simp
  refine hK.out _ _ ⟨d0,d1,d2⟩ (fun hS4=>?_)
  clear hK
  try simp only [Act.put,tka,tkb,tkc]
  refine wpAnyH_done (by kernel_rfl) ?_ _
  clear c0 c1 c2 d0 d1 d2 rF fF gN bw kp pM hS0 hS3 hS4
  generalize U2.setCell ⟨g,18,none⟩ (.slice (some ⟨gg,0,none⟩) (fs.length+1) cc)=U3 at *
  go_wp2_with fail
  go_end0
  exact ⟨rfl,_,pN,by rw [flat_snocR];exact q3,bN,kN⟩


theorem catch_halt (p:Addr) (x:Value) (c:Int) (older:List PanicEntry) (w:World) (hc:w.cell? p=some x) (hz:w.frozen? p=false) :
  CallsD Tryd.prog 59 #[.pointer (some p)] (.panicking ({ v:=.iface 109 (.int .i64 c),recovered:=false }::older)) w fun e u' w' =>
   e=.returned (.tuple #[])∧u'=.panicking ({ v:=.iface 109 (.int .i64 c),recovered:=true }::older)∧w'=w.setCell p (.int .i64 c):=by
 have hA:=halt_of_halt
 refine callsD_of_wpS Tryd.func59 rfl fun c₀ cs hu=>?_
 apply wpS_seq
 apply wpS_region
 simp [wpOpsS,go_sem,recoverD,hu,Tryd.ntmps59,Exit.thenS]
 refine wpS_of_wp ?_
 show Code.wp Tryd.prog _ _ { tmps:=#[.pointer (some p),.iface 109 (.int .i64 c),.iface 109 (.int .i64 c),undef,undef,undef,undef,undef],defers:=[] } w
 go_wp2
 exact ⟨rfl,_,rfl,_,results_none rfl _ _ _,rfl,rfl,rfl⟩

theorem catch_idle (p:Addr) (w:World) :
  CallsD Tryd.prog 59 #[.pointer (some p)] .returning w fun e u' w'=>e=.returned (.tuple #[])∧u'=.returning∧w'=w:=by
 refine callsD_of_wpS Tryd.func59 rfl fun c₀ cs hu=>?_
 apply wpS_seq
 apply wpS_region
 simp [wpOpsS,go_sem,recoverD,hu,Tryd.ntmps59,Exit.thenS]
 refine wpS_of_wp ?_
 show Code.wp Tryd.prog _ _ { tmps:=#[.pointer (some p),.nilIface,.nilIface,undef,undef,undef,undef,undef],defers:=[] } w
 go_wp2
 exact ⟨rfl,.returning,by cases c₀;simp_all,_,results_none rfl _ _ _,rfl,rfl,rfl⟩


def ListAt (w:World) (B:Nat) (a:Option Addr) (n c:Nat) (ks:List Int):Prop:=
 Ints .i64 w a n c ks∧∀ b o,a=some ⟨b,o,none⟩→0<n→b<B∨∃ cur fz,w.heap[b]?=some (Obj.cells cur 3 fz)
theorem ListAt.kept {w w':World} {B:Nat} {a:Option Addr} {n c:Nat} {ks:List Int} (h:ListAt w B a n c ks) (hb:Below B w w') (hk:RunKept w w'):ListAt w' B a n c ks:=by
 obtain ⟨⟨h1,h2,h3,h4⟩,h5⟩:=h
 rcases Nat.eq_zero_or_pos n with hn | hn
 ·exact ⟨⟨h1,h2,h3,.inl hn⟩,fun _ _ _ h0=>absurd hn (by omega)⟩
 rcases h4 with h4 | ⟨b,off,ha,hl,hc⟩
 ·omega
 have e:w'.heap[b]?=w.heap[b]?:=by
  rcases h5 b off ha hn with h6 | ⟨cur,fz,h6⟩
  ·exact hb.block b h6
  ·rw [hk b cur _ fz h6 (by decide) (by decide),h6]
 refine ⟨⟨h1,h2,h3,.inr ⟨b,off,ha,Nat.lt_of_lt_of_le hl hb.size,fun t ht=>?_⟩⟩,fun b' o' ha' h0=>?_⟩
 ·rw [← hc t ht]
  unfold World.cell?
  simp only
  rw [e]
 ·rw [ha] at ha'
  cases ha'
  rcases h5 b off ha hn with h6 | ⟨cur,fz,h6⟩
  ·exact .inl h6
  ·exact .inr ⟨cur,fz,e.trans h6⟩
theorem ListAt.at {w:World} {B:Nat} {a:Option Addr} {n c:Nat} {ks:List Int} (h:ListAt w B a n c ks) {i:Nat} (hi:i<n):∃ b off,a=some ⟨b,off,none⟩∧w.cell? ⟨b,off+i,none⟩=some (.int .i64 (ks.getD i 0)):=by
 obtain ⟨⟨h1,h2,h3,h4⟩,h5⟩:=h
 rcases h4 with h4 | ⟨b,off,ha,hl,hc⟩
 ·omega
 ·exact ⟨b,off,ha,hc i hi⟩
theorem RunKept.set_new {w w':World} {R:Nat} {v:Value} (h:RunKept w w') (hR:w.heap.size≤R):RunKept w (w'.setCell ⟨R,0,none⟩ v):=fun j cur e fz h0 h1 h2=>by
 have hj:=(Array.getElem?_eq_some_iff.1 h0).1
 rw [Below.heap_setCell w' ⟨R,0,none⟩ v j (by show j≠R;omega)]
 exact h j cur e fz h0 h1 h2

def RanTo (w:World) (g B:Nat) (cs:Sl × Sl × Sl) (m:V4) (fs:List I3):Prop:=
 ∃ fv,Blk w g 71 (Rp.machR fv cs.1.val cs.2.1.val cs.2.2.val m)∧w.ownsRow B 40 3 fv fs.length (flat fs)
def OnRun (w0 w wr:World) (g B R:Nat) (cs:Sl × Sl × Sl) (rows:List (List I3)) (ks:List Int) (N n i:Nat) (fin:V4 × List I3 × Int) (m:V4) (fs:List I3):Prop:=
 i≤n∧runI rows m fs (ks.drop i)=fin∧shapeOk m=true∧RanTo wr g B cs m fs∧Below B w0 wr∧Below B w wr∧RunKept w wr∧Blk wr R 3 [.int .i64 0]∧fs.length≤N+i
theorem runI_halt {rows:List (List I3)} {m:V4} {fs:List I3} {ks:List Int} {i:Nat} (hi:i<ks.length) (h:haltM rows m (ks.getD i 0)≠0):runI rows m fs (ks.drop i)=(m,fs,haltM rows m (ks.getD i 0)):=by
 have e:ks.drop i=ks.getD i 0::ks.drop (i+1):=by rw [List.drop_eq_getElem_cons hi];simp [List.getD,hi]
 rw [e]
 show (if haltM rows m (ks.getD i 0)=0 then _ else _)=_
 rw [if_neg h]
theorem runI_go {rows:List (List I3)} {m:V4} {fs:List I3} {ks:List Int} {i:Nat} (hi:i<ks.length) (h:haltM rows m (ks.getD i 0)=0):runI rows m fs (ks.drop i)=runI rows (goM rows m (ks.getD i 0)).1 (fs++ownM rows m (ks.getD i 0)) (ks.drop (i+1)):=by
 have e:ks.drop i=ks.getD i 0::ks.drop (i+1):=by rw [List.drop_eq_getElem_cons hi];simp [List.getD,hi]
 rw [e]
 show (if haltM rows m (ks.getD i 0)=0 then _ else _)=_
 rw [if_pos h]

theorem rowsMach {w:World} {a:Option Addr} {cs:Sl × Sl × Sl} {rows:List (List I3)} {m:V4} {g:Nat} {fv:Value} (h:RowsAt w a cs rows) (hB:Blk w g 71 (Rp.machR fv cs.1.val cs.2.1.val cs.2.2.val m)):Rp.MachAt fv w g cs rows m:=by
 obtain ⟨b,off,_,_,hk⟩:=h
 exact ⟨hB,fun k h3=>(hk k h3).2⟩
def StepsTo (e:Ending) (w w':World) (g B:Nat) (cs:Sl × Sl × Sl) (rows:List (List I3)) (m:V4) (fv:Value) (k:Int):Prop:=
 (haltM rows m k≠0∧e=.returned (.iface 109 (.int .i64 (haltM rows m k)))∧Below w.heap.size w w') ∨
 (haltM rows m k=0∧e=.returned (.iface 40 (.agg #[.int .i64 (goM rows m k).2,.int .i64 k,.int .i64 (m.1.getD k.toNat 0)]))∧Blk w' g 71 (Rp.machR fv cs.1.val cs.2.1.val cs.2.2.val (goM rows m k).1)∧w.grownBy w' (some g)∧shapeOk (goM rows m k).1=true)
theorem rstep_is {fv:Value} {w:World} {g B:Nat} {cs:Sl × Sl × Sl} {rows:List (List I3)} {m:V4} (h:Rp.MachAt fv w g cs rows m) (hp:progOk rows=true) (hs:shapeOk m=true) (k:Int) :
  Calls Tryd.prog 62 #[.pointer (some ⟨g,0,none⟩),.int .i64 k] w fun e w'=>StepsTo e w w' g B cs rows m fv k:=by
 by_cases hk:0≤k∧k≤2
 ·obtain ⟨q,rfl⟩:∃ q:Nat,k=q:=⟨k.toNat,by omega⟩
  have hq:q<3:=by omega
  cases hd:doneM rows m q
  ·cases hw:waitM rows m q
   ·have hz:haltM rows m (q:Int)=0:=by
     unfold haltM
     rw [if_pos hk]
     unfold waitM at hw
     rw [Int.toNat_natCast]
     simp only [hd]
     unfold canM
     rw [hd] at hw ⊢
     simp at hw ⊢
     exact hw
    refine (rstep_go h hp hs hq hd hw).mono ?_
    rintro e w' ⟨he,hM,hg⟩
    refine .inr ⟨hz,by rw [he,Int.toNat_natCast],hM,hg,?_⟩
    rw [goM_natR]
    exact shape_step hp hs hq hd
   ·have hz:haltM rows m (q:Int)=11:=by
     unfold haltM
     rw [if_pos hk]
     unfold waitM at hw
     rw [Int.toNat_natCast]
     simp only [hd]
     unfold canM
     rw [hd] at hw ⊢
     simp at hw ⊢
     simp [hw]
    refine (rstep_waits h hp hs hq hd hw).mono ?_
    rintro e w' ⟨he,hb⟩
    exact .inl ⟨by rw [hz];decide,by rw [hz];exact he,hb⟩
  ·have hz:haltM rows m (q:Int)=10:=by
    unfold haltM
    rw [if_pos hk,Int.toNat_natCast]
    simp [hd]
   refine (rstep_done h hq hd).mono ?_
   rintro e w' ⟨he,hb⟩
   exact .inl ⟨by rw [hz];decide,by rw [hz];exact he,hb⟩
 ·have hz:haltM rows m k=4:=by unfold haltM;rw [if_neg hk]
  have hi:inB k 0 2=false:=inB_false.2 (by omega)
  refine (rstep_range g k w hi).mono ?_
  rintro e w' ⟨he,rfl⟩
  exact .inl ⟨by rw [hz];decide,by rw [hz];exact he,Below.refl _ _⟩

theorem keep_is {fv:Value} {w:World} {g B:Nat} {cs:Sl × Sl × Sl} {m:V4} {fs:List I3} (hM:Blk w g 71 (Rp.machR fv cs.1.val cs.2.1.val cs.2.2.val m)) (hF:w.ownsRow B 40 3 fv fs.length (flat fs)) (hgB:B≤g) (hn:fs.length≤1000000) (f k pc:Int) :
  Calls Tryd.prog 61 #[.pointer (some ⟨g,0,none⟩),.iface 40 (.agg #[.int .i64 f,.int .i64 k,.int .i64 pc])] w fun e w'=>e=.returned (.tuple #[])∧RanTo w' g B cs m (fs++if f=0 then [] else [(f,k,pc)])∧Below B w w'∧RunKept w w':=by
 by_cases hf:f=0
 ·subst hf
  refine (keep_ok g k pc w).mono ?_
  rintro e w' ⟨he,hb⟩
  rw [if_pos rfl,List.append_nil]
  exact ⟨he,⟨fv,hM.below hb,owns_below hF hb⟩,below_lowR hb (by have:=hM.lt;omega),RunKept.of_below hb⟩
 ·refine (keep_bug hM hF hgB hn hf).mono ?_
  rintro e w' ⟨he,fv',h1,h2,h3,h4⟩
  rw [if_neg hf]
  exact ⟨he,⟨fv',h1,by simpa using h2⟩,h3,h4⟩


theorem bel_transR {B:Nat} {a b c:World} (h:Below B a b) (k:Below B b c):Below B a c:=⟨k.os.trans h.os,k.tape.trans h.tape,k.output.trans h.output,Nat.le_trans h.size k.size,fun j hj=>(k.block j hj).trans (h.block j hj)⟩
theorem ownM_len (rows:List (List I3)) (m:V4) (k:Int):(ownM rows m k).length≤1:=by unfold ownM;split<;>simp
theorem run_is {w0 w:World} {g:Nat} {a9:Option Addr} {cs:Sl × Sl × Sl} {rows:List (List I3)} {m:V4} {fs:List I3} {la:Option Addr} {n c:Nat} {ks:List Int} (hR:RowsAt w0 a9 cs rows) (bw:Below w0.heap.size w0 w) (hg:w0.heap.size≤g) (hp:progOk rows=true) (hs:shapeOk m=true)
  (hM:RanTo w g w0.heap.size cs m fs) (hL:ListAt w w0.heap.size la n c ks) (hn:fs.length+n≤500000) :
  Calls Tryd.prog 28 #[.pointer (some ⟨g,0,none⟩),.slice la n c] w fun e w'=>e=.returned (.int .i64 (runI rows m fs ks).2.2)∧RanTo w' g w0.heap.size cs (runI rows m fs ks).1 (runI rows m fs ks).2.1∧Below w0.heap.size w0 w'∧RunKept w w':=by
 have hmf:∀ (fn:Fn) (first cap:Array Value) (w:World),(Instr.makeFunc fn first cap).run Tryd.prog w=.ok (.func fn first cap) w:=fun _ _ _ _=>rfl
 obtain ⟨fin,hfin⟩:∃ fin,fin=runI rows m fs ks:=⟨_,rfl⟩
 rw [← hfin]
 have hll:=hL.1.1
 have hsz0:=bw.size
 have hgl:g<w.heap.size:=by obtain ⟨fv,h1,_⟩:=hM;exact h1.lt
 have ha:Below w.heap.size w (w.alloc (.cells #[.int .i64 0] 3)):=by go_grown
 have st:OnRun w0 w (w.alloc (.cells #[.int .i64 0] 3)) g w0.heap.size w.heap.size cs rows ks fs.length n 0 fin m fs:=by
  obtain ⟨fv,h1,h2⟩:=hM
  exact ⟨by omega,by rw [hfin];rfl,hs,⟨fv,h1.below ha,owns_below h2 ha⟩,below_thenR bw ha hsz0,below_lowR ha hsz0,RunKept.of_below ha,blkAt _ _ _ rfl,by omega⟩
 clear hfin hs hM ha
 go_enter_defers Tryd.func28,Tryd.ntmps28
 go_wp2_with fail
 generalize w.alloc (.cells #[.int .i64 0] 3)=W1 at *
 go_loopw [10] (fun si wr=>∃ (i:Nat) (m':V4) (fs':List I3),si=.int .i64 i∧OnRun w0 w wr g w0.heap.size w.heap.size cs rows ks fs.length n i fin m' fs') (fun si _=>n - (intOf si).toNat)
 case atStart=>exact ⟨0,m,fs,rfl,st⟩
 case round =>
  clear st
  obtain ⟨i,m',fs',rfl,hi,hr,hs,⟨fv,hM,hF⟩,bw0,bw1,kp,pR,hf9⟩:=hrel
  by_cases hlt:i<n
  ·have hLr:=hL.kept bw1 kp
   obtain ⟨b,off,rfl,hc⟩:=hLr.at hlt
   have kS:=rstep_is (B:=w0.heap.size) (rowsMach (hR.below bw0) hM) hp hs (ks.getD i 0)
   have HH:Hid (haltM rows m' (ks.getD i 0)≠0→fin=(m',fs',haltM rows m' (ks.getD i 0))):=fun h0=>hr.symm.trans (runI_halt (by omega) h0)
   have HG:Hid (haltM rows m' (ks.getD i 0)=0→runI rows (goM rows m' (ks.getD i 0)).1 (fs'++ownM rows m' (ks.getD i 0)) (ks.drop (i+1))=fin):=fun h0=>(runI_go (by omega) h0).symm.trans hr
   have hlt':(i:Int)<(n:Int):=by omega
   have hi0:(0:Int)≤(i:Int):=by omega
   have hRg:g≠w.heap.size:=by omega
   generalize ks.getD i 0=kk at *
   clear hr hLr hs
   go_wp2_with fail
   refine kS.mono ?_
   rintro e w1 (⟨hz,rfl,hb⟩ | ⟨hz,rfl,hM1,g1,hs1⟩)
   ·have hfe:=HH.out hz
    clear HH HG kS
    go_wp2_with fail
    refine (keep_halt g _ w1).mono ?_
    rintro e w2 ⟨rfl,hb2⟩
    replace hb:=bel_trans hb hb2
    clear hb2
    replace pR:=pR.below hb
    go_wp2_with fail
    have cR:=pR.cell 0
    have fR:=pR.frozen 0
    simp only [List.getElem?_cons_zero] at cR
    refine leaves_cons (f:=59) (args:=#[.pointer (some ⟨w.heap.size,0,none⟩)]) (by simp) (by simp [go_sem]) ?_
    refine (catch_halt ⟨w.heap.size,0,none⟩ _ (haltM rows m' kk) [] _ cR fR).mono ?_
    rintro e u' w3 ⟨rfl,rfl,rfl⟩
    have cS:(w2.setCell ⟨w.heap.size,0,none⟩ (.int .i64 (haltM rows m' kk))).cell? ⟨w.heap.size,0,none⟩=some (.int .i64 (haltM rows m' kk)):=by simpa using (pR.set 0 (.int .i64 (haltM rows m' kk))).cell 0
    have gS:=grown_cell w2 w.heap.size 0 (.int .i64 (haltM rows m' kk))
    have hM3:=(hM.below hb).off ⟨w.heap.size,0,none⟩ (.int .i64 (haltM rows m' kk)) hRg
    have hF2:=owns_below hF hb
    have hF3:=hF2.kept gS (.inr (own_ne_blkR hF2 pR (by decide)).symm)
    have bz:=(below_thenR bw0 hb bw0.size).grown gS (Nat.le_trans bw0.size hb.size) (fun j hj=>by cases hj;exact hsz0)
    have kz:=(kp.trans (RunKept.of_below hb)).set_new (v:=.int .i64 (haltM rows m' kk)) (Nat.le_refl w.heap.size)
    show Leaves _ _ _ _ [] .returning _
    refine ⟨.int .i64 (haltM rows m' kk),?_,?_⟩
    ·simp [results,Tryd.results28,go_sem,cS]
    ·rw [hfe]
     exact ⟨rfl,⟨fv,hM3,hF3⟩,bz,kz⟩
   ·have hfe:=HG.out hz
    clear HH HG kS hc hlt' hi0
    have hF1:=hF.kept g1 (.inr (own_ne_blkR hF hM (by decide)).symm)
    have hn1:fs'.length≤1000000:=by omega
    have bA:=bw0.grown g1 bw0.size (fun j hj=>by cases hj;exact hg)
    have bB:=bw1.grown g1 (Nat.le_trans hsz0 bw1.size) (fun j hj=>by cases hj;exact hg)
    have kA:=kp.trans (RunKept.of_blk hM g1)
    have pR1:=pR.kept g1 (fun e=>hRg (by cases e;rfl))
    go_wp2_with fail
    refine (keep_is hM1 hF1 hg hn1 _ _ _).mono ?_
    rintro e w2 ⟨rfl,hM2,hb2,kp2⟩
    have pR2:=kp2.blk pR1 (by decide) (by decide)
    have st2:OnRun w0 w w2 g w0.heap.size w.heap.size cs rows ks fs.length n (i+1) fin (goM rows m' kk).1 (fs'++ownM rows m' kk):=⟨by omega,hfe,hs1,hM2,bel_transR bA hb2,bel_transR bB hb2,kA.trans kp2,pR2,by have:=ownM_len rows m' kk;rw [List.length_append];omega⟩
    clear hM2 hb2 kp2 pR1 pR2 kA bA bB hF1 hM1 g1 hs1 hz hfe hM hF bw0 bw1 kp pR
    go_wp2
    go_roundw
    case rel=>exact ⟨i+1,_,_,by go_num,st2⟩
    case measure=>simp [intOf];omega
  ·obtain rfl:i=n:=by omega
   have hfe:fin=(m',fs',0):=by rw [← hr,List.drop_of_length_le (by omega)];rfl
   clear hr
   have cR:=pR.cell 0
   have fR:=pR.frozen 0
   simp only [List.getElem?_cons_zero] at cR
   go_wp2
   have cS:(wr.setCell ⟨w.heap.size,0,none⟩ (.int .i64 0)).cell? ⟨w.heap.size,0,none⟩=some (.int .i64 0):=by simpa using (pR.set 0 (.int .i64 0)).cell 0
   have gS:=grown_cell wr w.heap.size 0 (.int .i64 0)
   have hRg:g≠w.heap.size:=by omega
   have hM3:=hM.off ⟨w.heap.size,0,none⟩ (.int .i64 0) hRg
   have hF3:=hF.kept gS (.inr (own_ne_blkR hF pR (by decide)).symm)
   have bz:=bw0.grown gS bw0.size (fun j hj=>by cases hj;exact hsz0)
   have kz:=kp.set_new (v:=.int .i64 0) (Nat.le_refl w.heap.size)
   refine leaves_cons (f:=59) (args:=#[.pointer (some ⟨w.heap.size,0,none⟩)]) (by simp) (by simp [go_sem]) ?_
   refine (catch_idle ⟨w.heap.size,0,none⟩ _).mono ?_
   rintro e u' w3 ⟨rfl,rfl,rfl⟩
   show Leaves _ _ _ _ [] .returning _
   refine ⟨.int .i64 0,?_,?_⟩
   ·simp [results,Tryd.results28,go_sem,cS]
   ·rw [hfe]
    exact ⟨rfl,⟨fv,hM3,hF3⟩,bz,kz⟩
end Go.Proofs.YtjgffnlmjmibgaaDoor
