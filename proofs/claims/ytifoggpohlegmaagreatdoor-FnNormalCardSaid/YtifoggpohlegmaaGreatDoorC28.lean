/-
  Joined: RpB, RpC.
-/
import Derived.Recover
import Derived.Test.YtifoggpohlegmaaGreatDoorC27

namespace Go.Proofs.YtifoggpohlegmaaGreatDoor
set_option maxRecDepth 100000
set_option maxHeartbeats 16000000
open Go.RowKit
set_option linter.unusedVariables false
set_option linter.unusedSimpArgs false

def RunKept (w w':World):Prop:=∀ (j:Nat) (cur:Array Value) (e:TypeId) (fz:Nat × Nat),w.heap[j]?=some (Obj.cells cur e fz)→e≠64→e≠91→w'.heap[j]?=some (Obj.cells cur e fz)
theorem RunKept.refl (w:World):RunKept w w:=fun _ _ _ _ h _ _=>h
theorem RunKept.trans {a b c:World} (h:RunKept a b) (k:RunKept b c):RunKept a c:=fun j cur e fz h0 he h9=>k j cur e fz (h j cur e fz h0 he h9) he h9
theorem RunKept.of_below {w w':World} (h:Below w.heap.size w w'):RunKept w w':=fun j cur e fz h0 _ _=>by rw [h.block j (Array.getElem?_eq_some_iff.1 h0).1];exact h0
theorem RunKept.of_blk {w w':World} {g:Nat} {cs:List Value} (hB:Blk w g 91 cs) (h:w.grownBy w' (some g)):RunKept w w':=fun j cur e fz h0 _ h9=>by
 rw [h.block j (Array.getElem?_eq_some_iff.1 h0).1 ?_]
 ·exact h0
 ·intro e9
  cases e9
  unfold Blk at hB
  rw [hB] at h0
  simp at h0
  exact h9 h0.2.1.symm
theorem RunKept.of_own {B s n:Nat} {w w':World} {v:Value} {xs:List Value} (hg:w.grownBy w' v.ownBlock) (ho:w.ownsRow B 64 s v n xs):RunKept w w':=fun j cur e fz h0 he _=>by
 rw [hg.block j (Array.getElem?_eq_some_iff.1 h0).1 ?_]
 ·exact h0
 ·rcases ho.2 with ⟨rfl,_⟩ | ⟨g,cap,cur',rfl,_,hh,_⟩
  ·simp [Value.ownBlock]
  ·simp only [Value.ownBlock,ne_eq,Option.some.injEq]
   rintro rfl
   rw [hh] at h0
   simp at h0
   exact he h0.2.1.symm
theorem RunKept.blk {w w':World} {g t:Nat} {cs:List Value} (h:RunKept w w') (hB:Blk w g t cs) (h1:t≠64) (h2:t≠91):Blk w' g t cs:=h g _ t _ hB h1 h2
theorem RunKept.owns {B e s n:Nat} {w w':World} {v:Value} {xs:List Value} (h:RunKept w w') (ho:w.ownsRow B e s v n xs) (h1:e≠64) (h2:e≠91):w'.ownsRow B e s v n xs:=by
 refine ⟨ho.1,?_⟩
 rcases ho.2 with h0 | ⟨g,cap,cur,hv,hB,hg,rest⟩
 ·exact .inl h0
 ·exact .inr ⟨g,cap,cur,hv,hB,h g cur e _ hg h1 h2,rest⟩
theorem own_ne_blkR {w:World} {B e s n g t:Nat} {v:Value} {xs cs:List Value} (h:w.ownsRow B e s v n xs) (hB:Blk w g t cs) (he:e≠t):some g≠v.ownBlock:=by
 rcases h.2 with ⟨rfl,_⟩ | ⟨g',cap,cur',rfl,_,hh,_⟩
 ·simp [Value.ownBlock]
 ·simp only [Value.ownBlock,ne_eq,Option.some.injEq]
  rintro rfl
  unfold Blk at hB
  rw [hB] at hh
  simp at hh
  exact he hh.2.symm
theorem goM_natR (rows:List (List I3)) (m:V4) (k:Nat):goM rows m (k:Int)=stepM m (insM rows m k) k:=by unfold goM;rw [Int.toNat_natCast]

theorem Rp.take_is {fv:Value} {w:World} {g:Nat} {cs:Sl × Sl × Sl} {rows:List (List I3)} {m:V4} (h:Rp.MachAt fv w g cs rows m) (hp:progOk rows=true) (hs:shapeOk m=true) {k:Nat} (hk:k<3) (hd:doneM rows m k=false) :
  Calls Tryz.prog 93 #[.pointer (some ⟨g,0,none⟩),.int .i64 k] w fun e w'=>e=.returned (.agg #[.int .i64 (stepM m (insM rows m k) k).2,.int .i64 k,.int .i64 (m.1.getD k 0)])∧Blk w' g 91 (Rp.machR fv cs.1.val cs.2.1.val cs.2.2.val (stepM m (insM rows m k) k).1)∧w.grownBy w' (some g):=by
 have kS:=fun W (hM:Rp.MachAt fv W g cs rows m)=>Rp.step_is hM hp hs hk hd
 generalize stepM m (insM rows m k) k=zf at *
 obtain ⟨z,f⟩:=zf
 simp only at kS ⊢
 have hk3:(k:Int)<3:=by omega
 obtain ⟨pc,hpc⟩:∃ pc,pc=m.1.getD k 0:=⟨_,rfl⟩
 rw [← hpc]
 have HPc:Hid (pc=m.1.getD k 0):=hpc
 clear hd hp hs hpc
 have hgl:=h.1.lt
 have pB:=Blk.new w 64 [.int .i64 0,.int .i64 0,.int .i64 0]
 have bz:Below w.heap.size w (w.alloc (.cells #[.int .i64 0,.int .i64 0,.int .i64 0] 64)):=by go_grown
 replace h:=h.below bz
 have r1:=h.pc hk
 rw [← HPc.out] at r1
 clear HPc
 have kSx:=kS _ h
 clear kS h
 go_enter Tryz.func93,Tryz.ntmps93
 go_wp2_with fail
 refine kSx.mono ?_
 rintro e w2 ⟨rfl,hM2,g2⟩
 have gz:w.grownBy w2 (some g):=grown_tr (grown_new bz) g2
 have pB2:=pB.kept g2 (by simp;omega)
 have hsz:=gz.size
 clear kSx g2 bz r1 pB
 obtain ⟨GB,hGB⟩:∃ GB,GB=w.heap.size:=⟨_,rfl⟩
 have hwj:w.heap.size≤GB:=by omega
 rw [← hGB] at pB2 hgl ⊢
 clear hGB hsz
 go_wp2_with (refine wpList_store_blk rfl 64 _ _ rfl GB [.int .i64 f,.int .i64 k,.int .i64 pc] rfl rfl pB2 (by kernel_rfl) rfl rfl ?_)
 intro W9 pR2 g3
 have hM3:=hM2.kept g3 (by simp;omega)
 go_wp2
 refine bodyPost_ret (results_blk1 Tryz.results93 _ _ _ _ _ _ rfl pR2.out Tryz.underlying64 rfl (by kernel_rfl)) rfl ?_
 exact ⟨rfl,hM3,grown_box gz g3 hwj⟩

theorem rstep_go {fv:Value} {w:World} {g:Nat} {cs:Sl × Sl × Sl} {rows:List (List I3)} {m:V4} (h:Rp.MachAt fv w g cs rows m) (hp:progOk rows=true) (hs:shapeOk m=true) {k:Nat} (hk:k<3) (hd:doneM rows m k=false) (hw:waitM rows m k=false) :
  Calls Tryz.prog 119 #[.pointer (some ⟨g,0,none⟩),.int .i64 k] w fun e w'=>e=.returned (.iface 64 (.agg #[.int .i64 (goM rows m k).2,.int .i64 k,.int .i64 (m.1.getD k 0)]))∧Blk w' g 91 (Rp.machR fv cs.1.val cs.2.1.val cs.2.2.val (goM rows m k).1)∧w.grownBy w' (some g):=by
 rw [goM_natR]
 have kT:=isThread_is k
 have ht:inB (k:Int) 0 2=true:=inB_true.2 (by omega)
 have kD:=Rp.doneT_is h hk
 have kW:=fun W (hM:Rp.MachAt fv W g cs rows m)=>Rp.waits_is hM hp hs hk
 have kS:=fun W (hM:Rp.MachAt fv W g cs rows m)=>Rp.take_is hM hp hs hk hd
 generalize stepM m (insM rows m k) k=zf at *
 obtain ⟨z,f⟩:=zf
 simp only at kS ⊢
 rw [ht] at kT
 rw [hd] at kD
 rw [hw] at kW
 have hk3:(k:Int)<3:=by omega
 obtain ⟨pc,hpc⟩:∃ pc,pc=m.1.getD k 0:=⟨_,rfl⟩
 rw [← hpc] at kS ⊢
 clear hd ht hw hp hs hpc
 go_enter Tryz.func119,Tryz.ntmps119
 go_wp2_with fail
 refine (kT _).mono ?_
 rintro e w1 ⟨rfl,rfl⟩
 clear kT
 go_wp2_with fail
 refine kD.mono ?_
 rintro e w1 ⟨rfl,d,rfl⟩
 clear kD
 go_wp2_with fail
 refine (kW _ (h.below (below_dN _))).mono ?_
 rintro e w1 ⟨rfl,hb⟩
 have bz:Below w.heap.size w w1:=bel_trans (below_dN _) hb
 clear hb kW
 replace h:=h.below bz
 have kSx:=kS _ h
 clear kS h
 go_wp2_with fail
 refine kSx.mono ?_
 rintro e w2 ⟨rfl,hM2,g2⟩
 have gz:w.grownBy w2 (some g):=grown_tr (grown_new bz) g2
 clear kSx g2 bz
 go_wp2
 go_ret
 exact ⟨rfl,hM2,gz⟩

theorem below_lowR {B C:Nat} {a b:World} (h:Below C a b) (hB:B≤C):Below B a b:=⟨h.os,h.tape,h.output,h.size,fun k hk=>h.block k (by omega)⟩
theorem below_thenR {B:Nat} {a b c:World} (h:Below B a b) (k:Below b.heap.size b c) (hB:B≤b.heap.size):Below B a c:=
 ⟨k.os.trans h.os,k.tape.trans h.tape,k.output.trans h.output,Nat.le_trans h.size k.size,fun j hj=>(k.block j (by omega)).trans (h.block j hj)⟩
theorem flat_snocR (fs:List I3) (x:I3):flat (fs++[x])=flat fs++[.int .i64 x.1,.int .i64 x.2.1,.int .i64 x.2.2]:=by
 induction fs with
 | nil=>rfl
 | cons y ys ih=>simp only [List.cons_append,flat,ih];simp [flat,I3.cells]

theorem keep_bug {fv:Value} {w:World} {g B:Nat} {cs:Sl × Sl × Sl} {m:V4} {fs:List I3} (hM:Blk w g 91 (Rp.machR fv cs.1.val cs.2.1.val cs.2.2.val m)) (hF:w.ownsRow B 64 3 fv fs.length (flat fs)) (hgB:B≤g) (hn:fs.length≤1000000) {f k pc:Int} (hf:f≠0) :
  Calls Tryz.prog 118 #[.pointer (some ⟨g,0,none⟩),.iface 64 (.agg #[.int .i64 f,.int .i64 k,.int .i64 pc])] w fun e w'=>e=.returned (.tuple #[])∧∃ fv',Blk w' g 91 (Rp.machR fv' cs.1.val cs.2.1.val cs.2.2.val m)∧w'.ownsRow B 64 3 fv' (fs.length+1) (flat (fs++[(f,k,pc)]))∧Below B w w'∧RunKept w w':=by
 obtain ⟨i0,hi,hz0,hz1,hz2⟩:=info_parts info_bug
 have hgl:=hM.lt
 have hfn:(f != 0)=true:=by simp [hf]
 have hBw:B≤w.heap.size:=by omega
 clear hf
 have hal:Below w.heap.size w ((w.alloc (.cells #[.int .i64 f,.int .i64 k,.int .i64 pc] 64)).alloc (.cells #[.int .i64 f,.int .i64 k,.int .i64 pc] 64)):=by go_grown
 have pX:Blk ((w.alloc (.cells #[.int .i64 f,.int .i64 k,.int .i64 pc] 64)).alloc (.cells #[.int .i64 f,.int .i64 k,.int .i64 pc] 64)) w.heap.size 64 [.int .i64 f,.int .i64 k,.int .i64 pc]:=blkOld _ (blkAt _ _ _ rfl)
 have hX9:∀ j,fv.ownBlock=some j→j<w.heap.size:=fun j hj=>(hF.lt j hj).2
 have pM:=hM.below hal
 replace hF:=owns_below hF hal
 have bw:Below B w ((w.alloc (.cells #[.int .i64 f,.int .i64 k,.int .i64 pc] 64)).alloc (.cells #[.int .i64 f,.int .i64 k,.int .i64 pc] 64)):=below_lowR hal hBw
 have kp:=RunKept.of_below hal
 have hBU:B≤((w.alloc (.cells #[.int .i64 f,.int .i64 k,.int .i64 pc] 64)).alloc (.cells #[.int .i64 f,.int .i64 k,.int .i64 pc] 64)).heap.size:=Nat.le_trans hBw hal.size
 have hgX:g≠w.heap.size:=by omega
 have hA:=bug_of_bug
 go_enter Tryz.func118,Tryz.ntmps118
 go_wp2
 clear hal hM hA
 generalize ((w.alloc (.cells #[.int .i64 f,.int .i64 k,.int .i64 pc] 64)).alloc (.cells #[.int .i64 f,.int .i64 k,.int .i64 pc] 64))=U at *
 generalize w.heap.size=X at *
 have c0:=pX.cell 0
 have c1:=pX.cell 1
 have c2:=pX.cell 2
 simp only [List.getElem?_cons_zero,List.getElem?_cons_succ] at c0 c1 c2
 refine wp_region_held_drew (S:=(fun w'=>w'.cell? ⟨X,0,none⟩=some (.int .i64 f)∧w'.cell? ⟨X,1,none⟩=some (.int .i64 k)∧w'.cell? ⟨X,2,none⟩=some (.int .i64 pc))) (by kernel_rfl) ⟨c0,c1,c2⟩ (fun hS0=>?_)
 refine tkm 0 17 (.pointer (some ⟨g,0,none⟩)) ?_
 refine tkm 1 18 (.pointer (some ⟨g,0,none⟩)) ?_
 refine tkm 2 19 (.pointer (some ⟨g,0,none⟩)) ?_
 refine tkm 3 20 (.pointer (some ⟨g,18,none⟩)) ?_
 refine tkm 5 22 (.agg #[.int .i64 f,.int .i64 k,.int .i64 pc]) ?_
 refine wpAnyH_ready (rs:=[4,6]) (by kernel_rfl) (by simp) ?_
 refine AllReadyH.cons (o:=⟨some 21,_,_,_,_,_⟩) rfl (fun K hK=>?_) (AllReadyH.cons (o:=⟨some 23,_,_,_,_,_⟩) rfl (fun K hK=>?_) AllReadyH.nil)
 ·have rF:=pM.cell 18
  rw [Rp.machR_found] at rF
  go_simp
  refine hK.out _ _ ⟨c0,c1,c2⟩ (fun hS1=>?_)
  clear hK rF
  try simp only [Act.put,tka,tkb,tkc]
  refine tkr 6 23 (fun K hK=>?_)
  have hdr:Below U.heap.size U U.drew:=by go_grown
  replace c0:=cells_kept hdr _ _ c0
  replace c1:=cells_kept hdr _ _ c1
  replace c2:=cells_kept hdr _ _ c2
  replace pM:=pM.below hdr
  replace pX:=pX.below hdr
  replace hF:=owns_below hF hdr
  replace bw:=below_thenR bw hdr hBU
  replace kp:=kp.trans (RunKept.of_below hdr)
  replace hBU:B≤U.drew.heap.size:=hBU
  clear hdr
  generalize U.drew=U' at *
  obtain ⟨V,hV⟩:∃ V,V=U'.heap.size:=⟨_,rfl⟩
  have e0:(U'.alloc (.cells #[.int .i64 f,.int .i64 k,.int .i64 pc] 64)).cell? ⟨V,0,none⟩=some (.int .i64 f):=by subst hV;simp [go_sem]
  have e1:(U'.alloc (.cells #[.int .i64 f,.int .i64 k,.int .i64 pc] 64)).cell? ⟨V,1,none⟩=some (.int .i64 k):=by subst hV;simp [go_sem]
  have e2:(U'.alloc (.cells #[.int .i64 f,.int .i64 k,.int .i64 pc] 64)).cell? ⟨V,2,none⟩=some (.int .i64 pc):=by subst hV;simp [go_sem]
  have hal:Below U'.heap.size U' (U'.alloc (.cells #[.int .i64 f,.int .i64 k,.int .i64 pc] 64)):=by go_grown
  replace c0:=cells_kept hal _ _ c0
  replace c1:=cells_kept hal _ _ c1
  replace c2:=cells_kept hal _ _ c2
  replace pM:=pM.below hal
  replace pX:=pX.below hal
  replace hF:=owns_below hF hal
  have hBs:B≤(U'.alloc (.cells #[.int .i64 f,.int .i64 k,.int .i64 pc] 64)).heap.size:=Nat.le_trans hBU hal.size
  replace bw:Below B w (U'.alloc (.cells #[.int .i64 f,.int .i64 k,.int .i64 pc] 64)):=below_thenR bw hal hBU
  replace kp:=kp.trans (RunKept.of_below hal)
  go_simp
  rw [← hV]
  refine hK.out _ _ ⟨c0,c1,c2⟩ (fun hS2=>?_)
  clear hK hal hV
  generalize (U'.alloc (.cells #[.int .i64 f,.int .i64 k,.int .i64 pc] 64))=V2 at *
  try simp only [Act.put,tka,tkb,tkc]
  refine tkr 7 24 (fun K hK=>?_)
  refine step_append_mine rfl _ _ 34 rfl B 64 i0 (.agg #[.int .i64 0,.int .i64 0,.int .i64 0]) 3 24 Tryz.underlying34 hi hz0 hz1 hz2 rfl (by decide) fv fs.length (flat fs) rfl hF ⟨V,0,none⟩ 1 1 [.int .i64 f,.int .i64 k,.int .i64 pc] rfl rfl (three_at e0 e1 e2) (three_one _ _ _) (by unfold maxLen;omega) (by omega) hBs ?_
  intro fv2 U2 q2 gr
  have nX:some X≠fv.ownBlock:=fun e=>absurd (hX9 X e.symm) (Nat.lt_irrefl X)
  replace c0:=cell_grownB gr c0 nX
  replace c1:=cell_grownB gr c1 nX
  replace c2:=cell_grownB gr c2 nX
  have nG:=own_ne_blkR hF pM (by decide)
  replace pM:=pM.kept gr (fun e=>nG e.symm)
  replace bw:Below B w U2:=bw.grown gr hBs (fun j hj=>(hF.lt j hj).1)
  replace kp:=kp.trans (RunKept.of_own gr hF)
  refine hK.out _ _ ⟨c0,c1,c2⟩ (fun hS3=>?_)
  have gr2:=gr.size
  clear hK gr nX nG hF e0 e1 e2 pX
  try simp only [Act.put,tka,tkb,tkc]
  obtain ⟨gg,cc,rfl⟩:=own_someB q2 (by omega)
  refine tkm 8 25 (.pointer (some ⟨g,0,none⟩)) ?_
  refine tkm 9 26 (.pointer (some ⟨g,18,none⟩)) ?_
  have rF:=pM.cell 18
  rw [Rp.machR_found] at rF
  have fF:=pM.frozen 18
  refine tkz 10 (fun K hK=>?_)
  have pN:=pM.set 18 (.slice (some ⟨gg,0,none⟩) (fs.length+1) cc)
  rw [Rp.machR_set] at pN
  have gN:=grown_cell U2 g 18 (.slice (some ⟨gg,0,none⟩) (fs.length+1) cc)
  have q3:=q2.kept gN (.inr (own_ne_blkR q2 pM (by decide)).symm)
  have bN:=bw.grown gN (Nat.le_trans hBs gr2) (fun j hj=>by cases hj;exact hgB)
  have kN:=kp.trans (RunKept.of_blk pM gN)
  have nX2:g≠X:=hgX
  have d0:=cell_grownB gN c0 (fun e=>nX2 (by cases e;rfl))
  have d1:=cell_grownB gN c1 (fun e=>nX2 (by cases e;rfl))
  have d2:=cell_grownB gN c2 (fun e=>nX2 (by cases e;rfl))
  go_simp
  refine hK.out _ _ ⟨d0,d1,d2⟩ (fun hS4=>?_)
  clear hK
  try simp only [Act.put,tka,tkb,tkc]
  refine wpAnyH_done (by kernel_rfl) ?_ _
  clear c0 c1 c2 d0 d1 d2 rF fF gN bw kp pM hS0 hS3 hS4
  generalize U2.setCell ⟨g,18,none⟩ (.slice (some ⟨gg,0,none⟩) (fs.length+1) cc)=U3 at *
  go_wp2_with fail
  go_end0
  exact ⟨rfl,_,pN,by rw [flat_snocR];exact q3,bN,kN⟩
 ·obtain ⟨V,hV⟩:∃ V,V=U.heap.size:=⟨_,rfl⟩
  have e0:(U.alloc (.cells #[.int .i64 f,.int .i64 k,.int .i64 pc] 64)).drew.cell? ⟨V,0,none⟩=some (.int .i64 f):=by subst hV;simp [go_sem]
  have e1:(U.alloc (.cells #[.int .i64 f,.int .i64 k,.int .i64 pc] 64)).drew.cell? ⟨V,1,none⟩=some (.int .i64 k):=by subst hV;simp [go_sem]
  have e2:(U.alloc (.cells #[.int .i64 f,.int .i64 k,.int .i64 pc] 64)).drew.cell? ⟨V,2,none⟩=some (.int .i64 pc):=by subst hV;simp [go_sem]
  have hal:Below U.heap.size U (U.alloc (.cells #[.int .i64 f,.int .i64 k,.int .i64 pc] 64)).drew:=by go_grown
  replace c0:=cells_kept hal _ _ c0
  replace c1:=cells_kept hal _ _ c1
  replace c2:=cells_kept hal _ _ c2
  replace pM:=pM.below hal
  replace pX:=pX.below hal
  replace hF:=owns_below hF hal
  have hBs:B≤(U.alloc (.cells #[.int .i64 f,.int .i64 k,.int .i64 pc] 64)).drew.heap.size:=Nat.le_trans hBU hal.size
  replace bw:Below B w (U.alloc (.cells #[.int .i64 f,.int .i64 k,.int .i64 pc] 64)).drew:=below_thenR bw hal hBU
  replace kp:=kp.trans (RunKept.of_below hal)
  go_simp
  rw [← hV]
  refine hK.out _ _ ⟨c0,c1,c2⟩ (fun hS1=>?_)
  clear hK hal hV
  generalize (U.alloc (.cells #[.int .i64 f,.int .i64 k,.int .i64 pc] 64)).drew=V1 at *
  try simp only [Act.put,tka,tkb,tkc]
  refine tkr 4 21 (fun K hK=>?_)
  have rF:=pM.cell 18
  rw [Rp.machR_found] at rF
  go_simp
  refine hK.out _ _ ⟨c0,c1,c2⟩ (fun hS2=>?_)
  clear hK rF
  try simp only [Act.put,tka,tkb,tkc]
  refine tkr 7 24 (fun K hK=>?_)
  refine step_append_mine rfl _ _ 34 rfl B 64 i0 (.agg #[.int .i64 0,.int .i64 0,.int .i64 0]) 3 24 Tryz.underlying34 hi hz0 hz1 hz2 rfl (by decide) fv fs.length (flat fs) rfl hF ⟨V,0,none⟩ 1 1 [.int .i64 f,.int .i64 k,.int .i64 pc] rfl rfl (three_at e0 e1 e2) (three_one _ _ _) (by unfold maxLen;omega) (by omega) hBs ?_
  intro fv2 U2 q2 gr
  have nX:some X≠fv.ownBlock:=fun e=>absurd (hX9 X e.symm) (Nat.lt_irrefl X)
  replace c0:=cell_grownB gr c0 nX
  replace c1:=cell_grownB gr c1 nX
  replace c2:=cell_grownB gr c2 nX
  have nG:=own_ne_blkR hF pM (by decide)
  replace pM:=pM.kept gr (fun e=>nG e.symm)
  replace bw:Below B w U2:=bw.grown gr hBs (fun j hj=>(hF.lt j hj).1)
  replace kp:=kp.trans (RunKept.of_own gr hF)
  refine hK.out _ _ ⟨c0,c1,c2⟩ (fun hS3=>?_)
  have gr2:=gr.size
  clear hK gr nX nG hF e0 e1 e2 pX
  try simp only [Act.put,tka,tkb,tkc]
  obtain ⟨gg,cc,rfl⟩:=own_someB q2 (by omega)
  refine tkm 8 25 (.pointer (some ⟨g,0,none⟩)) ?_
  refine tkm 9 26 (.pointer (some ⟨g,18,none⟩)) ?_
  have rF:=pM.cell 18
  rw [Rp.machR_found] at rF
  have fF:=pM.frozen 18
  refine tkz 10 (fun K hK=>?_)
  have pN:=pM.set 18 (.slice (some ⟨gg,0,none⟩) (fs.length+1) cc)
  rw [Rp.machR_set] at pN
  have gN:=grown_cell U2 g 18 (.slice (some ⟨gg,0,none⟩) (fs.length+1) cc)
  have q3:=q2.kept gN (.inr (own_ne_blkR q2 pM (by decide)).symm)
  have bN:=bw.grown gN (Nat.le_trans hBs gr2) (fun j hj=>by cases hj;exact hgB)
  have kN:=kp.trans (RunKept.of_blk pM gN)
  have nX2:g≠X:=hgX
  have d0:=cell_grownB gN c0 (fun e=>nX2 (by cases e;rfl))
  have d1:=cell_grownB gN c1 (fun e=>nX2 (by cases e;rfl))
  have d2:=cell_grownB gN c2 (fun e=>nX2 (by cases e;rfl))
  go_simp
  refine hK.out _ _ ⟨d0,d1,d2⟩ (fun hS4=>?_)
  clear hK
  try simp only [Act.put,tka,tkb,tkc]
  refine wpAnyH_done (by kernel_rfl) ?_ _
  clear c0 c1 c2 d0 d1 d2 rF fF gN bw kp pM hS0 hS3 hS4
  generalize U2.setCell ⟨g,18,none⟩ (.slice (some ⟨gg,0,none⟩) (fs.length+1) cc)=U3 at *
  go_wp2_with fail
  go_end0
  exact ⟨rfl,_,pN,by rw [flat_snocR];exact q3,bN,kN⟩


theorem catch_halt (p:Addr) (x:Value) (c:Int) (older:List PanicEntry) (w:World) (hc:w.cell? p=some x) (hz:w.frozen? p=false) :
  CallsD Tryz.prog 116 #[.pointer (some p)] (.panicking ({ v:=.iface 162 (.int .i64 c),recovered:=false }::older)) w fun e u' w' =>
   e=.returned (.tuple #[])∧u'=.panicking ({ v:=.iface 162 (.int .i64 c),recovered:=true }::older)∧w'=w.setCell p (.int .i64 c):=by
 have hA:=halt_of_halt
 refine callsD_of_wpS Tryz.func116 rfl fun c₀ cs hu=>?_
 apply wpS_seq
 apply wpS_region
 simp [wpOpsS,go_sem,recoverD,hu,Tryz.ntmps116,Exit.thenS]
 refine wpS_of_wp ?_
 show Code.wp Tryz.prog _ _ { tmps:=#[.pointer (some p),.iface 162 (.int .i64 c),.iface 162 (.int .i64 c),undef,undef,undef,undef,undef],defers:=[] } w
 go_wp2
 exact ⟨rfl,_,rfl,_,results_none rfl _ _ _,rfl,rfl,rfl⟩

theorem catch_idle (p:Addr) (w:World) :
  CallsD Tryz.prog 116 #[.pointer (some p)] .returning w fun e u' w'=>e=.returned (.tuple #[])∧u'=.returning∧w'=w:=by
 refine callsD_of_wpS Tryz.func116 rfl fun c₀ cs hu=>?_
 apply wpS_seq
 apply wpS_region
 simp [wpOpsS,go_sem,recoverD,hu,Tryz.ntmps116,Exit.thenS]
 refine wpS_of_wp ?_
 show Code.wp Tryz.prog _ _ { tmps:=#[.pointer (some p),.nilIface,.nilIface,undef,undef,undef,undef,undef],defers:=[] } w
 go_wp2
 exact ⟨rfl,.returning,by cases c₀;simp_all,_,results_none rfl _ _ _,rfl,rfl,rfl⟩
end Go.Proofs.YtifoggpohlegmaaGreatDoor
