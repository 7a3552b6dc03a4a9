/-
  Joined: CagI.
-/
import Derived.Test.YtgmhhegckcionaaGreatDoorF47

namespace Go.Proofs.YtgmhhegckcionaaGreatDoor
set_option maxRecDepth 100000
set_option maxHeartbeats 16000000
open Go.RowKit
set_option linter.unusedVariables false
set_option linter.unusedSimpArgs false

def Wl (x:Ending) (w':World) (B:Nat) (bz:List I3) (nz:Nat) (es:List E3) (c:Int):Prop:=∃ (vb vm:Value) (T:Nat),x=.returned (.tuple #[.agg #[vb,.int .i64 (nz:Int)],.agg #[vm],.int .i64 c])∧w'.ownsRow B 103 3 vb bz.length (Zn bz)∧(∀ j,vb.ownBlock=some j→j<T)∧Wi w' T vm es∧B≤T
theorem Wl.nil9 {w':World} {B:Nat} {c:Int}:Wl (.returned (.tuple #[.agg #[.slice none 0 0,.int .i64 0],.agg #[.slice none 0 0],.int .i64 c])) w' B [] 0 [] c:=⟨_,_,B,rfl,World.ownsRow_nil _ _ _ _,(fun j hj=>by cases hj),Wi.nil9 _ _,Nat.le_refl _⟩
def NN (V W:World) (cells:List Value) (cd:Int) (s7 s8:Value):Prop:=∃ X,s7=.pointer (some ⟨X,0,none⟩)∧s8=.int .i64 cd∧Blk W X 98 cells∧Below V.heap.size V W∧V.heap.size≤X
theorem T4 (a:Option Addr) (len cap:Nat) (rows:List (List I3)) (am:Option Addr) (n c:Nat) (w:World) (hC:YT w a len cap rows) (hV:ZN w) (hp:Zf rows=false) :
  Calls Tryz.prog 20 #[.agg #[.slice a len cap],.agg #[.slice am n c]] w fun x w'=>Wl x w' w.heap.size [] 0 [] 1∧Below w.heap.size w w':=by
 have kM:=fun (W:World) (t:S4) (hb:Below w.heap.size w W) (h:Xd W t Zu)=>Pw a len cap rows t Zu W (hC.below hb) h (hV.below hb) (by rw [hp];rfl)
 have bw:Below w.heap.size w ((((w.alloc (.cells #[.slice a len cap] 25)).alloc (.cells #[.slice am n c] 33)).alloc (.cells #[.slice none 0 0,.int .i64 0] 30)).alloc (.cells #[.slice none 0 0] 33)):=by go_grown
 have pP:Blk ((((w.alloc (.cells #[.slice a len cap] 25)).alloc (.cells #[.slice am n c] 33)).alloc (.cells #[.slice none 0 0,.int .i64 0] 30)).alloc (.cells #[.slice none 0 0] 33)) w.heap.size 25 [.slice a len cap]:=Zl _ (Zl _ (Zl _ (Zj _ _ _ rfl)))
 have pM:Blk ((((w.alloc (.cells #[.slice a len cap] 25)).alloc (.cells #[.slice am n c] 33)).alloc (.cells #[.slice none 0 0,.int .i64 0] 30)).alloc (.cells #[.slice none 0 0] 33)) (w.heap.size+1) 33 [.slice am n c]:=Zl _ (Zl _ (Zj _ _ _ (by simp)))
 have pR:Blk ((((w.alloc (.cells #[.slice a len cap] 25)).alloc (.cells #[.slice am n c] 33)).alloc (.cells #[.slice none 0 0,.int .i64 0] 30)).alloc (.cells #[.slice none 0 0] 33)) (w.heap.size+1+1) 30 [.slice none 0 0,.int .i64 0]:=Zl _ (Zj _ _ _ (by simp))
 have pT:Blk ((((w.alloc (.cells #[.slice a len cap] 25)).alloc (.cells #[.slice am n c] 33)).alloc (.cells #[.slice none 0 0,.int .i64 0] 30)).alloc (.cells #[.slice none 0 0] 33)) (w.heap.size+1+1+1) 33 [.slice none 0 0]:=Zj _ _ _ (by simp)
 go_enter Tryz.func20,Tryz.ntmps20
 go_wp2_with fail
 generalize ((((w.alloc (.cells #[.slice a len cap] 25)).alloc (.cells #[.slice am n c] 33)).alloc (.cells #[.slice none 0 0,.int .i64 0] 30)).alloc (.cells #[.slice none 0 0] 33))=U0 at *
 obtain ⟨XR,hXR⟩:∃ XR,XR=w.heap.size+1+1:=⟨_,rfl⟩
 obtain ⟨XT,hXT⟩:∃ XT,XT=w.heap.size+1+1+1:=⟨_,rfl⟩
 rw [← hXT] at pT ⊢
 rw [← hXR] at pR ⊢
 have hXRw:w.heap.size<XR:=by omega
 have hXTw:XR<XT:=by omega
 clear hXR hXT
 go_cut [7,8] from 11 to 16 (fun s7 s8 W=>NN U0 W [.slice none 0 0,.int .i64 0,.int .i64 0,.int .i64 0,.slice none 0 0,.int .i64 0,.int .i64 0,.int .i64 0,.slice none 0 0,.int .i64 0,.int .i64 0,.int .i64 0,.int .i64 0,.int .i64 0,.int .i64 0,.int .i64 0,.int .i64 0,.int .i64 0] 1 s7 s8)
 case first =>
  refine wp_region_held_drew (S:=(fun w'=>w'.cell? ⟨w.heap.size,0,none⟩=some (.slice a len cap))) (by kernel_rfl) (by simpa using pP.cell 0) (fun hS0=>?_)
  have hV1:Below U0.heap.size U0 U0.drew:=by go_grown
  have pPV:=pP.below hV1
  refine tkm 0 12 (.agg #[.slice a len cap]) ?_
  replace bw:=Zb bw hV1
  generalize hV0:U0.drew=V0 at *
  have bt:Below V0.heap.size V0 V0:=Below.refl _ _
  clear hV0
  refine wpAnyH_ready (rs:=[1,6]) (by kernel_rfl) (by simp) ?_
  refine AllReadyH.cons (o:=⟨some 13,_,_,_,_,_⟩) rfl (fun K hK=>?_) (AllReadyH.cons (o:=⟨some 7,_,_,_,_,_⟩) rfl (fun K hK=>?_) AllReadyH.nil)
  focus
   have kx:=YZ V0
   go_simp
   refine kx.mono ?_
   rintro e V1 ⟨⟨⟨⟨t0a,t0n,t0c⟩,⟨t1a,t1n,t1c⟩,⟨t2a,t2n,t2c⟩,⟨t3a,t3n,t3c⟩⟩,rfl,hOv⟩,hb1⟩
   have ut:S4.val ((t0a,t0n,t0c),(t1a,t1n,t1c),(t2a,t2n,t2c),(t3a,t3n,t3c))=.agg #[.slice t0a t0n t0c,.slice t1a t1n t1c,.slice t2a t2n t2c,.slice t3a t3n t3c]:=rfl
   rw [ut]
   have hVm:=hOv.mem (YC ZJ).1
   replace bt:=Zb bt hb1
   skip
   go_wp2_with fail
   refine hK.out _ _ (Za hb1 _ _ hS0) (fun hS1=>?_)
   clear hK kx hOv hb1
   try simp only [Act.put,tka,tkb,tkc]
   refine wpAnyH_ready (rs:=[2,6]) (by kernel_rfl) (by simp) ?_
   refine AllReadyH.cons (o:=⟨some 14,_,_,_,_,_⟩) rfl (fun K hK=>?_) (AllReadyH.cons (o:=⟨some 7,_,_,_,_,_⟩) rfl (fun K hK=>?_) AllReadyH.nil)
   focus
    have kx:=kM V1 ((t0a,t0n,t0c),(t1a,t1n,t1c),(t2a,t2n,t2c),(t3a,t3n,t3c)) (Zb bw bt) hVm
    rw [ut] at kx
    go_simp
    refine kx.mono ?_
    rintro e V2 ⟨rfl,hb2⟩
    replace bt:=Zb bt hb2
    skip
    go_wp2_with fail
    refine hK.out _ _ (Za hb2 _ _ hS1) (fun hS2=>?_)
    clear hK kx hVm ut hb2
    try simp only [Act.put,tka,tkb,tkc]
    refine tkm 3 11 (.tuple #[.agg ([.slice none 0 0,.int .i64 0,.int .i64 0,.int .i64 0,.slice none 0 0,.int .i64 0,.int .i64 0,.int .i64 0,.slice none 0 0,.int .i64 0,.int .i64 0,.int .i64 0,.int .i64 0,.int .i64 0,.int .i64 0,.int .i64 0,.int .i64 0,.int .i64 0]:List Value).toArray,.int .i64 1]) ?_
    refine tkm 4 15 (.agg ([.slice none 0 0,.int .i64 0,.int .i64 0,.int .i64 0,.slice none 0 0,.int .i64 0,.int .i64 0,.int .i64 0,.slice none 0 0,.int .i64 0,.int .i64 0,.int .i64 0,.int .i64 0,.int .i64 0,.int .i64 0,.int .i64 0,.int .i64 0,.int .i64 0]:List Value).toArray) ?_
    refine tkm 5 16 (.int .i64 1) ?_
    refine tkr 6 7 (fun K hK=>?_)
    have hal:Below V2.heap.size V2 (V2.alloc (.cells #[.slice none 0 0,.int .i64 0,.int .i64 0,.int .i64 0,.slice none 0 0,.int .i64 0,.int .i64 0,.int .i64 0,.slice none 0 0,.int .i64 0,.int .i64 0,.int .i64 0,.int .i64 0,.int .i64 0,.int .i64 0,.int .i64 0,.int .i64 0,.int .i64 0] 98)):=by go_grown
    have pX:Blk (V2.alloc (.cells #[.slice none 0 0,.int .i64 0,.int .i64 0,.int .i64 0,.slice none 0 0,.int .i64 0,.int .i64 0,.int .i64 0,.slice none 0 0,.int .i64 0,.int .i64 0,.int .i64 0,.int .i64 0,.int .i64 0,.int .i64 0,.int .i64 0,.int .i64 0,.int .i64 0] 98)) V2.heap.size 98 [.slice none 0 0,.int .i64 0,.int .i64 0,.int .i64 0,.slice none 0 0,.int .i64 0,.int .i64 0,.int .i64 0,.slice none 0 0,.int .i64 0,.int .i64 0,.int .i64 0,.int .i64 0,.int .i64 0,.int .i64 0,.int .i64 0,.int .i64 0,.int .i64 0]:=Zj _ _ _ rfl
    have hX1:V0.heap.size≤V2.heap.size:=bt.size
    skip
    replace bt:=Zb bt hal
    go_simp
    refine hK.out _ _ (Za hal _ _ hS2) (fun hS3=>?_)
    clear hK hal
    generalize (V2.alloc (.cells #[.slice none 0 0,.int .i64 0,.int .i64 0,.int .i64 0,.slice none 0 0,.int .i64 0,.int .i64 0,.int .i64 0,.slice none 0 0,.int .i64 0,.int .i64 0,.int .i64 0,.int .i64 0,.int .i64 0,.int .i64 0,.int .i64 0,.int .i64 0,.int .i64 0] 98))=V3 at *
    obtain ⟨X,hX⟩:∃ X,X=V2.heap.size:=⟨_,rfl⟩
    rw [← hX] at pX ⊢
    replace hX1:V0.heap.size≤X:=by rw [hX];exact hX1
    clear hX
    try simp only [Act.put,tka,tkb,tkc]
   rotate_left
   focus
    have hal:Below V1.heap.size V1 (V1.alloc (.cells #[.slice none 0 0,.int .i64 0,.int .i64 0,.int .i64 0,.slice none 0 0,.int .i64 0,.int .i64 0,.int .i64 0,.slice none 0 0,.int .i64 0,.int .i64 0,.int .i64 0,.int .i64 0,.int .i64 0,.int .i64 0,.int .i64 0,.int .i64 0,.int .i64 0] 98)):=by go_grown
    have pX:Blk (V1.alloc (.cells #[.slice none 0 0,.int .i64 0,.int .i64 0,.int .i64 0,.slice none 0 0,.int .i64 0,.int .i64 0,.int .i64 0,.slice none 0 0,.int .i64 0,.int .i64 0,.int .i64 0,.int .i64 0,.int .i64 0,.int .i64 0,.int .i64 0,.int .i64 0,.int .i64 0] 98)) V1.heap.size 98 [.slice none 0 0,.int .i64 0,.int .i64 0,.int .i64 0,.slice none 0 0,.int .i64 0,.int .i64 0,.int .i64 0,.slice none 0 0,.int .i64 0,.int .i64 0,.int .i64 0,.int .i64 0,.int .i64 0,.int .i64 0,.int .i64 0,.int .i64 0,.int .i64 0]:=Zj _ _ _ rfl
    have hX1:V0.heap.size≤V1.heap.size:=bt.size
    replace hVm:=hVm.below hal
    replace bt:=Zb bt hal
    go_simp
    refine hK.out _ _ (Za hal _ _ hS1) (fun hS2=>?_)
    clear hK hal
    generalize (V1.alloc (.cells #[.slice none 0 0,.int .i64 0,.int .i64 0,.int .i64 0,.slice none 0 0,.int .i64 0,.int .i64 0,.int .i64 0,.slice none 0 0,.int .i64 0,.int .i64 0,.int .i64 0,.int .i64 0,.int .i64 0,.int .i64 0,.int .i64 0,.int .i64 0,.int .i64 0] 98))=V2 at *
    obtain ⟨X,hX⟩:∃ X,X=V1.heap.size:=⟨_,rfl⟩
    rw [← hX] at pX ⊢
    replace hX1:V0.heap.size≤X:=by rw [hX];exact hX1
    clear hX
    try simp only [Act.put,tka,tkb,tkc]
    refine tkr 2 14 (fun K hK=>?_)
    have kx:=kM V2 ((t0a,t0n,t0c),(t1a,t1n,t1c),(t2a,t2n,t2c),(t3a,t3n,t3c)) (Zb bw bt) hVm
    rw [ut] at kx
    go_simp
    refine kx.mono ?_
    rintro e V3 ⟨rfl,hb2⟩
    replace bt:=Zb bt hb2
    replace pX:=pX.below hb2
    go_wp2_with fail
    refine hK.out _ _ (Za hb2 _ _ hS2) (fun hS3=>?_)
    clear hK kx hVm ut hb2
    try simp only [Act.put,tka,tkb,tkc]
    refine tkm 3 11 (.tuple #[.agg ([.slice none 0 0,.int .i64 0,.int .i64 0,.int .i64 0,.slice none 0 0,.int .i64 0,.int .i64 0,.int .i64 0,.slice none 0 0,.int .i64 0,.int .i64 0,.int .i64 0,.int .i64 0,.int .i64 0,.int .i64 0,.int .i64 0,.int .i64 0,.int .i64 0]:List Value).toArray,.int .i64 1]) ?_
    refine tkm 4 15 (.agg ([.slice none 0 0,.int .i64 0,.int .i64 0,.int .i64 0,.slice none 0 0,.int .i64 0,.int .i64 0,.int .i64 0,.slice none 0 0,.int .i64 0,.int .i64 0,.int .i64 0,.int .i64 0,.int .i64 0,.int .i64 0,.int .i64 0,.int .i64 0,.int .i64 0]:List Value).toArray) ?_
    refine tkm 5 16 (.int .i64 1) ?_
  rotate_left 2
  focus
   have hal:Below V0.heap.size V0 (V0.alloc (.cells #[.slice none 0 0,.int .i64 0,.int .i64 0,.int .i64 0,.slice none 0 0,.int .i64 0,.int .i64 0,.int .i64 0,.slice none 0 0,.int .i64 0,.int .i64 0,.int .i64 0,.int .i64 0,.int .i64 0,.int .i64 0,.int .i64 0,.int .i64 0,.int .i64 0] 98)):=by go_grown
   have pX:Blk (V0.alloc (.cells #[.slice none 0 0,.int .i64 0,.int .i64 0,.int .i64 0,.slice none 0 0,.int .i64 0,.int .i64 0,.int .i64 0,.slice none 0 0,.int .i64 0,.int .i64 0,.int .i64 0,.int .i64 0,.int .i64 0,.int .i64 0,.int .i64 0,.int .i64 0,.int .i64 0] 98)) V0.heap.size 98 [.slice none 0 0,.int .i64 0,.int .i64 0,.int .i64 0,.slice none 0 0,.int .i64 0,.int .i64 0,.int .i64 0,.slice none 0 0,.int .i64 0,.int .i64 0,.int .i64 0,.int .i64 0,.int .i64 0,.int .i64 0,.int .i64 0,.int .i64 0,.int .i64 0]:=Zj _ _ _ rfl
   have hX1:V0.heap.size≤V0.heap.size:=bt.size
   skip
   replace bt:=Zb bt hal
   go_simp
   refine hK.out _ _ (Za hal _ _ hS0) (fun hS1=>?_)
   clear hK hal
   generalize (V0.alloc (.cells #[.slice none 0 0,.int .i64 0,.int .i64 0,.int .i64 0,.slice none 0 0,.int .i64 0,.int .i64 0,.int .i64 0,.slice none 0 0,.int .i64 0,.int .i64 0,.int .i64 0,.int .i64 0,.int .i64 0,.int .i64 0,.int .i64 0,.int .i64 0,.int .i64 0] 98))=V1 at *
   obtain ⟨X,hX⟩:∃ X,X=V0.heap.size:=⟨_,rfl⟩
   rw [← hX] at pX ⊢
   replace hX1:V0.heap.size≤X:=by rw [hX];exact hX1
   clear hX
   try simp only [Act.put,tka,tkb,tkc]
   refine tkr 1 13 (fun K hK=>?_)
   have kx:=YZ V1
   go_simp
   refine kx.mono ?_
   rintro e V2 ⟨⟨⟨⟨t0a,t0n,t0c⟩,⟨t1a,t1n,t1c⟩,⟨t2a,t2n,t2c⟩,⟨t3a,t3n,t3c⟩⟩,rfl,hOv⟩,hb1⟩
   have ut:S4.val ((t0a,t0n,t0c),(t1a,t1n,t1c),(t2a,t2n,t2c),(t3a,t3n,t3c))=.agg #[.slice t0a t0n t0c,.slice t1a t1n t1c,.slice t2a t2n t2c,.slice t3a t3n t3c]:=rfl
   rw [ut]
   have hVm:=hOv.mem (YC ZJ).1
   replace bt:=Zb bt hb1
   replace pX:=pX.below hb1
   go_wp2_with fail
   refine hK.out _ _ (Za hb1 _ _ hS1) (fun hS2=>?_)
   clear hK kx hOv hb1
   try simp only [Act.put,tka,tkb,tkc]
   refine tkr 2 14 (fun K hK=>?_)
   have kx:=kM V2 ((t0a,t0n,t0c),(t1a,t1n,t1c),(t2a,t2n,t2c),(t3a,t3n,t3c)) (Zb bw bt) hVm
   rw [ut] at kx
   go_simp
   refine kx.mono ?_
   rintro e V3 ⟨rfl,hb2⟩
   replace bt:=Zb bt hb2
   replace pX:=pX.below hb2
   go_wp2_with fail
   refine hK.out _ _ (Za hb2 _ _ hS2) (fun hS3=>?_)
   clear hK kx hVm ut hb2
   try simp only [Act.put,tka,tkb,tkc]
   refine tkm 3 11 (.tuple #[.agg ([.slice none 0 0,.int .i64 0,.int .i64 0,.int .i64 0,.slice none 0 0,.int .i64 0,.int .i64 0,.int .i64 0,.slice none 0 0,.int .i64 0,.int .i64 0,.int .i64 0,.int .i64 0,.int .i64 0,.int .i64 0,.int .i64 0,.int .i64 0,.int .i64 0]:List Value).toArray,.int .i64 1]) ?_
   refine tkm 4 15 (.agg ([.slice none 0 0,.int .i64 0,.int .i64 0,.int .i64 0,.slice none 0 0,.int .i64 0,.int .i64 0,.int .i64 0,.slice none 0 0,.int .i64 0,.int .i64 0,.int .i64 0,.int .i64 0,.int .i64 0,.int .i64 0,.int .i64 0,.int .i64 0,.int .i64 0]:List Value).toArray) ?_
   refine tkm 5 16 (.int .i64 1) ?_
  all_goals
   refine tkz 7 (fun K hK=>?_)
   refine Zq rfl 98 _ _ rfl X ([.slice none 0 0,.int .i64 0,.int .i64 0,.int .i64 0,.slice none 0 0,.int .i64 0,.int .i64 0,.int .i64 0,.slice none 0 0,.int .i64 0,.int .i64 0,.int .i64 0,.int .i64 0,.int .i64 0,.int .i64 0,.int .i64 0,.int .i64 0,.int .i64 0]:List Value) rfl rfl pX (by kernel_rfl) rfl rfl ?_
   intro V9 p9 g9
   have hXP:X≠w.heap.size:=by have:=pPV.lt;omega
   refine hK.out _ _ (Zp g9 hS3 (fun e=>hXP (by injection e with e;exact e.symm))) (fun hS9=>?_)
   clear hK
   try simp only [Act.put,tka,tkb,tkc]
   refine tkm 8 8 (.int .i64 1) ?_
   refine wpAnyH_done (by kernel_rfl) ?_ _
   have HQ:Hid (NN U0 V9 ([.slice none 0 0,.int .i64 0,.int .i64 0,.int .i64 0,.slice none 0 0,.int .i64 0,.int .i64 0,.int .i64 0,.slice none 0 0,.int .i64 0,.int .i64 0,.int .i64 0,.int .i64 0,.int .i64 0,.int .i64 0,.int .i64 0,.int .i64 0,.int .i64 0]:List Value) 1 (.pointer (some ⟨X,0,none⟩)) (.int .i64 1)):=⟨X,rfl,rfl,p9.out,(Zb hV1 bt).grown g9 (Zb hV1 bt).size (fun q e=>by cases e;exact Nat.le_trans hV1.size hX1),Nat.le_trans hV1.size hX1⟩
   clear p9 g9 pX bt hS9
   go_wp2_with fail
   go_meet
   case rel=>exact HQ.out
 obtain ⟨X,rfl,rfl,pX,b2,hX1⟩:=hcut
 have bz:=Zb bw b2
 replace pR:=pR.below b2
 replace pT:=pT.below b2
 clear pX b2 hX1 bw pP pM kM
 have r0:=pR.cell 0
 have r1:=pR.cell 1
 have s0:=pT.cell 0
 have f0:=pR.frozen 0
 have f1:=pR.frozen 1
 have fs:=pT.frozen 0
 simp only [List.getElem?_cons_zero,List.getElem?_cons_succ] at r0 r1 s0
 go_wp2_with (first | refine Ze rfl 30 _ _ rfl XR [.slice none 0 0,.int .i64 0] rfl rfl pR (by kernel_rfl) rfl rfl ?_)
 intro W3 p3 g3
 have pR3:=p3.out
 have pT3:=pT.kept g3 (fun e=>Z8 pR pT (by decide) (by cases e;rfl))
 have b3:=bz.grown g3 bz.size (fun q e=>by cases e;omega)
 clear p3 g3 r0 r1 s0 f0 f1 fs
 have s0:=pT3.cell 0
 have fs:=pT3.frozen 0
 have r0:=pR3.cell 0
 have r1:=pR3.cell 1
 simp only [List.getElem?_cons_zero,List.getElem?_cons_succ] at s0 r0 r1
 have hne:XR≠XT:=by omega
 have t0:=(pT3.set 0 (.slice none 0 0)).cell 0
 have q0:=(pR3.off ⟨XT,0,none⟩ (.slice none 0 0) hne).cell 0
 have q1:=(pR3.off ⟨XT,0,none⟩ (.slice none 0 0) hne).cell 1
 simp only [List.set_cons_zero,List.getElem?_cons_zero,List.getElem?_cons_succ] at t0 q0 q1
 have b4:=b3.setCell (p:=⟨XT,0,none⟩) (show w.heap.size≤XT by omega) (.slice none 0 0)
 clear pR pT pR3 pT3 b3 bz
 go_wp2
 refine bodyPost_ret (by simp [results,Tryz.results20,go_sem,t0,q0,q1];try rfl) rfl ?_
 exact ⟨Wl.nil9,b4⟩
theorem Du {rows:List (List I3)} {g f:Nat} {m:V4} {es:List E3} (hs:Zc m=true) (he:∀ e ∈ es,e.1.size≤1048576):(Z7 rows g (f+1) m (es,0)).1.1.size≤1048576:=by
 cases h1:isE es (Zt m)
 ·by_cases h2:2000<g+(0+1)
  ·rw [Nz h1 h2]
   show (0:Nat)≤1048576
   omega
  rw [Ny h1 h2]
  show (Zt m).size≤1048576
  rw [X0 hs]
  omega
 rw [Pj h1]
 show (Vz es (Zt m)).1.size≤1048576
 have hi:=h1
 simp only [isE,Bool.and_eq_true,decide_eq_true_eq] at hi
 unfold Vz
 rw [if_pos h1,Y5 hi.1]
 exact he _ (List.getElem_mem _)
theorem TV {w w':World} {g o:Nat} {cs:List Value} (h:w.rangeAt g o cs) (hb:Below w.heap.size w w'):w'.rangeAt g o cs:=fun j v hj=>Za hb _ _ (h j v hj)
def agR (rows:List (List I3)) (es:List E3):E3 × Zy × Bool:=ZG rows 19 Zu (es,0)
def agC (rows:List (List I3)) (es:List E3):Int:=if Zf rows=true∧Yl es=true then (if (agR rows es).2.2=true then 0 else 15) else 1
def agB (rows:List (List I3)) (es:List E3):List I3:=if agC rows es=0 then (agR rows es).1.2.1 else []
def agN (rows:List (List I3)) (es:List E3):Nat:=if agC rows es=0 then (agR rows es).2.1.2 else 0
def agE (rows:List (List I3)) (es:List E3):List E3:=if agC rows es=0 then (agR rows es).2.1.1 else []
theorem G6 {rows:List (List I3)} {es:List E3} (h:¬ (Zf rows=true∧Yl es=true)):agC rows es=1∧agB rows es=[]∧agN rows es=0∧agE rows es=[]:=by
 have e:agC rows es=1:=by unfold agC;rw [if_neg h]
 refine ⟨e,?_,?_,?_⟩<;>simp [agB,agN,agE,e]
theorem DB {rows:List (List I3)} {es:List E3} (h:Zf rows=true∧Yl es=true) (hk:(agR rows es).2.2=false):agC rows es=15∧agB rows es=[]∧agN rows es=0∧agE rows es=[]:=by
 have e:agC rows es=15:=by unfold agC;rw [if_pos h,hk];rfl
 refine ⟨e,?_,?_,?_⟩<;>simp [agB,agN,agE,e]
theorem Bi {rows:List (List I3)} {es:List E3} (h:Zf rows=true∧Yl es=true) (hk:(agR rows es).2.2=true):agC rows es=0∧agB rows es=(agR rows es).1.2.1∧agN rows es=(agR rows es).2.1.2∧agE rows es=(agR rows es).2.1.1:=by
 have e:agC rows es=0:=by unfold agC;rw [if_pos h,if_pos hk]
 refine ⟨e,?_,?_,?_⟩<;>simp [agB,agN,agE,e]
theorem G7 {rows:List (List I3)} (hp:Zf rows=true) {es:List E3} (hok:Yl es=true) :
  (es.length+(Z7 rows es.length 19 Zu (es,0)).2.2≤2000→(agR rows es).2.2=true∧(agR rows es).1.2.1=(Z7 rows es.length 19 Zu (es,0)).1.2.1∧(agR rows es).2.1=(Z7 rows es.length 19 Zu (es,0)).2∧(Z7 rows es.length 19 Zu (es,0)).2.1.length≤2000∧(∀ e ∈ (Z7 rows es.length 19 Zu (es,0)).2.1,YL e∧e.1.size≤1048576)) ∧
  (¬ es.length+(Z7 rows es.length 19 Zu (es,0)).2.2≤2000→(agR rows es).2.2=false):=by
 have hf:ZR rows Zu<19:=Nat.lt_succ_of_le (Wt hp Zu)
 obtain ⟨h1,h2⟩:=LP hp (f:=19) (es:=es) ZJ hf (Ph hok)
 refine ⟨fun h=>?_,h2⟩
 obtain ⟨k1,k2⟩:=h1 h
 have h3:=WK hp 19 Zu (es,0) ZJ (Ph hok) k1
 have h4:=(Tv (g:=es.length) hp 19 Zu (es,0) ZJ (fun e he=>R3 ((Xt.1 hok).1 e he))).2
 refine ⟨k1,by rw [k2];rfl,by rw [k2];rfl,by rw [k2];exact h3.1.few,fun e he=>⟨h4 e he,?_⟩⟩
 rw [k2] at he
 rcases h3.2.2.1 e he with h9 | ⟨s,s1,_,s3⟩
 ·have:=(Td (Wd ((Xt.1 hok).1 e h9)).1).1
  omega
 rw [s3,X0 s1]
 omega
theorem Sz (a:Option Addr) (len cap:Nat) (rows:List (List I3)) (am:Option Addr) (n c:Nat) (L:List EQ) (w:World) (hC:YT w a len cap rows) (hA:Wv w am n c L) (hgd:∀ x ∈ L,US x.2.1.1 x.2.1.2.2) (hV:ZN w) (hp:Zf rows=true) :
  Calls Tryz.prog 20 #[.agg #[.slice a len cap],.agg #[.slice am n c]] w fun x w'=>Wl x w' w.heap.size (agB rows (L.map (·.1))) (agN rows (L.map (·.1))) (agE rows (L.map (·.1))) (agC rows (L.map (·.1)))∧Below w.heap.size w w':=by
 obtain ⟨h3,cs,hR⟩:=hC.rowsAt hp
 clear h3
 have hI:∀ k,k<3→Zr w (slK cs k).1 (slK cs k).2.1 (slK cs k).2.2 (Yg rows k):=fun k hk=>by
  obtain ⟨b,off,_,_,h9⟩:=hR
  exact (h9 k hk).2
 have hnl:n=(L.map (·.1)).length:=by rw [List.length_map];exact hA.1.symm
 have kM:=fun (W:World) (t:S4) (hb:Below w.heap.size w W) (h:Xd W t Zu)=>(Ux a len cap rows t Zu W (hC.below hb) h (hV.below hb) hp ZJ).mono (fun x w' (h9:(∃ cs',x=.returned (.tuple #[.agg (Zi cs'.1.val cs'.2.1.val cs'.2.2.val Zu).toArray,.int .i64 0])∧Yi W a cs' rows)∧Below W.heap.size W w')=>(show x=.returned (.tuple #[.agg (Zi cs.1.val cs.2.1.val cs.2.2.val Zu).toArray,.int .i64 0])∧Below W.heap.size W w' from by
  obtain ⟨⟨cs',rfl,hR'⟩,hb9⟩:=h9
  obtain rfl:=(hR.below hb).uniq hR'
  exact ⟨rfl,hb9⟩))
 have kO:=fun W (hb:Below w.heap.size w W)=>VT am n c (L.map (·.1)) W (hA.ents.below hb) (hV.below hb)
 obtain ⟨mo,hmo⟩:∃ mo,mo=Yl (L.map (·.1)):=⟨_,rfl⟩
 rw [← hmo] at kO
 have HMO:Hid (mo=Yl (L.map (·.1))):=hmo
 have HN:Hid (n=(L.map (·.1)).length):=hnl
 clear hmo hnl
 have hNot:=G6 (rows:=rows) (es:=L.map (·.1))
 have hFull:=DB (rows:=rows) (es:=L.map (·.1))
 have hOk:=Bi (rows:=rows) (es:=L.map (·.1))
 have hVis:=fun hok=>G7 hp (es:=L.map (·.1)) hok
 obtain ⟨bz0,hbz⟩:∃ x,x=agB rows (L.map (·.1)):=⟨_,rfl⟩
 obtain ⟨nz0,hnz⟩:∃ x,x=agN rows (L.map (·.1)):=⟨_,rfl⟩
 obtain ⟨ez0,hez⟩:∃ x,x=agE rows (L.map (·.1)):=⟨_,rfl⟩
 obtain ⟨cz0,hcz⟩:∃ x,x=agC rows (L.map (·.1)):=⟨_,rfl⟩
 rw [← hbz,← hnz,← hez,← hcz] at hNot hFull hOk ⊢
 have HNOT:Hid (_→_):=hNot
 have HFULL:Hid (_→_→_):=hFull
 have HOK:Hid (_→_→_):=hOk
 have HVIS:Hid (∀ _,_):=hVis
 clear hNot hFull hOk hVis hbz hnz hez hcz
 have bw:Below w.heap.size w ((((w.alloc (.cells #[.slice a len cap] 25)).alloc (.cells #[.slice am n c] 33)).alloc (.cells #[.slice none 0 0,.int .i64 0] 30)).alloc (.cells #[.slice none 0 0] 33)):=by go_grown
 have pP:Blk ((((w.alloc (.cells #[.slice a len cap] 25)).alloc (.cells #[.slice am n c] 33)).alloc (.cells #[.slice none 0 0,.int .i64 0] 30)).alloc (.cells #[.slice none 0 0] 33)) w.heap.size 25 [.slice a len cap]:=Zl _ (Zl _ (Zl _ (Zj _ _ _ rfl)))
 have pM:Blk ((((w.alloc (.cells #[.slice a len cap] 25)).alloc (.cells #[.slice am n c] 33)).alloc (.cells #[.slice none 0 0,.int .i64 0] 30)).alloc (.cells #[.slice none 0 0] 33)) (w.heap.size+1) 33 [.slice am n c]:=Zl _ (Zl _ (Zj _ _ _ (by simp)))
 have pR:Blk ((((w.alloc (.cells #[.slice a len cap] 25)).alloc (.cells #[.slice am n c] 33)).alloc (.cells #[.slice none 0 0,.int .i64 0] 30)).alloc (.cells #[.slice none 0 0] 33)) (w.heap.size+1+1) 30 [.slice none 0 0,.int .i64 0]:=Zl _ (Zj _ _ _ (by simp))
 have pT:Blk ((((w.alloc (.cells #[.slice a len cap] 25)).alloc (.cells #[.slice am n c] 33)).alloc (.cells #[.slice none 0 0,.int .i64 0] 30)).alloc (.cells #[.slice none 0 0] 33)) (w.heap.size+1+1+1) 33 [.slice none 0 0]:=Zj _ _ _ (by simp)
 go_enter Tryz.func20,Tryz.ntmps20
 go_wp2_with fail
 generalize ((((w.alloc (.cells #[.slice a len cap] 25)).alloc (.cells #[.slice am n c] 33)).alloc (.cells #[.slice none 0 0,.int .i64 0] 30)).alloc (.cells #[.slice none 0 0] 33))=U0 at *
 obtain ⟨XR,hXR⟩:∃ XR,XR=w.heap.size+1+1:=⟨_,rfl⟩
 obtain ⟨XT,hXT⟩:∃ XT,XT=w.heap.size+1+1+1:=⟨_,rfl⟩
 rw [← hXT] at pT ⊢
 rw [← hXR] at pR ⊢
 have hXRw:w.heap.size<XR:=by omega
 have hXTw:XR<XT:=by omega
 clear hXR hXT
 go_cut [7,8] from 11 to 16 (fun s7 s8 W=>NN U0 W (Zi cs.1.val cs.2.1.val cs.2.2.val Zu) 0 s7 s8)
 case first =>
  clear HNOT HFULL HOK HVIS HMO HN kO
  refine wp_region_held_drew (S:=(fun w'=>w'.cell? ⟨w.heap.size,0,none⟩=some (.slice a len cap))) (by kernel_rfl) (by simpa using pP.cell 0) (fun hS0=>?_)
  have hV1:Below U0.heap.size U0 U0.drew:=by go_grown
  have pPV:=pP.below hV1
  refine tkm 0 12 (.agg #[.slice a len cap]) ?_
  replace bw:=Zb bw hV1
  generalize hV0:U0.drew=V0 at *
  have bt:Below V0.heap.size V0 V0:=Below.refl _ _
  clear hV0
  refine wpAnyH_ready (rs:=[1,6]) (by kernel_rfl) (by simp) ?_
  refine AllReadyH.cons (o:=⟨some 13,_,_,_,_,_⟩) rfl (fun K hK=>?_) (AllReadyH.cons (o:=⟨some 7,_,_,_,_,_⟩) rfl (fun K hK=>?_) AllReadyH.nil)
  focus
   have kx:=YZ V0
   go_simp
   refine kx.mono ?_
   rintro e V1 ⟨⟨⟨⟨t0a,t0n,t0c⟩,⟨t1a,t1n,t1c⟩,⟨t2a,t2n,t2c⟩,⟨t3a,t3n,t3c⟩⟩,rfl,hOv⟩,hb1⟩
   have ut:S4.val ((t0a,t0n,t0c),(t1a,t1n,t1c),(t2a,t2n,t2c),(t3a,t3n,t3c))=.agg #[.slice t0a t0n t0c,.slice t1a t1n t1c,.slice t2a t2n t2c,.slice t3a t3n t3c]:=rfl
   rw [ut]
   have hVm:=hOv.mem (YC ZJ).1
   replace bt:=Zb bt hb1
   skip
   go_wp2_with fail
   refine hK.out _ _ (Za hb1 _ _ hS0) (fun hS1=>?_)
   clear hK kx hOv hb1
   try simp only [Act.put,tka,tkb,tkc]
   refine wpAnyH_ready (rs:=[2,6]) (by kernel_rfl) (by simp) ?_
   refine AllReadyH.cons (o:=⟨some 14,_,_,_,_,_⟩) rfl (fun K hK=>?_) (AllReadyH.cons (o:=⟨some 7,_,_,_,_,_⟩) rfl (fun K hK=>?_) AllReadyH.nil)
   focus
    have kx:=kM V1 ((t0a,t0n,t0c),(t1a,t1n,t1c),(t2a,t2n,t2c),(t3a,t3n,t3c)) (Zb bw bt) hVm
    rw [ut] at kx
    go_simp
    refine kx.mono ?_
    rintro e V2 ⟨rfl,hb2⟩
    replace bt:=Zb bt hb2
    skip
    go_wp2_with fail
    refine hK.out _ _ (Za hb2 _ _ hS1) (fun hS2=>?_)
    clear hK kx hVm ut hb2
    try simp only [Act.put,tka,tkb,tkc]
    refine tkm 3 11 (.tuple #[.agg (Zi cs.1.val cs.2.1.val cs.2.2.val Zu).toArray,.int .i64 0]) ?_
    refine tkm 4 15 (.agg (Zi cs.1.val cs.2.1.val cs.2.2.val Zu).toArray) ?_
    refine tkm 5 16 (.int .i64 0) ?_
    refine tkr 6 7 (fun K hK=>?_)
    have hal:Below V2.heap.size V2 (V2.alloc (.cells #[.slice none 0 0,.int .i64 0,.int .i64 0,.int .i64 0,.slice none 0 0,.int .i64 0,.int .i64 0,.int .i64 0,.slice none 0 0,.int .i64 0,.int .i64 0,.int .i64 0,.int .i64 0,.int .i64 0,.int .i64 0,.int .i64 0,.int .i64 0,.int .i64 0] 98)):=by go_grown
    have pX:Blk (V2.alloc (.cells #[.slice none 0 0,.int .i64 0,.int .i64 0,.int .i64 0,.slice none 0 0,.int .i64 0,.int .i64 0,.int .i64 0,.slice none 0 0,.int .i64 0,.int .i64 0,.int .i64 0,.int .i64 0,.int .i64 0,.int .i64 0,.int .i64 0,.int .i64 0,.int .i64 0] 98)) V2.heap.size 98 [.slice none 0 0,.int .i64 0,.int .i64 0,.int .i64 0,.slice none 0 0,.int .i64 0,.int .i64 0,.int .i64 0,.slice none 0 0,.int .i64 0,.int .i64 0,.int .i64 0,.int .i64 0,.int .i64 0,.int .i64 0,.int .i64 0,.int .i64 0,.int .i64 0]:=Zj _ _ _ rfl
    have hX1:V0.heap.size≤V2.heap.size:=bt.size
    skip
    replace bt:=Zb bt hal
    go_simp
    refine hK.out _ _ (Za hal _ _ hS2) (fun hS3=>?_)
    clear hK hal
    generalize (V2.alloc (.cells #[.slice none 0 0,.int .i64 0,.int .i64 0,.int .i64 0,.slice none 0 0,.int .i64 0,.int .i64 0,.int .i64 0,.slice none 0 0,.int .i64 0,.int .i64 0,.int .i64 0,.int .i64 0,.int .i64 0,.int .i64 0,.int .i64 0,.int .i64 0,.int .i64 0] 98))=V3 at *
    obtain ⟨X,hX⟩:∃ X,X=V2.heap.size:=⟨_,rfl⟩
    rw [← hX] at pX ⊢
    replace hX1:V0.heap.size≤X:=by rw [hX];exact hX1
    clear hX
    try simp only [Act.put,tka,tkb,tkc]
   rotate_left
   focus
    have hal:Below V1.heap.size V1 (V1.alloc (.cells #[.slice none 0 0,.int .i64 0,.int .i64 0,.int .i64 0,.slice none 0 0,.int .i64 0,.int .i64 0,.int .i64 0,.slice none 0 0,.int .i64 0,.int .i64 0,.int .i64 0,.int .i64 0,.int .i64 0,.int .i64 0,.int .i64 0,.int .i64 0,.int .i64 0] 98)):=by go_grown
    have pX:Blk (V1.alloc (.cells #[.slice none 0 0,.int .i64 0,.int .i64 0,.int .i64 0,.slice none 0 0,.int .i64 0,.int .i64 0,.int .i64 0,.slice none 0 0,.int .i64 0,.int .i64 0,.int .i64 0,.int .i64 0,.int .i64 0,.int .i64 0,.int .i64 0,.int .i64 0,.int .i64 0] 98)) V1.heap.size 98 [.slice none 0 0,.int .i64 0,.int .i64 0,.int .i64 0,.slice none 0 0,.int .i64 0,.int .i64 0,.int .i64 0,.slice none 0 0,.int .i64 0,.int .i64 0,.int .i64 0,.int .i64 0,.int .i64 0,.int .i64 0,.int .i64 0,.int .i64 0,.int .i64 0]:=Zj _ _ _ rfl
    have hX1:V0.heap.size≤V1.heap.size:=bt.size
    replace hVm:=hVm.below hal
    replace bt:=Zb bt hal
    go_simp
    refine hK.out _ _ (Za hal _ _ hS1) (fun hS2=>?_)
    clear hK hal
    generalize (V1.alloc (.cells #[.slice none 0 0,.int .i64 0,.int .i64 0,.int .i64 0,.slice none 0 0,.int .i64 0,.int .i64 0,.int .i64 0,.slice none 0 0,.int .i64 0,.int .i64 0,.int .i64 0,.int .i64 0,.int .i64 0,.int .i64 0,.int .i64 0,.int .i64 0,.int .i64 0] 98))=V2 at *
    obtain ⟨X,hX⟩:∃ X,X=V1.heap.size:=⟨_,rfl⟩
    rw [← hX] at pX ⊢
    replace hX1:V0.heap.size≤X:=by rw [hX];exact hX1
    clear hX
    try simp only [Act.put,tka,tkb,tkc]
    refine tkr 2 14 (fun K hK=>?_)
    have kx:=kM V2 ((t0a,t0n,t0c),(t1a,t1n,t1c),(t2a,t2n,t2c),(t3a,t3n,t3c)) (Zb bw bt) hVm
    rw [ut] at kx
    go_simp
    refine kx.mono ?_
    rintro e V3 ⟨rfl,hb2⟩
    replace bt:=Zb bt hb2
    replace pX:=pX.below hb2
    go_wp2_with fail
    refine hK.out _ _ (Za hb2 _ _ hS2) (fun hS3=>?_)
    clear hK kx hVm ut hb2
    try simp only [Act.put,tka,tkb,tkc]
    refine tkm 3 11 (.tuple #[.agg (Zi cs.1.val cs.2.1.val cs.2.2.val Zu).toArray,.int .i64 0]) ?_
    refine tkm 4 15 (.agg (Zi cs.1.val cs.2.1.val cs.2.2.val Zu).toArray) ?_
    refine tkm 5 16 (.int .i64 0) ?_
  rotate_left 2
  focus
   have hal:Below V0.heap.size V0 (V0.alloc (.cells #[.slice none 0 0,.int .i64 0,.int .i64 0,.int .i64 0,.slice none 0 0,.int .i64 0,.int .i64 0,.int .i64 0,.slice none 0 0,.int .i64 0,.int .i64 0,.int .i64 0,.int .i64 0,.int .i64 0,.int .i64 0,.int .i64 0,.int .i64 0,.int .i64 0] 98)):=by go_grown
   have pX:Blk (V0.alloc (.cells #[.slice none 0 0,.int .i64 0,.int .i64 0,.int .i64 0,.slice none 0 0,.int .i64 0,.int .i64 0,.int .i64 0,.slice none 0 0,.int .i64 0,.int .i64 0,.int .i64 0,.int .i64 0,.int .i64 0,.int .i64 0,.int .i64 0,.int .i64 0,.int .i64 0] 98)) V0.heap.size 98 [.slice none 0 0,.int .i64 0,.int .i64 0,.int .i64 0,.slice none 0 0,.int .i64 0,.int .i64 0,.int .i64 0,.slice none 0 0,.int .i64 0,.int .i64 0,.int .i64 0,.int .i64 0,.int .i64 0,.int .i64 0,.int .i64 0,.int .i64 0,.int .i64 0]:=Zj _ _ _ rfl
   have hX1:V0.heap.size≤V0.heap.size:=bt.size
   skip
   replace bt:=Zb bt hal
   go_simp
   refine hK.out _ _ (Za hal _ _ hS0) (fun hS1=>?_)
   clear hK hal
   generalize (V0.alloc (.cells #[.slice none 0 0,.int .i64 0,.int .i64 0,.int .i64 0,.slice none 0 0,.int .i64 0,.int .i64 0,.int .i64 0,.slice none 0 0,.int .i64 0,.int .i64 0,.int .i64 0,.int .i64 0,.int .i64 0,.int .i64 0,.int .i64 0,.int .i64 0,.int .i64 0] 98))=V1 at *
   obtain ⟨X,hX⟩:∃ X,X=V0.heap.size:=⟨_,rfl⟩
   rw [← hX] at pX ⊢
   replace hX1:V0.heap.size≤X:=by rw [hX];exact hX1
   clear hX
   try simp only [Act.put,tka,tkb,tkc]
   refine tkr 1 13 (fun K hK=>?_)
   have kx:=YZ V1
   go_simp
   refine kx.mono ?_
   rintro e V2 ⟨⟨⟨⟨t0a,t0n,t0c⟩,⟨t1a,t1n,t1c⟩,⟨t2a,t2n,t2c⟩,⟨t3a,t3n,t3c⟩⟩,rfl,hOv⟩,hb1⟩
   have ut:S4.val ((t0a,t0n,t0c),(t1a,t1n,t1c),(t2a,t2n,t2c),(t3a,t3n,t3c))=.agg #[.slice t0a t0n t0c,.slice t1a t1n t1c,.slice t2a t2n t2c,.slice t3a t3n t3c]:=rfl
   rw [ut]
   have hVm:=hOv.mem (YC ZJ).1
   replace bt:=Zb bt hb1
   replace pX:=pX.below hb1
   go_wp2_with fail
   refine hK.out _ _ (Za hb1 _ _ hS1) (fun hS2=>?_)
   clear hK kx hOv hb1
   try simp only [Act.put,tka,tkb,tkc]
   refine tkr 2 14 (fun K hK=>?_)
   have kx:=kM V2 ((t0a,t0n,t0c),(t1a,t1n,t1c),(t2a,t2n,t2c),(t3a,t3n,t3c)) (Zb bw bt) hVm
   rw [ut] at kx
   go_simp
   refine kx.mono ?_
   rintro e V3 ⟨rfl,hb2⟩
   replace bt:=Zb bt hb2
   replace pX:=pX.below hb2
   go_wp2_with fail
   refine hK.out _ _ (Za hb2 _ _ hS2) (fun hS3=>?_)
   clear hK kx hVm ut hb2
   try simp only [Act.put,tka,tkb,tkc]
   refine tkm 3 11 (.tuple #[.agg (Zi cs.1.val cs.2.1.val cs.2.2.val Zu).toArray,.int .i64 0]) ?_
   refine tkm 4 15 (.agg (Zi cs.1.val cs.2.1.val cs.2.2.val Zu).toArray) ?_
   refine tkm 5 16 (.int .i64 0) ?_
  all_goals
   refine tkz 7 (fun K hK=>?_)
   refine Zq rfl 98 _ _ rfl X (Zi cs.1.val cs.2.1.val cs.2.2.val Zu) rfl rfl pX (by kernel_rfl) rfl rfl ?_
   intro V9 p9 g9
   have hXP:X≠w.heap.size:=by have:=pPV.lt;omega
   refine hK.out _ _ (Zp g9 hS3 (fun e=>hXP (by injection e with e;exact e.symm))) (fun hS9=>?_)
   clear hK
   try simp only [Act.put,tka,tkb,tkc]
   refine tkm 8 8 (.int .i64 0) ?_
   refine wpAnyH_done (by kernel_rfl) ?_ _
   have HQ:Hid (NN U0 V9 (Zi cs.1.val cs.2.1.val cs.2.2.val Zu) 0 (.pointer (some ⟨X,0,none⟩)) (.int .i64 0)):=⟨X,rfl,rfl,p9.out,(Zb hV1 bt).grown g9 (Zb hV1 bt).size (fun q e=>by cases e;exact Nat.le_trans hV1.size hX1),Nat.le_trans hV1.size hX1⟩
   clear p9 g9 pX bt hS9
   go_wp2_with fail
   go_meet
   case rel=>exact HQ.out
 obtain ⟨X,rfl,rfl,pX,b2,hX1⟩:=hcut
 have bz:=Zb bw b2
 replace pR:=pR.below b2
 replace pT:=pT.below b2
 replace pM:=pM.below b2
 clear b2 hX1 bw pP kM
 have kOx:=kO _ bz
 have m0:=pM.cell 0
 simp only [List.getElem?_cons_zero] at m0
 go_wp2_with fail
 refine kOx.mono ?_
 rintro e w2 ⟨rfl,hb⟩
 replace bz:=Zb bz hb
 replace pR:=pR.below hb
 replace pT:=pT.below hb
 replace pM:=pM.below hb
 replace pX:=pX.below hb
 clear kO kOx hb m0
 cases mo
 ·obtain ⟨rfl,rfl,rfl,rfl⟩:=HNOT.out (fun h9=>by have h8:=HMO.out;rw [h9.2] at h8;cases h8)
  clear HNOT HFULL HOK HVIS HMO HN pM pX
  have r0:=pR.cell 0
  have r1:=pR.cell 1
  have s0:=pT.cell 0
  have f0:=pR.frozen 0
  have f1:=pR.frozen 1
  have fs:=pT.frozen 0
  simp only [List.getElem?_cons_zero,List.getElem?_cons_succ] at r0 r1 s0
  go_wp2_with (first | refine Ze rfl 30 _ _ rfl XR [.slice none 0 0,.int .i64 0] rfl rfl pR (by kernel_rfl) rfl rfl ?_)
  intro W3 p3 g3
  have pR3:=p3.out
  have pT3:=pT.kept g3 (fun e=>Z8 pR pT (by decide) (by cases e;rfl))
  have b3:=bz.grown g3 bz.size (fun q e=>by cases e;omega)
  clear p3 g3 r0 r1 s0 f0 f1 fs
  have s0:=pT3.cell 0
  have fs:=pT3.frozen 0
  have r0:=pR3.cell 0
  have r1:=pR3.cell 1
  simp only [List.getElem?_cons_zero,List.getElem?_cons_succ] at s0 r0 r1
  have hne:XR≠XT:=by omega
  have t0:=(pT3.set 0 (.slice none 0 0)).cell 0
  have q0:=(pR3.off ⟨XT,0,none⟩ (.slice none 0 0) hne).cell 0
  have q1:=(pR3.off ⟨XT,0,none⟩ (.slice none 0 0) hne).cell 1
  simp only [List.set_cons_zero,List.getElem?_cons_zero,List.getElem?_cons_succ] at t0 q0 q1
  have b4:=b3.setCell (p:=⟨XT,0,none⟩) (show w.heap.size≤XT by omega) (.slice none 0 0)
  clear pR pT pR3 pT3 b3 bz
  go_wp2
  refine bodyPost_ret (by simp [results,Tryz.results20,go_sem,t0,q0,q1];try rfl) rfl ?_
  exact ⟨Wl.nil9,b4⟩
 have hok:Yl (L.map (·.1))=true:=HMO.out.symm
 have hpm:Zf rows=true∧Yl (L.map (·.1))=true:=⟨hp,hok⟩
 have hn2:n≤2000:=by have:=WB hok;rw [HN.out];exact this
 have kF:=Uq am n c L w2 (hA.below bz) hok
 have m0:=pM.cell 0
 simp only [List.getElem?_cons_zero] at m0
 go_wp2_with fail
 refine kF.mono ?_
 rintro e w3 ⟨⟨nb,D,rfl,hm,hG,hBn⟩,hb⟩
 have hnb:=Nat.le_trans bz.size hBn
 replace bz:=Zb bz hb
 replace pR:=pR.below hb
 replace pT:=pT.below hb
 replace pX:=pX.below hb
 clear kF hb hBn m0 pM
 have pN:=Blk.new w3 108 [.map none,.int .i64 0,.int .i64 0]
 have hbN:Below w3.heap.size w3 (w3.alloc (.cells #[.map none,.int .i64 0,.int .i64 0] 108)):=by go_grown
 have hmN:=hm.alloc (.cells #[.map none,.int .i64 0,.int .i64 0] 108)
 have hmlt:=hm.lt
 go_wp2_with (refine Ze rfl 108 _ _ rfl w3.heap.size [.map (some nb),.int .i64 (n:Int),.int .i64 0] rfl rfl pN (by kernel_rfl) rfl rfl ?_)
 intro w4 p4 g4
 have pC:=p4.out
 have b4:Below w3.heap.size w3 w4:=hbN.grown g4 hbN.size (fun q e=>by cases e;exact Nat.le_refl _)
 have hm4:=hmN.kept g4 (by simp;omega)
 have hw3:=bz.size
 replace bz:=Zb bz b4
 replace pR:=pR.below b4
 replace pT:=pT.below b4
 replace pX:=pX.below b4
 clear p4 g4 b4 hbN pN hm hmN
 obtain ⟨C,hCC⟩:∃ C,C=w3.heap.size:=⟨_,rfl⟩
 rw [← hCC] at pC ⊢
 have hCw:w.heap.size≤C:=by omega
 clear hCC hmlt
 have oc:OnC w w4 C nb n n L 0:=⟨bz,pC,⟨D,hm4,hG⟩,fun x hx=>⟨(hA.2.2.2.1 x hx).below bz,hgd x hx,fun j hj=>by have:=((hA.2.2.2.1 x hx).blk11 hj).1;omega⟩,hCw,hnb⟩
 clear pC hm4 hG hnb hw3
 have hlf:ZR rows Zu<19:=Nat.lt_succ_of_le (Wt hp Zu)
 have k1:=Ty (g:=n) (w0:=w) (C:=C) (nb:=nb) (cs:=cs) hp hn2 hV hI 19 Zu (L.map (·.1),0) n L w4 ZJ hlf (fun e he=>R3 ((Xt.1 hok).1 e he)) (by show 0+UJ 19≤600000000;rw [Nu];omega) (Nat.le_refl _) rfl oc
 have HV9:=HVIS.out hok
 rw [← HN.out] at HV9
 have htop:=Tw (rows:=rows) (g:=n) 19 Zu (L.map (·.1),0)
 rw [Nu] at htop
 go_wp2_with (refine Zd rfl 98 _ rfl X rfl pX _ Tryz.underlying98 rfl (by kernel_rfl) ?_)
 refine k1.mono ?_
 rintro e w5 ⟨⟨⟨ba,bn,bc⟩,⟨za,zn,zc⟩⟩,L2,n2,rfl,hEm,hOff,hEs,oc2,lm2,nn2,old2,kp2⟩
 clear k1 HVIS
 have HER:=(Tv (g:=n) hp 19 Zu (L.map (·.1),0) ZJ (fun e he=>R3 ((Xt.1 hok).1 e he))).1
 have HKS:=Du (rows:=rows) (g:=n) (m:=Zu) (f:=18) (es:=L.map (·.1)) ZJ (fun e he=>by have:=(Td (Wd ((Xt.1 hok).1 e he)).1).1;omega)
 generalize Z7 rows n 19 Zu (L.map (·.1),0)=R at *
 obtain ⟨⟨ek,eb,ez⟩,st1⟩:=R
 simp only at hEm oc2 lm2 nn2 htop HV9
 simp only at HER HKS
 replace HER:Hid (YL (ek,eb,ez)):=HER
 replace HKS:Hid (ek.size≤1048576):=HKS
 obtain ⟨HV1,HV2⟩:=HV9
 have HV1h:Hid (_→_):=HV1
 have HV2h:Hid (_→_):=HV2
 clear HV1 HV2
 have uE:ZW ek ((ba,bn,bc),(za,zn,zc))=.agg #[.string ek,.slice ba bn bc,.slice za zn zc]:=rfl
 simp only [uE]
 clear uE
 replace pR:=kp2.blk pR (Z8 pR oc.box (by decide)) (oc.noblk pR)
 replace pT:=kp2.blk pT (Z8 pT oc.box (by decide)) (oc.noblk pT)
 clear oc hEs old2 kp2 pX bz
 have pN:=Blk.new w5 45 [.string ⟨#[]⟩,.slice none 0 0,.slice none 0 0]
 have hbN:Below w5.heap.size w5 (w5.alloc (.cells #[.string ⟨#[]⟩,.slice none 0 0,.slice none 0 0] 45)):=by go_grown
 go_wp2_with (refine Ze rfl 45 _ _ rfl w5.heap.size [.string ek,.slice ba bn bc,.slice za zn zc] rfl rfl pN (by kernel_rfl) rfl rfl ?_)
 intro w6 p6 g6
 have pY:=p6.out
 have b6:Below w5.heap.size w5 w6:=hbN.grown g6 hbN.size (fun q e=>by cases e;exact Nat.le_refl _)
 replace oc2:=oc2.below b6
 replace pR:=pR.below b6
 replace pT:=pT.below b6
 replace hEm:=hEm.below b6
 clear p6 g6 hbN pN b6
 obtain ⟨Y,hYY⟩:∃ Y,Y=w5.heap.size:=⟨_,rfl⟩
 rw [← hYY] at pY ⊢
 clear hYY
 have kOv:=Qa n st1.2 oc2.box (by omega)
 go_wp2_with fail
 refine kOv.mono ?_
 rintro e w7 ⟨rfl,hb⟩
 replace oc2:=oc2.below hb
 replace pR:=pR.below hb
 replace pT:=pT.below hb
 replace hEm:=hEm.below hb
 replace pY:=pY.below hb
 clear kOv hb
 have bz:=oc2.base
 by_cases hov:2000<n+st1.2
 ·rw [decide_eq_true hov]
  obtain ⟨rfl,rfl,rfl,rfl⟩:=HFULL.out hpm (HV2h.out (by omega))
  clear HNOT HFULL HOK HMO HN HV1h HV2h oc2 hEm hOff pY lm2
  have r0:=pR.cell 0
  have r1:=pR.cell 1
  have s0:=pT.cell 0
  have f0:=pR.frozen 0
  have f1:=pR.frozen 1
  have fs:=pT.frozen 0
  simp only [List.getElem?_cons_zero,List.getElem?_cons_succ] at r0 r1 s0
  go_wp2_with (first | refine Ze rfl 30 _ _ rfl XR [.slice none 0 0,.int .i64 0] rfl rfl pR (by kernel_rfl) rfl rfl ?_)
  intro W3 p3 g3
  have pR3:=p3.out
  have pT3:=pT.kept g3 (fun e=>Z8 pR pT (by decide) (by cases e;rfl))
  have b3:=bz.grown g3 bz.size (fun q e=>by cases e;omega)
  clear p3 g3 r0 r1 s0 f0 f1 fs
  have s0:=pT3.cell 0
  have fs:=pT3.frozen 0
  have r0:=pR3.cell 0
  have r1:=pR3.cell 1
  simp only [List.getElem?_cons_zero,List.getElem?_cons_succ] at s0 r0 r1
  have hne:XR≠XT:=by omega
  have t0:=(pT3.set 0 (.slice none 0 0)).cell 0
  have q0:=(pR3.off ⟨XT,0,none⟩ (.slice none 0 0) hne).cell 0
  have q1:=(pR3.off ⟨XT,0,none⟩ (.slice none 0 0) hne).cell 1
  simp only [List.set_cons_zero,List.getElem?_cons_zero,List.getElem?_cons_succ] at t0 q0 q1
  have b4:=b3.setCell (p:=⟨XT,0,none⟩) (show w.heap.size≤XT by omega) (.slice none 0 0)
  clear pR pT pR3 pT3 b3 bz
  go_wp2
  refine bodyPost_ret (by simp [results,Tryz.results20,go_sem,t0,q0,q1];try rfl) rfl ?_
  exact ⟨Wl.nil9,b4⟩
 rw [decide_eq_false hov]
 obtain ⟨v1,v2,v3,v4,v5⟩:=HV1h.out (by omega)
 obtain ⟨hc9,hb9,hn9,he9⟩:=HOK.out hpm v1
 rw [v2] at hb9
 rw [v3] at hn9 he9
 have HC9:Hid (cz0=0):=hc9
 have HB9:Hid (bz0=eb):=hb9
 have HN9:Hid (nz0=st1.2):=hn9
 have HE9:Hid (ez0=L2.map (·.1)):=he9.trans lm2.symm
 clear hc9 hb9 hn9 he9 v1 v2 v3 HNOT HFULL HOK HMO HN HV1h HV2h htop
 have HYR:Hid (Y≠XR):=Z8 pY pR (by decide)
 have HYT:Hid (Y≠XT):=Z8 pY pT (by decide)
 have HEB:Hid (eb.length≤1048576∧ez.length≤1048576):=⟨by have:=HER.out.bugs;simp only at this;omega,by have:=HER.out.foot;simp only at this;omega⟩
 have hEnt:∀ x ∈ L2,YL x.1∧x.1.1.size≤1048576:=fun x hx=>v5 x.1 (by rw [← lm2];exact List.mem_map.2 ⟨x,hx,rfl⟩)
 have hLen:L2.length≤2000:=by rw [← lm2,List.length_map] at v4;exact v4
 clear v4 v5 lm2
 have hdr:Below w7.heap.size w7 w7.drew:=by go_grown
 have cC2:=oc2.box.cell 2
 simp only [List.getElem?_cons_zero,List.getElem?_cons_succ] at cC2
 go_wp2_with fail
 refine wp_region_held_drew (S:=(fun w'=>w'.rangeAt Y 0 [.string ek,.slice ba bn bc,.slice za zn zc]∧w'.cell? ⟨C,2,none⟩=some (.int .i64 (st1.2:Int)))) (by kernel_rfl) ⟨Xr pY,cC2⟩ (fun hS0=>?_)
 refine wpAnyH_take (i:=0) (oi:=⟨some 33,_,_,_,_,_⟩) (v:=.agg ([.string ek,.slice ba bn bc,.slice za zn zc]:List Value).toArray) rfl (by kernel_rfl) (by kernel_rfl) (by kernel_rfl) (fun _ _ _ h=>h) (yieldsIf_load_mid (by rfl) 45 _ rfl Y 0 rfl [.string ek,.slice ba bn bc,.slice za zn zc] _ (fun _ h=>h.1) Tryz.underlying45 rfl (by kernel_rfl)) (by assumption) ?_
 simp only [Act.put,tka,tkb,tkc]
 refine tkm 3 36 (.pointer (some ⟨C,2,none⟩)) ?_
 refine tkm 4 37 (.int .i64 (st1.2:Int)) ?_
 replace oc2:=oc2.below hdr
 replace pR:=pR.below hdr
 replace pT:=pT.below hdr
 replace hEm:=hEm.below hdr
 replace pY:=pY.below hdr
 replace bz:=Zb bz hdr
 have hks:ek.size≤1048576:=HKS.out
 generalize w7.drew=V at *
 clear hdr cC2
 have kC:=PK (ek,eb,ez) ((ba,bn,bc),(za,zn,zc)) V hEm HEB.out.1 HEB.out.2 hks
 unfold ZW at kC
 simp only at kC
 refine tkr 1 34 (fun K hK=>?_)
 go_simp
 refine kC.mono ?_
 rintro e V1 ⟨⟨⟨⟨d1,p1,q1⟩,⟨d2,p2,q2⟩⟩,rfl,hOE⟩,hb1⟩
 unfold ZW
 simp only at hOE ⊢
 go_wp2_with fail
 refine hK.out _ _ ⟨TV hS0.1 hb1,Za hb1 _ _ hS0.2⟩ (fun hS1=>?_)
 clear hK kC
 replace oc2:=oc2.below hb1
 replace pR:=pR.below hb1
 replace pT:=pT.below hb1
 have hsV:=bz.size
 replace bz:=Zb bz hb1
 have hbug:V1.ownsRow w.heap.size 103 3 (.slice d1 p1 q1) eb.length (Zn eb):=Yz hOE.1 hsV
 clear hOE hb1 hEm
 try simp only [Act.put,tka,tkb,tkc]
 refine tkm 2 35 (.slice d1 p1 q1) ?_
 refine tkm 5 38 (.agg #[.slice d1 p1 q1,.int .i64 (st1.2:Int)]) ?_
 have kMm:=DW oc2 (by omega) hEnt hLen
 refine tkr 6 39 (fun K hK=>?_)
 go_simp
 refine kMm.mono ?_
 rintro e V2 ⟨⟨vm,rfl,hOM⟩,hb2⟩
 go_wp2_with fail
 refine hK.out _ _ ⟨TV hS1.1 hb2,Za hb2 _ _ hS1.2⟩ (fun hS2=>?_)
 clear hK kMm
 replace oc2:=oc2.below hb2
 replace pR:=pR.below hb2
 replace pT:=pT.below hb2
 replace pY:=hS2
 have hTlow:=bz.size
 have HTB:Hid (∀ j,(Value.slice d1 p1 q1).ownBlock=some j→j<V1.heap.size):=fun j hj=>(Yc hbug hj).2
 generalize V1.heap.size=T9 at hOM hTlow HTB
 replace bz:=Zb bz hb2
 replace hbug:=Z1 hbug hb2
 clear hb2
 obtain ⟨ma,mn,mc,rfl⟩:∃ ma mn mc,vm=.slice ma mn mc:=by
  obtain ⟨cs9,ho9,_⟩:=hOM
  exact Z9 ho9
 try simp only [Act.put,tka,tkb,tkc]
 refine tkz 7 (fun K hK=>?_)
 refine Zq rfl 30 _ _ rfl XR [.slice d1 p1 q1,.int .i64 (st1.2:Int)] rfl rfl pR (by kernel_rfl) rfl rfl ?_
 intro V3 p3 g3
 have hYR:=HYR.out
 have hCR:C≠XR:=fun e=>by have:=Z8 pR oc2.box (by decide);omega
 refine hK.out _ _ ⟨fun j v hj=>Zp g3 (hS2.1 j v hj) (fun e=>hYR (by injection e)),Zp g3 hS2.2 (fun e=>hCR (by injection e))⟩ (fun hS3=>?_)
 clear hK
 have pR3:=p3.out
 have hOM3:=hOM.keptV g3 pR (by decide) (by decide) (by decide)
 have hbug3:=World.ownsRow.kept hbug g3 (.inr (Zk hbug pR (by decide)))
 have pT3:=pT.kept g3 (fun e=>Z8 pR pT (by decide) (by cases e;rfl))
 have bz3:=bz.grown g3 bz.size (fun q e=>by cases e;omega)
 have hCT:C≠XT:=fun e=>by have:=Z8 pT oc2.box (by decide);omega
 have hYT:=HYT.out
 clear p3 g3 hOM hbug pT bz pR oc2
 try simp only [Act.put,tka,tkb,tkc]
 refine tkz 8 (fun K hK=>?_)
 refine Zq rfl 33 _ _ rfl XT [.slice ma mn mc] rfl rfl pT3 (by kernel_rfl) rfl rfl ?_
 intro V4 p4 g4
 refine hK.out _ _ ⟨fun j v hj=>Zp g4 (hS3.1 j v hj) (fun e=>hYT (by injection e)),Zp g4 hS3.2 (fun e=>hCT (by injection e))⟩ (fun hS4=>?_)
 clear hK
 have pT4:=p4.out
 have hOM4:=hOM3.keptV g4 pT3 (by decide) (by decide) (by decide)
 have hbug4:=World.ownsRow.kept hbug3 g4 (.inr (Zk hbug3 pT3 (by decide)))
 have pR4:=pR3.kept g4 (fun e=>Z8 pT3 pR3 (by decide) (by cases e;rfl))
 have bz4:=bz3.grown g4 bz3.size (fun q e=>by cases e;omega)
 try simp only [Act.put,tka,tkb,tkc]
 refine tkm 9 6 (.int .i64 0) ?_
 refine wpAnyH_done (by kernel_rfl) ?_ _
 have q0:=pR4.cell 0
 have q1':=pR4.cell 1
 have t0:=pT4.cell 0
 simp only [List.getElem?_cons_zero,List.getElem?_cons_succ] at q0 q1' t0
 have HG:Hid (Wl (.returned (.tuple #[.agg #[.slice d1 p1 q1,.int .i64 (st1.2:Int)],.agg #[.slice ma mn mc],.int .i64 0])) V4 w.heap.size bz0 nz0 ez0 cz0):=by
  rw [Hid,HB9.out,HN9.out,HE9.out,HC9.out]
  exact ⟨_,_,T9,rfl,hbug4,HTB.out,hOM4,hTlow⟩
 clear p4 g4 hOM3 hOM4 hbug3 hbug4 pT3 pT4 pR3 pR4 bz3 hS0 hS1 hS2 hS3 hS4
 go_wp2
 refine bodyPost_ret (by simp [results,Tryz.results20,go_sem,q0,q1',t0];try rfl) rfl ?_
 exact ⟨HG.out,bz4⟩
end Go.Proofs.YtgmhhegckcionaaGreatDoor
