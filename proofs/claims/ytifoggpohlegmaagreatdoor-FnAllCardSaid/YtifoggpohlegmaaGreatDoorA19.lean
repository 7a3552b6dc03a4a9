/-
  Joined: RunQ, Ev0, Evs, TakM.
-/
import Derived.Test.YtifoggpohlegmaaGreatDoorA12
import Derived.Test.YtifoggpohlegmaaGreatDoorA18

namespace Go.Proofs.YtifoggpohlegmaaGreatDoor
set_option maxRecDepth 100000
set_option maxHeartbeats 16000000
open Go.RowKit
set_option linter.unusedVariables false

theorem step_codeQ (m:V4) (x:I3) (k:Nat):(stepM m x k).2=0∨(stepM m x k).2=12∨(stepM m x k).2=13:=by
 unfold stepM
 repeat' split
 all_goals simp
theorem ownM_ok {rows:List (List I3)} {m:V4} {k:Int} (hp:progOk rows=true) (hs:shapeOk m=true) (hz:haltM rows m k=0):∀ x ∈ ownM rows m k,okB x=true:=by
 obtain ⟨h0,h2,hd,hc⟩:=halt_can hz
 obtain ⟨q,rfl⟩:∃ q:Nat,k=q:=⟨k.toNat,by omega⟩
 rw [Int.toNat_natCast] at hd
 have hq:q<3:=by omega
 obtain ⟨p,ep,hlt,_,_⟩:=at_ins hp hs hq hd
 have hl6:=(codeM_len hp hq).1
 have hf:=step_codeQ m (insM rows m q) q
 intro x hx
 unfold ownM goM at hx
 rw [Int.toNat_natCast] at hx
 split at hx
 ·simp at hx
 ·rename_i h9
  simp only [List.mem_singleton] at hx
  subst hx
  unfold okB
  simp only
  have h12:(stepM m (insM rows m q) q).2=12∨(stepM m (insM rows m q) q).2=13:=by omega
  rw [if_neg (by omega),if_pos h12,ep]
  rw [Bool.and_eq_true]
  exact ⟨inB_true.2 (by omega),inB_true.2 (by omega)⟩
theorem goM_shape {rows:List (List I3)} {m:V4} {k:Int} (hp:progOk rows=true) (hs:shapeOk m=true) (hz:haltM rows m k=0):shapeOk (goM rows m k).1=true:=by
 obtain ⟨h0,h2,hd,hc⟩:=halt_can hz
 exact shape_step hp hs (by omega) hd
theorem runI_ok {rows:List (List I3)} (hp:progOk rows=true):∀ (ks:List Int) (m:V4) (fs:List I3),shapeOk m=true→(∀ x ∈ fs,okB x=true)→shapeOk (runI rows m fs ks).1=true∧∀ x ∈ (runI rows m fs ks).2.1,okB x=true
 | [],m,fs,hs,hf=>⟨hs,hf⟩
 | k::ks,m,fs,hs,hf=>by
  by_cases hz:haltM rows m k=0
  ·have e2:runI rows m fs (k::ks)=runI rows (goM rows m k).1 (fs++ownM rows m k) ks:=by
    show (if haltM rows m k=0 then _ else _)=_
    rw [if_pos hz]
   rw [e2]
   exact runI_ok hp ks _ _ (goM_shape hp hs hz) fun x hx=>(List.mem_append.1 hx).elim (hf x) (ownM_ok hp hs hz x)
  ·have e2:runI rows m fs (k::ks)=(m,fs,haltM rows m k):=by
    show (if haltM rows m k=0 then _ else _)=_
    rw [if_neg hz]
   rw [e2]
   exact ⟨hs,hf⟩
theorem okB_fitsQ {x:I3} (h:okB x=true):I3.fits x:=by
 unfold okB at h
 split at h
 ·rename_i h1
  simp only [Bool.and_eq_true,decide_eq_true_eq] at h
  exact ⟨fits_small (by omega) (by omega),fits_small (by omega) (by omega),fits_small (by omega) (by omega)⟩
 ·split at h
  ·rename_i h1
   rw [Bool.and_eq_true] at h
   have a:=inB_true.1 h.1
   have b:=inB_true.1 h.2
   exact ⟨fits_small (by omega) (by omega),fits_small (by omega) (by omega),fits_small (by omega) (by omega)⟩
  ·cases h
theorem deadM_ok (rows:List (List I3)) (m:V4):∀ x ∈ deadM rows m,okB x=true:=by
 unfold deadM
 split
 ·intro x hx
  simp only [List.mem_singleton] at hx
  subst hx
  rfl
 ·simp

open Go.RowKit Go.ChangeShapes Go.WideShapes Go.Joins
set_option linter.unusedSimpArgs false

abbrev I4:=Int × Int × Int × Int
def I4.val (x:I4):Value:=.agg #[.int .i64 x.1,.int .i64 x.2.1,.int .i64 x.2.2.1,.int .i64 x.2.2.2]


def flat4:List I4→List Value
 | []=>[]
 | x::xs=>[.int .i64 x.1,.int .i64 x.2.1,.int .i64 x.2.2.1,.int .i64 x.2.2.2]++flat4 xs
theorem flat4_snoc (es:List I4) (x:I4):flat4 (es++[x])=flat4 es++[.int .i64 x.1,.int .i64 x.2.1,.int .i64 x.2.2.1,.int .i64 x.2.2.2]:=by
 induction es with
 | nil=>rfl
 | cons y ys ih=>simp only [List.cons_append,flat4,ih,List.append_assoc]
theorem flat4_at:∀ (xs:List I4) (t:Nat),t<xs.length→(flat4 xs)[t*4]?=some (.int .i64 (xs.getD t (0,0,0,0)).1)∧(flat4 xs)[t*4+1]?=some (.int .i64 (xs.getD t (0,0,0,0)).2.1)∧(flat4 xs)[t*4+2]?=some (.int .i64 (xs.getD t (0,0,0,0)).2.2.1)∧(flat4 xs)[t*4+3]?=some (.int .i64 (xs.getD t (0,0,0,0)).2.2.2)
 | [],t,h=>by simp at h
 | x::xs,0,_=>⟨rfl,rfl,rfl,rfl⟩
 | x::xs,t+1,h=>by
  have ih:=flat4_at xs t (by simpa using h)
  have e:(t+1)*4=t*4+1+1+1+1:=by omega
  simp only [flat4,List.cons_append,List.nil_append,e,List.getElem?_cons_succ,List.getD_cons_succ]
  exact ih
def Evs (w:World) (a:Option Addr) (n:Nat) (xs:List I4):Prop:=xs.length=n∧n≤maxLen∧(n=0∨∃ g,a=some ⟨g,0,none⟩∧g<w.heap.size∧∀ t,t<n→w.cell? ⟨g,t*4,none⟩=some (.int .i64 (xs.getD t (0,0,0,0)).1)∧w.cell? ⟨g,t*4+1,none⟩=some (.int .i64 (xs.getD t (0,0,0,0)).2.1)∧w.cell? ⟨g,t*4+2,none⟩=some (.int .i64 (xs.getD t (0,0,0,0)).2.2.1)∧w.cell? ⟨g,t*4+3,none⟩=some (.int .i64 (xs.getD t (0,0,0,0)).2.2.2))
theorem Evs.below {w w':World} {a:Option Addr} {n:Nat} {xs:List I4} (h:Evs w a n xs) (hb:Below w.heap.size w w'):Evs w' a n xs:=by
 obtain ⟨h1,h2,h3 | ⟨g,rfl,hl,hc⟩⟩:=h
 ·exact ⟨h1,h2,.inl h3⟩
 ·refine ⟨h1,h2,.inr ⟨g,rfl,Nat.lt_of_lt_of_le hl hb.size,fun t ht=>?_⟩⟩
  obtain ⟨c0,c1,c2,c3⟩:=hc t ht
  exact ⟨(hb.cell (p:=⟨g,_,none⟩) hl).trans c0,(hb.cell (p:=⟨g,_,none⟩) hl).trans c1,(hb.cell (p:=⟨g,_,none⟩) hl).trans c2,(hb.cell (p:=⟨g,_,none⟩) hl).trans c3⟩


theorem grown_box {a b c:World} {r:Option Nat} {j:Nat} (h:a.grownBy b r) (k:b.grownBy c (some j)) (hj:a.heap.size≤j):a.grownBy c r:=
 ⟨k.os.trans h.os,k.tape.trans h.tape,k.output.trans h.output,Nat.le_trans h.size k.size,fun i hi hr=>(k.block i (Nat.lt_of_lt_of_le hi h.size) (by simp;omega)).trans (h.block i hi hr)⟩

theorem take_is {w:World} {g:Nat} {cs:Sl × Sl × Sl} {rows:List (List I3)} {m:V4} (h:MachAt w g cs rows m) (hp:progOk rows=true) (hs:shapeOk m=true) {k:Nat} (hk:k<3) (hd:doneM rows m k=false) :
  Calls Tryz.prog 93 #[.pointer (some ⟨g,0,none⟩),.int .i64 k] w fun e w'=>e=.returned (.agg #[.int .i64 (stepM m (insM rows m k) k).2,.int .i64 k,.int .i64 (m.1.getD k 0)])∧Blk w' g 89 (machCells cs.1.val cs.2.1.val cs.2.2.val (stepM m (insM rows m k) k).1)∧w.grownBy w' (some g):=by
 have kS:=fun W (hM:MachAt W g cs rows m)=>step_is hM hp hs hk hd
 generalize stepM m (insM rows m k) k=zf at *
 obtain ⟨z,f⟩:=zf
 simp only at kS ⊢
 have hk3:(k:Int)<3:=by omega
 obtain ⟨pc,hpc⟩:∃ pc,pc=m.1.getD k 0:=⟨_,rfl⟩
 rw [← hpc]
 have HPc:Hid (pc=m.1.getD k 0):=hpc
 clear hd hp hs hpc
 have hgl:=h.1.lt
 have pB:=Blk.new w 64 [.int .i64 0,.int .i64 0,.int .i64 0]
 have bz:Below w.heap.size w (w.alloc (.cells #[.int .i64 0,.int .i64 0,.int .i64 0] 64)):=by go_grown
 replace h:=h.below bz
 have r1:=h.pc hk
 rw [← HPc.out] at r1
 clear HPc
 have kSx:=kS _ h
 clear kS h
 go_enter Tryz.func93,Tryz.ntmps93
 go_wp2_with fail
 refine kSx.mono ?_
 rintro e w2 ⟨rfl,hM2,g2⟩
 have gz:w.grownBy w2 (some g):=grown_tr (grown_new bz) g2
 have pB2:=pB.kept g2 (by simp;omega)
 have hsz:=gz.size
 clear kSx g2 bz r1 pB
 obtain ⟨GB,hGB⟩:∃ GB,GB=w.heap.size:=⟨_,rfl⟩
 have hwj:w.heap.size≤GB:=by omega
 rw [← hGB] at pB2 hgl ⊢
 clear hGB hsz
 go_wp2_with (refine wpList_store_blk rfl 64 _ _ rfl GB [.int .i64 f,.int .i64 k,.int .i64 pc] rfl rfl pB2 (by kernel_rfl) rfl rfl ?_)
 intro W9 pR2 g3
 have hM3:=hM2.kept g3 (by simp;omega)
 go_wp2
 refine bodyPost_ret (results_blk1 Tryz.results93 _ _ _ _ _ _ rfl pR2.out Tryz.underlying64 rfl (by kernel_rfl)) rfl ?_
 exact ⟨rfl,hM3,grown_box gz g3 hwj⟩

end Go.Proofs.YtifoggpohlegmaaGreatDoor
