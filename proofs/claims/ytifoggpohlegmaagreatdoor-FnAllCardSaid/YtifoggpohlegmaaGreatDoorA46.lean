/-
  Joined: CntI, RbgI.
-/
import Derived.Test.YtifoggpohlegmaaGreatDoorA36
import Derived.Test.YtifoggpohlegmaaGreatDoorA45

namespace Go.Proofs.YtifoggpohlegmaaGreatDoor
set_option maxRecDepth 100000
set_option maxHeartbeats 16000000
open Go.RowKit
set_option linter.unusedVariables false
set_option linter.unusedSimpArgs false

def CtOk (rows:List (List I3)) (L:List (Rec6 V4 × Value)) (cts:List Int):Prop:=cts.length=L.length∧∀ i r mv,L[i]?=some (r,mv)→cts.getD i 0=0∨cts.getD i 0=(cntM rows r.1:Int)
theorem CtOk.put {rows:List (List I3)} {L:List (Rec6 V4 × Value)} {cts:List Int} (h:CtOk rows L cts) {at9:Nat} {r:Rec6 V4} {mv:Value} (hr:L[at9]?=some (r,mv)):CtOk rows L (cts.set at9 (cntM rows r.1:Int)):=by
 have hl:at9<L.length:=(List.getElem?_eq_some_iff.1 hr).1
 refine ⟨by simp [h.1],fun i r' mv' hi=>?_⟩
 by_cases e:at9=i
 ·subst e
  rw [hr] at hi
  cases hi
  right
  simp [List.getD,h.1,hl]
 ·have:=h.2 i r' mv' hi
  simp only [List.getD,List.getElem?_set_ne e] at this ⊢
  exact this
theorem move_at {rows:List (List I3)} {F:List (Rec6 V4)} {m:V4} {j:Nat} {k:Int} (h:(enabM rows m 3)[j]?=some k):(mvsOf rows F m)[j]?=some (mvOf rows F m k):=by
 unfold mvsOf
 rw [List.getElem?_map,h]
 rfl
theorem range_move {w:World} {B G cap:Nat} {xs:List I4} (h:w.ownsRow B 192 4 (.slice (some ⟨G,0,none⟩) xs.length cap) xs.length (flat4 xs)) {j:Nat} {x:I4} (hx:xs[j]?=some x):w.rangeAt G (j*4) [.int .i64 x.1,.int .i64 x.2.1,.int .i64 x.2.2.1,.int .i64 x.2.2.2]:=by
 have hl:j<xs.length:=(List.getElem?_eq_some_iff.1 hx).1
 have hg:xs.getD j (0,0,0,0)=x:=by simp [List.getD,hx]
 obtain ⟨f0,f1,f2,f3⟩:=flat4_at xs j hl
 rw [hg] at f0 f1 f2 f3
 intro q v hq
 have hq4:q<4:=by have:=(List.getElem?_eq_some_iff.1 hq).1;simpa using this
 rw [h.cellAt (j*4+q) (by omega)]
 match q,hq4 with
 | 0,_=>simp at hq;subst hq;exact f0
 | 1,_=>simp at hq;subst hq;exact f1
 | 2,_=>simp at hq;subst hq;exact f2
 | 3,_=>simp at hq;subst hq;exact f3


def fndO (rows:List (List I3)) (m:V4) (j:Nat):List I3:=((enabM rows m 3).take j).flatMap (ownM rows m)
theorem fndO_succ {rows:List (List I3)} {m:V4} {j:Nat} {k:Int} (h:(enabM rows m 3)[j]?=some k):fndO rows m (j+1)=fndO rows m j++ownM rows m k:=by
 unfold fndO
 rw [List.take_add_one,h]
 simp
theorem fndO_len (rows:List (List I3)) (m:V4):∀ j,(fndO rows m j).length≤j
 | 0=>by simp [fndO]
 | j+1=>by
  have ih:=fndO_len rows m j
  cases h:(enabM rows m 3)[j]? with
  | none =>
   have e:fndO rows m (j+1)=fndO rows m j:=by unfold fndO;rw [List.take_add_one,h];simp
   rw [e]
   omega
  | some k =>
   rw [fndO_succ h,List.length_append]
   have:=ownM_len rows m k
   omega
def fndJ (rows:List (List I3)) (m:V4) (j:Nat):List I3:=deadM rows m++fndO rows m j
theorem fndJ_succ {rows:List (List I3)} {m:V4} {j:Nat} {k:Int} (h:(enabM rows m 3)[j]?=some k):fndJ rows m (j+1)=fndJ rows m j++ownM rows m k:=by
 unfold fndJ
 rw [fndO_succ h,List.append_assoc]
theorem deadM_len (rows:List (List I3)) (m:V4):(deadM rows m).length≤1:=by
 unfold deadM
 split<;>simp
theorem fndJ_len (rows:List (List I3)) (m:V4) (j:Nat):(fndJ rows m j).length≤j+1:=by
 have h1:=fndO_len rows m j
 have h2:=deadM_len rows m
 unfold fndJ
 rw [List.length_append]
 omega
theorem flat_snoc6 (xs:List I3) (x:I3):flat (xs++[x])=flat xs++[.int .i64 x.1,.int .i64 x.2.1,.int .i64 x.2.2]:=by simp [flat,I3.cells]
theorem three_new6 {w:World} {g t:Nat} {a b c:Value} (h:Blk w g t [a,b,c]):∀ j u,[a,b,c][j]?=some u→w.cell? ((⟨g,0,none⟩:Addr).add j)=some u:=cells_new h

theorem rbug_is {w:World} {B E:Nat} {cs:Sl × Sl × Sl} {rows:List (List I3)} {F:List (Rec6 V4)} {r:Rec6 V4} {mv:Value} (hE:Blk w E 111 (rcC cs r mv)) (hmv:w.ownsRow B 192 4 mv (mvsOf rows F r.1).length (flat4 (mvsOf rows F r.1))) (hp:progOk rows=true) (hs:shapeOk r.1=true) (hI:∀ k,k<3→Instrs w (slK cs k).1 (slK cs k).2.1 (slK cs k).2.2 (codeM rows k)) :
  Calls Tryz.prog 81 #[.pointer (some ⟨E,0,none⟩)] w fun e w'=>BugsOne e w' w.heap.size (bugsI rows r.1)∧Below w.heap.size w w':=by
 obtain ⟨i0,hi9,hz0,hz1,hz2⟩:=info_parts info_bug
 have kU:=deadlock_of (Rq.stuck_is E cs rows r.1 w ⟨⟨_,_,_,_,hE⟩,hI⟩ hp hs)
 rw [show (if stuckM rows r.1 then [((14:Int),(0:Int),(0:Int))] else [])=deadM rows r.1 from rfl] at kU
 have hml:(mvsOf rows F r.1).length=(enabM rows r.1 3).length:=by simp [mvsOf]
 have hen:=enabM_len rows r.1 3
 have HB:Hid (bugsI rows r.1=fndJ rows r.1 (enabM rows r.1 3).length):=by
  rw [Hid]
  unfold bugsI fndJ fndO deadM
  rw [List.take_length]
  cases hst:stuckM rows r.1
  ·rfl
  ·have he:enabM rows r.1 3=[]:=by
    unfold stuckM at hst
    simp only [Bool.and_eq_true,decide_eq_true_eq] at hst
    exact hst.1
   rw [he]
   rfl
 obtain ⟨ma,mc,rfl⟩:∃ ma mc,mv=.slice ma (mvsOf rows F r.1).length mc:=by
  rcases hmv.2 with ⟨h1,h2⟩ | ⟨gq,cq,cur,h1,_⟩
  ·exact ⟨none,0,by rw [h1,h2]⟩
  ·exact ⟨_,_,h1⟩
 have cM:w.cell? ⟨E,21,none⟩=some (.slice ma (mvsOf rows F r.1).length mc):=by rw [hE.cell];rfl
 have HM:Hid (∀ j k,(enabM rows r.1 3)[j]?=some k→∃ G,ma=some ⟨G,0,none⟩∧w.rangeAt G (j*4) [.int .i64 (goM rows r.1 k).2,.int .i64 k,.int .i64 (r.1.1.getD k.toNat 0),.int .i64 (ixS F (goM rows r.1 k).1:Int)]):=by
  intro j k hjk
  have hpos:0<(mvsOf rows F r.1).length:=by
   rw [hml]
   exact Nat.lt_of_le_of_lt (Nat.zero_le _) (List.getElem?_eq_some_iff.1 hjk).1
  obtain ⟨G,c9,e9,_⟩:=own_some6 hmv hpos
  cases e9
  exact ⟨G,rfl,range_move hmv (move_at hjk)⟩
 rw [hml] at cM
 obtain ⟨n,hn⟩:∃ n,n=(enabM rows r.1 3).length:=⟨_,rfl⟩
 rw [← hn] at cM hen HB
 have HN:Hid (n=(enabM rows r.1 3).length):=hn
 clear hn hml hmv hE hI
 go_enter Tryz.func81,Tryz.ntmps81
 go_wp2_with fail
 refine kU.mono ?_
 rintro e w1 ⟨⟨dv,rfl,hdv⟩,bw⟩
 have cM1:=cells_kept bw _ _ cM
 have st:w1.ownsRow w.heap.size 64 3 dv (fndJ rows r.1 0).length (flat (fndJ rows r.1 0)):=by
  have e0:fndJ rows r.1 0=deadM rows r.1:=by simp [fndJ,fndO]
  rw [e0]
  exact hdv
 clear hdv
 clear kU cM
 go_wp2_with fail
 go_loopw [3,15] (fun s3 s17 wr=>∃ j:Nat,s17=.int .i64 j∧j≤n∧wr.ownsRow w.heap.size 64 3 s3 (fndJ rows r.1 j).length (flat (fndJ rows r.1 j))∧Below w.heap.size w wr) (fun _ s17 _=>n - (intOf s17).toNat)
 case atStart=>exact ⟨0,rfl,Nat.zero_le _,st,bw⟩
 case round =>
  clear st bw cM1
  obtain ⟨j,rfl,hjn,q,bw⟩:=hrel
  obtain ⟨va,vn,vc,rfl⟩:=own_slice6 q
  by_cases hlt:j<n
  ·have hkj:(enabM rows r.1 3)[j]?=some ((enabM rows r.1 3).getD j 0):=by rw [List.getD,List.getElem?_eq_getElem (by rw [← HN.out];exact hlt)];rfl
   generalize (enabM rows r.1 3).getD j 0=k at hkj
   obtain ⟨G,rfl,hrg⟩:=HM.out j k hkj
   have hfs:=fndJ_succ hkj
   have hfl:=fndJ_len rows r.1 j
   unfold ownM at hfs
   have hrw:wr.rangeAt G (j*4) [.int .i64 (goM rows r.1 k).2,.int .i64 k,.int .i64 (r.1.1.getD k.toNat 0),.int .i64 (ixS F (goM rows r.1 k).1:Int)]:=fun q v hq=>cells_kept bw _ _ (hrg q v hq)
   generalize ixS F (goM rows r.1 k).1=ix at *
   generalize (goM rows r.1 k).2=f at *
   generalize r.1.1.getD k.toNat 0=pc at *
   have hlt3:(j:Int)<(n:Int):=by omega
   have hj0:(0:Int)≤(j:Int):=by omega
   clear hkj hrg
   have pN:=Blk.new wr 192 [.int .i64 0,.int .i64 0,.int .i64 0,.int .i64 0]
   have hbN:Below wr.heap.size wr (wr.alloc (.cells #[.int .i64 0,.int .i64 0,.int .i64 0,.int .i64 0] 192)):=by go_grown
   go_wp2_with (first | refine wpList_load_mid rfl 192 _ rfl G (j*4) rfl [.int .i64 f,.int .i64 k,.int .i64 pc,.int .i64 (ix:Int)] _ hrw Tryz.underlying192 rfl (by kernel_rfl) ?_ | refine wpList_store_blk rfl 192 _ _ rfl wr.heap.size [.int .i64 f,.int .i64 k,.int .i64 pc,.int .i64 (ix:Int)] rfl rfl pN (by kernel_rfl) rfl rfl ?_)
   intro w3 p3 g3
   have pQ:=p3.out
   have b3:Below wr.heap.size wr w3:=hbN.grown g3 hbN.size (fun q e=>by cases e;exact Nat.le_refl _)
   replace bw:=bel_trans bw b3
   replace q:=owns_below q b3
   have cQ:w3.cell? ⟨wr.heap.size,0,none⟩=some (.int .i64 f):=by simpa using pQ.cell 0
   have rQ:w3.rangeAt wr.heap.size 0 [.int .i64 f,.int .i64 k,.int .i64 pc]:=fun i v hi=>by
    rw [Nat.zero_add,pQ.cell]
    have hi3:i<3:=by have:=(List.getElem?_eq_some_iff.1 hi).1;simpa using this
    match i,hi3 with
    | 0,_=>exact hi
    | 1,_=>exact hi
    | 2,_=>exact hi
   clear p3 g3 pN hbN b3 hrw pQ
   generalize wr.heap.size=Q at *
   by_cases hf:f=0
   ·subst hf
    rw [if_pos rfl,List.append_nil] at hfs
    have st9:w3.ownsRow w.heap.size 64 3 (.slice va vn vc) (fndJ rows r.1 (j+1)).length (flat (fndJ rows r.1 (j+1))):=by rw [hfs];exact q
    clear hfs q rQ
    go_wp2
    go_roundw
    case rel=>exact ⟨j+1,by go_num,by omega,st9,bw⟩
    case measure=>simp [intOf];omega
   ·rw [if_neg hf] at hfs
    have hfn:(f != 0)=true:=by simp [hf]
    have HFS:Hid (fndJ rows r.1 (j+1)=fndJ rows r.1 j++[(f,k,pc)]):=hfs
    clear hfs hf
    go_wp2_with (first | refine wpList_load_mid rfl 64 _ rfl Q 0 rfl [.int .i64 f,.int .i64 k,.int .i64 pc] _ rQ Tryz.underlying64 rfl (by kernel_rfl) ?_ | (at_builtin;refine wpList_append_own_at _ rfl _ _ 34 rfl w.heap.size 64 i0 (.agg #[.int .i64 0,.int .i64 0,.int .i64 0]) 3 24 Tryz.underlying34 hi9 hz0 hz1 hz2 rfl (by decide) _ _ _ rfl (q.alloc _) ⟨w3.heap.size,0,none⟩ 1 1 [.int .i64 f,.int .i64 k,.int .i64 pc] rfl rfl (three_new6 (blkAt _ _ _ rfl)) (three_one _ _ _) ?c3 ?c4 ?c5 ?_))
    case c3=>unfold maxLen;omega
    case c4=>omega
    case c5=>have:=bw.size;simp;omega
    intro v6 w4 q6 gr _ at6
    have ha:Below w3.heap.size w3 (w3.alloc (.cells #[.int .i64 f,.int .i64 k,.int .i64 pc] 64)):=by go_grown
    have bw4:=(bel_trans bw ha).grown gr (bel_trans bw ha).size (fun q9 e=>(own_lt3 (q.alloc (.cells #[.int .i64 f,.int .i64 k,.int .i64 pc] 64)) e).1)
    have st9:w4.ownsRow w.heap.size 64 3 v6 (fndJ rows r.1 (j+1)).length (flat (fndJ rows r.1 (j+1))):=by
     rw [HFS.out,flat_snoc6,List.length_append]
     exact q6
    clear ha gr at6 q6 q bw rQ cQ HFS
    go_wp2
    go_roundw
    case rel=>exact ⟨j+1,by go_num,by omega,st9,bw4⟩
    case measure=>simp [intOf];omega
  ·have hge:¬ (j:Int)<(n:Int):=by omega
   obtain rfl:j=n:=by omega
   have HG:Hid (BugsOne (.returned (.slice va vn vc)) wr w.heap.size (bugsI rows r.1)):=by rw [HB.out];exact ⟨_,rfl,q⟩
   clear q HB HM
   go_wp2
   go_ret
   exact ⟨HG.out,bw⟩
end Go.Proofs.YtifoggpohlegmaaGreatDoor
