/-
  Joined: SbgI, SlpI, EvD, StlS.
-/
import Derived.Test.YtdojjmkpelgcaaaGreatDoorS44

namespace Go.Proofs.YtdojjmkpelgcaaaGreatDoor
set_option maxRecDepth 100000
open Go.RowKit
set_option linter.unusedVariables false
set_option linter.unusedSimpArgs false

theorem bugsI_fit6 {rows:List (List I3)} {m:V4} (hp:progOk rows=true) (hs:shapeOk m=true):∀ x ∈ bugsI rows m,I3.fits x:=fun x hx=>by
 unfold bugsI at hx
 split at hx
 ·simp at hx;subst hx;exact okB_fitsQ rfl
 ·obtain ⟨k,hk,hx⟩:=List.mem_flatMap.1 hx
  exact okB_fitsQ (ownM_ok hp hs (enab_halt hk) x hx)
theorem bugsI_len6 (rows:List (List I3)) (m:V4):(bugsI rows m).length≤3:=by
 unfold bugsI
 split
 ·simp
 ·have h:=fndJ_len rows m (enabM rows m 3).length
  unfold fndJ at h
  rw [List.take_length] at h
  have:=enabM_len rows m 3
  omega
def fndA (rows:List (List I3)) (L:List (Rec6 V4 × Value)) (j:Nat):List I3:=(L.take j).flatMap fun x=>bugsI rows x.1.1
theorem fndA_succ {rows:List (List I3)} {L:List (Rec6 V4 × Value)} {j:Nat} {r:Rec6 V4} {mv:Value} (h:L[j]?=some (r,mv)):fndA rows L (j+1)=fndA rows L j++bugsI rows r.1:=by
 unfold fndA
 rw [List.take_add_one,h]
 simp
theorem fndA_len (rows:List (List I3)) (L:List (Rec6 V4 × Value)):∀ j,(fndA rows L j).length≤3*j
 | 0=>by simp [fndA]
 | j+1=>by
  have ih:=fndA_len rows L j
  cases h:L[j]? with
  | none =>
   have e:fndA rows L (j+1)=fndA rows L j:=by unfold fndA;rw [List.take_add_one,h];simp
   rw [e]
   omega
  | some x =>
   obtain ⟨r,mv⟩:=x
   rw [fndA_succ h,List.length_append]
   have:=bugsI_len6 rows r.1
   omega
theorem fndA_all (rows:List (List I3)) (L:List (Rec6 V4 × Value)):fndA rows L L.length=(L.map (·.1)).flatMap fun r=>bugsI rows r.1:=by
 unfold fndA
 rw [List.take_length,List.flatMap_map]
theorem fndA_fits {rows:List (List I3)} {L:List (Rec6 V4 × Value)} (hp:progOk rows=true) (hsh:Shaped (L.map (·.1))) (j:Nat):∀ x ∈ fndA rows L j,I3.fits x:=fun x hx=>by
 unfold fndA at hx
 obtain ⟨y,hy,hx⟩:=List.mem_flatMap.1 hx
 exact bugsI_fit6 hp (hsh y.1 (List.mem_map.2 ⟨y,List.mem_of_mem_take hy,rfl⟩)) x hx
theorem flat_app6 (xs ys:List I3):flat (xs++ys)=flat xs++flat ys:=by simp [flat]
theorem news_flat6 {w:World} {B g n c:Nat} {xs:List I3} (h:w.ownsRow B 64 3 (.slice (some ⟨g,0,none⟩) n c) n (flat xs)):∀ j u,(flat xs)[j]?=some u→w.cell? ((⟨g,0,none⟩:Addr).add j)=some u:=by
 intro j u hj
 have hl:j<(flat xs).length:=(List.getElem?_eq_some_iff.1 hj).1
 have h1:=h.1
 rw [Addr.add_mid,Nat.zero_add,h.cellAt j (by omega)]
 exact hj
theorem flat_one6 (xs:List I3):∀ u ∈ flat xs,u.oneCell'=true:=fun u hu=>by
 unfold flat at hu
 obtain ⟨x,_,hx⟩:=List.mem_flatMap.1 hu
 simp [I3.cells] at hx
 rcases hx with rfl | rfl | rfl<;>rfl

set_option maxHeartbeats 2000000 in
theorem sbug_is {w:World} {B X nb vc:Nat} {va:Option Addr} {cs:Sl × Sl × Sl} {rows:List (List I3)} {F:List (Rec6 V4)} {L:List (Rec6 V4 × Value)} (sp:SpcD w B nb (.slice va L.length vc) cs (mvsOf rows F) L L.length) (bx:Blk w X 111 [.slice va L.length vc,.map (some nb)]) (hp:progOk rows=true) (hsh:Shaped (L.map (·.1))) (hI:∀ k,k<3→Instrs w (slK cs k).1 (slK cs k).2.1 (slK cs k).2.2 (codeM rows k)) (hl:L.length≤2000) :
  Calls Tryz.prog 74 #[.pointer (some ⟨X,0,none⟩)] w fun e w'=>BugsOne e w' w.heap.size (allI rows (L.map (·.1)))∧Below w.heap.size w w':=by
 obtain ⟨i0,hi9,hz0,hz1,hz2⟩:=info_parts info_bug
 have cX0:w.cell? ⟨X,0,none⟩=some (.slice va L.length vc):=by simpa using bx.cell 0
 have HAll:Hid (allI rows (L.map (·.1))=mergeB (fndA rows L L.length) []):=by rw [Hid,fndA_all];rfl
 have st:w.ownsRow w.heap.size 64 3 (.slice none 0 0) (fndA rows L 0).length (flat (fndA rows L 0)):=World.ownsRow_nil _ _ _ _
 go_enter Tryz.func74,Tryz.ntmps74
 go_wp2_with fail
 go_loopw [3,11] (fun s3 s11 wr=>∃ j:Nat,s11=.int .i64 j∧j≤L.length∧wr.ownsRow w.heap.size 64 3 s3 (fndA rows L j).length (flat (fndA rows L j))∧Below w.heap.size w wr) (fun _ s11 _=>L.length - (intOf s11).toNat)
 case atStart=>exact ⟨0,rfl,Nat.zero_le _,st,Below.refl _ _⟩
 case round =>
  clear st cX0
  obtain ⟨j,rfl,hjn,q,bw⟩:=hrel
  obtain ⟨ka,kn,kc,rfl⟩:=own_slice6 q
  have hfl:=fndA_len rows L j
  by_cases hlt:j<L.length
  ·obtain ⟨r,mv,hr⟩:∃ r mv,L[j]?=some (r,mv):=⟨L[j].1,L[j].2,by rw [List.getElem?_eq_getElem hlt]⟩
   have hs:shapeOk r.1=true:=hsh r (List.mem_map.2 ⟨_,List.mem_of_getElem? hr,rfl⟩)
   have sp1:=sp.below bw
   have mvr:=sp1.mvs j r mv hlt hr
   obtain ⟨g,c9,e9,hg,hrg⟩:=sp1.at9 hr
   cases e9
   have hmv:=sp1.mvone hr
   have HS:Hid (fndA rows L (j+1)=fndA rows L j++bugsI rows r.1):=fndA_succ hr
   have hbl:=bugsI_len6 rows r.1
   have hlt3:(j:Int)<(L.length:Int):=by omega
   have hj0:(0:Int)≤(j:Int):=by omega
   have pN:=Blk.new wr 116 [.string ⟨#[]⟩,.slice none 0 0,.int .i64 0,.int .i64 0,.int .i64 0,.slice none 0 0,.int .i64 0,.int .i64 0,.int .i64 0,.slice none 0 0,.int .i64 0,.int .i64 0,.int .i64 0,.int .i64 0,.int .i64 0,.int .i64 0,.int .i64 0,.int .i64 0,.int .i64 0,.int .i64 0,.int .i64 0,.slice none 0 0]
   have hbN:Below wr.heap.size wr (wr.alloc (.cells #[.string ⟨#[]⟩,.slice none 0 0,.int .i64 0,.int .i64 0,.int .i64 0,.slice none 0 0,.int .i64 0,.int .i64 0,.int .i64 0,.slice none 0 0,.int .i64 0,.int .i64 0,.int .i64 0,.int .i64 0,.int .i64 0,.int .i64 0,.int .i64 0,.int .i64 0,.int .i64 0,.int .i64 0,.int .i64 0,.slice none 0 0] 116)):=by go_grown
   clear sp1 hr
   go_wp2_with (first | refine wpList_load_mid rfl 116 _ rfl g (j*22) rfl (rcC cs r mv) _ hrg Tryz.underlying116 rfl (by kernel_rfl) ?_ | refine wpList_store_blk rfl 116 _ _ rfl wr.heap.size (rcC cs r mv) rfl rfl pN (by kernel_rfl) rfl (rcC_one cs r hmv) ?_)
   intro w3 p3 g3
   have pE:=p3.out
   have b3:Below wr.heap.size wr w3:=hbN.grown g3 hbN.size (fun k e=>by cases e;exact Nat.le_refl _)
   replace bw:=bel_trans bw b3
   replace q:=owns_below q b3
   replace mvr:=owns_below mvr b3
   clear p3 g3 hbN pN b3 hrg hmv
   generalize wr.heap.size=E at *
   have kR:=rbug_is pE mvr hp hs (fun k hk=>(hI k hk).below bw)
   go_wp2_with fail
   refine kR.mono ?_
   rintro e w4 ⟨⟨v9,rfl,q9⟩,hb⟩
   have hw3:=bw.size
   replace bw:=bel_trans bw hb
   replace q:=owns_below q hb
   clear hb kR pE mvr
   rcases q9.2 with ⟨hv9,h09⟩ | ⟨gq,cq,cur,hv9,_⟩
   ·subst hv9
    have hn0:bugsI rows r.1=[]:=List.eq_nil_of_length_eq_zero h09
    have st9:w4.ownsRow w.heap.size 64 3 (.slice ka kn kc) (fndA rows L (j+1)).length (flat (fndA rows L (j+1))):=by
     rw [HS.out,hn0,List.append_nil]
     exact q
    go_wp2_with (at_builtin;refine wpList_append_own_none rfl _ _ 34 rfl w.heap.size 64 i0 3 Tryz.underlying34 hi9 (.slice ka kn kc) _ _ rfl q rfl ?_)
    clear q q9 h09 hn0 HS
    go_wp2
    go_roundw
    case rel=>exact ⟨j+1,by go_num,by omega,st9,bw⟩
    case measure=>simp [intOf];omega
   ·subst hv9
    have hw4:w.heap.size≤w4.heap.size:=bw.size
    have q9':w4.ownsRow w3.heap.size 64 3 (.slice (some ⟨gq,0,none⟩) (bugsI rows r.1).length cq) (bugsI rows r.1).length (flat (bugsI rows r.1)):=q9
    generalize bugsI rows r.1=bs at *
    go_wp2_with (at_builtin;refine wpList_append_own_at _ rfl _ _ 34 rfl w.heap.size 64 i0 (.agg #[.int .i64 0,.int .i64 0,.int .i64 0]) 3 24 Tryz.underlying34 hi9 hz0 hz1 hz2 rfl (by decide) (.slice ka kn kc) _ _ rfl q ⟨gq,0,none⟩ bs.length cq (flat bs) rfl (flat_length _) (news_flat6 q9') (flat_one6 _) (by unfold maxLen;omega) (by omega) hw4 ?_)
    intro v6 w5 q6 gr _ at6
    have bw5:=bw.grown gr bw.size (fun k e=>(own_lt3 q e).1)
    have st9:w5.ownsRow w.heap.size 64 3 v6 (fndA rows L (j+1)).length (flat (fndA rows L (j+1))):=by
     rw [HS.out,List.length_append,flat_app6]
     exact q6
    clear q q6 q9 q9' gr at6 bw HS
    go_wp2
    go_roundw
    case rel=>exact ⟨j+1,by go_num,by omega,st9,bw5⟩
    case measure=>simp [intOf];omega
  ·have hge:¬ (j:Int)<(L.length:Int):=by omega
   obtain rfl:j=L.length:=by omega
   obtain ⟨fa,fc,e9,hIn,hGd⟩:=bugs_sliceR q (fndA_fits hp hsh _)
   cases e9
   have kM:=mergedBugs_is ka (fndA rows L L.length).length kc (fndA rows L L.length) none 0 0 [] wr hIn ⟨rfl,Nat.le_refl _,by unfold maxLen;omega,by simp,.inl rfl⟩ (by omega) (by omega) hGd ⟨fun _=>rfl,fun x hx=>by cases hx⟩
   clear q hIn hGd
   go_wp2_with fail
   refine kM.mono ?_
   rintro e w5 ⟨⟨v5,rfl,q5⟩,hb⟩
   have hwr:=bw.size
   replace bw:=bel_trans bw hb
   have HG:Hid (BugsOne (.returned v5) w5 w.heap.size (allI rows (L.map (·.1)))):=by rw [HAll.out];exact ⟨_,rfl,own_lower q5 hwr⟩
   clear kM hb q5 HAll
   go_wp2
   go_ret
   exact ⟨HG.out,bw⟩

def bugsO (rows:List (List I3)):List I3:=if codeF rows=0 then allI rows (fullS rows) else []
def AbgGot (e:Ending) (w:World) (B:Nat) (xs:List I3) (c:Int):Prop:=∃ v,e=.returned (.tuple #[v,.int .i64 c])∧w.ownsRow B 64 3 v xs.length (flat xs)
set_option maxHeartbeats 2000000 in
theorem implAllBugs_not (a:Option Addr) (len cap:Nat) (rows:List (List I3)) (w:World) (hC:Codes w a len cap rows) (hV:VmShape w) (hc:codeF rows≠0) :
  Calls Tryz.prog 31 #[.agg #[.slice a len cap]] w fun e w'=>AbgGot e w' w.heap.size [] (codeF rows)∧Below w.heap.size w w':=by
 have kS:=fun (W:World) (b:Below w.heap.size w W) (t:S4) (h:Vmem W t zeroV)=>spaceOf_not a len cap rows t W (hC.below b) h (hV.below b) hc
 generalize codeF rows=c at *
 have hcn:(c != 0)=true:=by simpa using hc
 have fz:=(shape_fits9 zero_shape).1
 have kN:=implNewVm_is
 have bw:Below w.heap.size w (w.alloc (.cells #[.slice a len cap] 25)):=by go_grown
 have pP:Blk (w.alloc (.cells #[.slice a len cap] 25)) w.heap.size 25 [.slice a len cap]:=blkAt _ _ _ rfl
 go_enter Tryz.func31,Tryz.ntmps31
 go_wp2_with fail
 generalize (w.alloc (.cells #[.slice a len cap] 25))=U at *
 go_cut [4,5] from 6 (fun s4 s5 W=>CutF w W c s4 s5)
 case first =>
  have hdr:Below U.heap.size U U.drew:=by go_grown
  refine wp_region_held_drew (S:=(fun w'=>w'.cell? ⟨w.heap.size,0,none⟩=some (.slice a len cap))) (by kernel_rfl) (by simpa using pP.cell 0) (fun hS0=>?_)
  refine tkm 0 7 (.agg #[.slice a len cap]) ?_
  have pP9:=pP.below hdr
  replace bw:=bel_trans bw hdr
  clear hdr
  generalize U.drew=V at *
  have bt:Below V.heap.size V V:=Below.refl _ _
  refine wpAnyH_ready (rs:=[1,6]) (by kernel_rfl) (by simp) ?_
  refine AllReadyH.cons (o:=⟨some 8,_,_,_,_,_⟩) rfl (fun K hK=>?_) (AllReadyH.cons (o:=⟨some 4,_,_,_,_,_⟩) rfl (fun K hK=>?_) AllReadyH.nil)
  ·go_simp
   refine (kN V).mono ?_
   rintro e V1 ⟨⟨⟨⟨t0a,t0n,t0c⟩,⟨t1a,t1n,t1c⟩,⟨t2a,t2n,t2c⟩,⟨t3a,t3n,t3c⟩⟩,rfl,hO⟩,hb1⟩
   have ut:S4.val ((t0a,t0n,t0c),(t1a,t1n,t1c),(t2a,t2n,t2c),(t3a,t3n,t3c))=.agg #[.slice t0a t0n t0c,.slice t1a t1n t1c,.slice t2a t2n t2c,.slice t3a t3n t3c]:=rfl
   rw [ut]
   have bt:=bel_trans bt hb1
   go_wp2_with fail
   refine hK.out _ _ (cells_kept bt _ _ hS0) (fun hS1=>?_)
   clear hK
   try simp only [Act.put,tka,tkb,tkc]
   refine wpAnyH_ready (rs:=[2,6]) (by kernel_rfl) (by simp) ?_
   refine AllReadyH.cons (o:=⟨some 9,_,_,_,_,_⟩) rfl (fun K hK=>?_) (AllReadyH.cons (o:=⟨some 4,_,_,_,_,_⟩) rfl (fun K hK=>?_) AllReadyH.nil)
   ·have kx:=kS V1 (bel_trans bw bt) ((t0a,t0n,t0c),(t1a,t1n,t1c),(t2a,t2n,t2c),(t3a,t3n,t3c)) (hO.mem fz)
    rw [ut] at kx
    go_simp
    refine kx.mono ?_
    rintro e V2 ⟨rfl,hb2⟩
    have bt:=bel_trans bt hb2
    go_wp2_with fail
    refine hK.out _ _ (cells_kept bt _ _ hS0) (fun hS2=>?_)
    clear hK kx
    try simp only [Act.put,tka,tkb,tkc]
    refine tkm 3 6 (.tuple #[.agg #[.slice none 0 0,.map none],.int .i64 c]) ?_
    refine tkm 4 10 (.agg #[.slice none 0 0,.map none]) ?_
    refine tkm 5 11 (.int .i64 c) ?_
    refine tkr 6 4 (fun K hK=>?_)
    have hb3:Below V2.heap.size V2 (V2.alloc (.cells #[.slice none 0 0,.map none] 111)):=by go_grown
    have pX:Blk (V2.alloc (.cells #[.slice none 0 0,.map none] 111)) V2.heap.size 111 [.slice none 0 0,.map none]:=blkAt _ _ _ rfl
    have hXB:w.heap.size≤V2.heap.size:=Nat.le_trans bw.size bt.size
    have bt:=bel_trans bt hb3
    go_simp
    refine hK.out _ _ (cells_kept bt _ _ hS0) (fun hS3=>?_)
    clear hK
    generalize (V2.alloc (.cells #[.slice none 0 0,.map none] 111))=V3 at *
    obtain ⟨X,hX⟩:∃ X,X=V2.heap.size:=⟨_,rfl⟩
    rw [← hX] at pX hXB ⊢
    clear hX
    try simp only [Act.put,tka,tkb,tkc]
    refine tkz 7 (fun K hK=>?_)
    refine step_store_blkD rfl 111 _ _ rfl X [.slice none 0 0,.map none] rfl rfl pX (by kernel_rfl) rfl rfl ?_
    intro V9 pX9 g9
    have bz:=(bel_trans bw bt).grown g9 (bel_trans bw bt).size (fun q e=>by cases e;exact hXB)
    have hXP:X≠w.heap.size:=blk_ne pX (pP9.below bt) (by decide)
    have c9:=cells_kept bt _ _ hS0
    refine hK.out _ _ (cell_grownB g9 c9 (by simp;omega)) (fun hS4=>?_)
    clear hK
    try simp only [Act.put,tka,tkb,tkc]
    refine tkm 8 5 (.int .i64 c) ?_
    refine wpAnyH_done (by kernel_rfl) ?_ _
    go_wp2_with fail
    go_meet
    case rel=>exact ⟨X,rfl,rfl,bz⟩
   ·have hb3:Below V1.heap.size V1 (V1.alloc (.cells #[.slice none 0 0,.map none] 111)):=by go_grown
    have pX:Blk (V1.alloc (.cells #[.slice none 0 0,.map none] 111)) V1.heap.size 111 [.slice none 0 0,.map none]:=blkAt _ _ _ rfl
    have hXB:w.heap.size≤V1.heap.size:=Nat.le_trans bw.size bt.size
    replace hO:=hO.below hb3
    have bt:=bel_trans bt hb3
    go_simp
    refine hK.out _ _ (cells_kept bt _ _ hS0) (fun hS3=>?_)
    clear hK
    generalize (V1.alloc (.cells #[.slice none 0 0,.map none] 111))=V2 at *
    obtain ⟨X,hX⟩:∃ X,X=V1.heap.size:=⟨_,rfl⟩
    rw [← hX] at pX hXB ⊢
    clear hX
    try simp only [Act.put,tka,tkb,tkc]
    refine tkr 2 9 (fun K hK=>?_)
    have kx:=kS V2 (bel_trans bw bt) ((t0a,t0n,t0c),(t1a,t1n,t1c),(t2a,t2n,t2c),(t3a,t3n,t3c)) (hO.mem fz)
    rw [ut] at kx
    go_simp
    refine kx.mono ?_
    rintro e V3 ⟨rfl,hb2⟩
    replace pX:=pX.below hb2
    have bt:=bel_trans bt hb2
    go_wp2_with fail
    refine hK.out _ _ (cells_kept bt _ _ hS0) (fun hS2=>?_)
    clear hK kx
    try simp only [Act.put,tka,tkb,tkc]
    refine tkm 3 6 (.tuple #[.agg #[.slice none 0 0,.map none],.int .i64 c]) ?_
    refine tkm 4 10 (.agg #[.slice none 0 0,.map none]) ?_
    refine tkm 5 11 (.int .i64 c) ?_
    refine tkz 7 (fun K hK=>?_)
    refine step_store_blkD rfl 111 _ _ rfl X [.slice none 0 0,.map none] rfl rfl pX (by kernel_rfl) rfl rfl ?_
    intro V9 pX9 g9
    have bz:=(bel_trans bw bt).grown g9 (bel_trans bw bt).size (fun q e=>by cases e;exact hXB)
    have hXP:X≠w.heap.size:=blk_ne pX (pP9.below bt) (by decide)
    have c9:=cells_kept bt _ _ hS0
    refine hK.out _ _ (cell_grownB g9 c9 (by simp;omega)) (fun hS4=>?_)
    clear hK
    try simp only [Act.put,tka,tkb,tkc]
    refine tkm 8 5 (.int .i64 c) ?_
    refine wpAnyH_done (by kernel_rfl) ?_ _
    go_wp2_with fail
    go_meet
    case rel=>exact ⟨X,rfl,rfl,bz⟩
  ·have hb3:Below V.heap.size V (V.alloc (.cells #[.slice none 0 0,.map none] 111)):=by go_grown
   have pX:Blk (V.alloc (.cells #[.slice none 0 0,.map none] 111)) V.heap.size 111 [.slice none 0 0,.map none]:=blkAt _ _ _ rfl
   have hXB:w.heap.size≤V.heap.size:=Nat.le_trans bw.size bt.size
   have bt:=bel_trans bt hb3
   go_simp
   refine hK.out _ _ (cells_kept bt _ _ hS0) (fun hS3=>?_)
   clear hK
   generalize (V.alloc (.cells #[.slice none 0 0,.map none] 111))=V1 at *
   obtain ⟨X,hX⟩:∃ X,X=V.heap.size:=⟨_,rfl⟩
   rw [← hX] at pX hXB ⊢
   clear hX
   try simp only [Act.put,tka,tkb,tkc]
   refine tkr 1 8 (fun K hK=>?_)
   go_simp
   refine (kN V1).mono ?_
   rintro e V2 ⟨⟨⟨⟨t0a,t0n,t0c⟩,⟨t1a,t1n,t1c⟩,⟨t2a,t2n,t2c⟩,⟨t3a,t3n,t3c⟩⟩,rfl,hO⟩,hb1⟩
   have ut:S4.val ((t0a,t0n,t0c),(t1a,t1n,t1c),(t2a,t2n,t2c),(t3a,t3n,t3c))=.agg #[.slice t0a t0n t0c,.slice t1a t1n t1c,.slice t2a t2n t2c,.slice t3a t3n t3c]:=rfl
   rw [ut]
   have bt:=bel_trans bt hb1
   go_wp2_with fail
   refine hK.out _ _ (cells_kept bt _ _ hS0) (fun hS1=>?_)
   clear hK
   try simp only [Act.put,tka,tkb,tkc]
   replace pX:=pX.below hb1
   refine tkr 2 9 (fun K hK=>?_)
   have kx:=kS V2 (bel_trans bw bt) ((t0a,t0n,t0c),(t1a,t1n,t1c),(t2a,t2n,t2c),(t3a,t3n,t3c)) (hO.mem fz)
   rw [ut] at kx
   go_simp
   refine kx.mono ?_
   rintro e V3 ⟨rfl,hb2⟩
   replace pX:=pX.below hb2
   have bt:=bel_trans bt hb2
   go_wp2_with fail
   refine hK.out _ _ (cells_kept bt _ _ hS0) (fun hS2=>?_)
   clear hK kx
   try simp only [Act.put,tka,tkb,tkc]
   refine tkm 3 6 (.tuple #[.agg #[.slice none 0 0,.map none],.int .i64 c]) ?_
   refine tkm 4 10 (.agg #[.slice none 0 0,.map none]) ?_
   refine tkm 5 11 (.int .i64 c) ?_
   refine tkz 7 (fun K hK=>?_)
   refine step_store_blkD rfl 111 _ _ rfl X [.slice none 0 0,.map none] rfl rfl pX (by kernel_rfl) rfl rfl ?_
   intro V9 pX9 g9
   have bz:=(bel_trans bw bt).grown g9 (bel_trans bw bt).size (fun q e=>by cases e;exact hXB)
   have hXP:X≠w.heap.size:=blk_ne pX (pP9.below bt) (by decide)
   have c9:=cells_kept bt _ _ hS0
   refine hK.out _ _ (cell_grownB g9 c9 (by simp;omega)) (fun hS4=>?_)
   clear hK
   try simp only [Act.put,tka,tkb,tkc]
   refine tkm 8 5 (.int .i64 c) ?_
   refine wpAnyH_done (by kernel_rfl) ?_ _
   go_wp2_with fail
   go_meet
   case rel=>exact ⟨X,rfl,rfl,bz⟩
 obtain ⟨X,rfl,rfl,bz⟩:=hcut
 clear kS kN bw pP fz
 have HG:Hid (∀ W,AbgGot (.returned (.tuple #[.slice none 0 0,.int .i64 c])) W w.heap.size [] c):=fun W=>⟨_,rfl,World.ownsRow_nil _ _ _ _⟩
 go_wp2
 refine bodyPost_ret (by simp [results,Tryz.results31,go_sem];try rfl) rfl ?_
 exact ⟨HG.out _,bz⟩

set_option maxHeartbeats 2000000 in
theorem implAllBugs_ok (a:Option Addr) (len cap:Nat) (rows:List (List I3)) (w:World) (hC:Codes w a len cap rows) (hV:VmShape w) (hc:codeF rows=0) :
  Calls Tryz.prog 31 #[.agg #[.slice a len cap]] w fun e w'=>AbgGot e w' w.heap.size (allI rows (fullS rows)) 0∧Below w.heap.size w w':=by
 obtain ⟨hp,hf⟩:=code_parts hc
 obtain ⟨cs,hR⟩:=rows_of_codes6 hC hp
 have kS:=fun (W:World) (b:Below w.heap.size w W) (t:S4) (h:Vmem W t zeroV)=>spaceOf_yes a len cap rows t W (hC.below b) h (hV.below b) hp hf
 have hI:∀ k,k<3→Instrs w (slK cs k).1 (slK cs k).2.1 (slK cs k).2.2 (codeM rows k):=by
  obtain ⟨b,off,_,_,hk⟩:=hR
  exact fun k h3=>(hk k h3).2
 clear hc
 have fz:=(shape_fits9 zero_shape).1
 have kN:=implNewVm_is
 have bw:Below w.heap.size w (w.alloc (.cells #[.slice a len cap] 25)):=by go_grown
 have pP:Blk (w.alloc (.cells #[.slice a len cap] 25)) w.heap.size 25 [.slice a len cap]:=blkAt _ _ _ rfl
 go_enter Tryz.func31,Tryz.ntmps31
 go_wp2_with fail
 generalize (w.alloc (.cells #[.slice a len cap] 25))=U at *
 go_cut [4,5] from 6 (fun s4 s5 W=>CutK w W cs rows (fullS rows) s4 s5)
 case first =>
  have hdr:Below U.heap.size U U.drew:=by go_grown
  refine wp_region_held_drew (S:=(fun w'=>w'.cell? ⟨w.heap.size,0,none⟩=some (.slice a len cap))) (by kernel_rfl) (by simpa using pP.cell 0) (fun hS0=>?_)
  refine tkm 0 7 (.agg #[.slice a len cap]) ?_
  have pP9:=pP.below hdr
  replace bw:=bel_trans bw hdr
  clear hdr
  generalize U.drew=V at *
  have bt:Below V.heap.size V V:=Below.refl _ _
  refine wpAnyH_ready (rs:=[1,6]) (by kernel_rfl) (by simp) ?_
  refine AllReadyH.cons (o:=⟨some 8,_,_,_,_,_⟩) rfl (fun K hK=>?_) (AllReadyH.cons (o:=⟨some 4,_,_,_,_,_⟩) rfl (fun K hK=>?_) AllReadyH.nil)
  ·go_simp
   refine (kN V).mono ?_
   rintro e V1 ⟨⟨⟨⟨t0a,t0n,t0c⟩,⟨t1a,t1n,t1c⟩,⟨t2a,t2n,t2c⟩,⟨t3a,t3n,t3c⟩⟩,rfl,hO⟩,hb1⟩
   have ut:S4.val ((t0a,t0n,t0c),(t1a,t1n,t1c),(t2a,t2n,t2c),(t3a,t3n,t3c))=.agg #[.slice t0a t0n t0c,.slice t1a t1n t1c,.slice t2a t2n t2c,.slice t3a t3n t3c]:=rfl
   rw [ut]
   have bt:=bel_trans bt hb1
   go_wp2_with fail
   refine hK.out _ _ (cells_kept bt _ _ hS0) (fun hS1=>?_)
   clear hK
   try simp only [Act.put,tka,tkb,tkc]
   refine wpAnyH_ready (rs:=[2,6]) (by kernel_rfl) (by simp) ?_
   refine AllReadyH.cons (o:=⟨some 9,_,_,_,_,_⟩) rfl (fun K hK=>?_) (AllReadyH.cons (o:=⟨some 4,_,_,_,_,_⟩) rfl (fun K hK=>?_) AllReadyH.nil)
   ·have kx:=kS V1 (bel_trans bw bt) ((t0a,t0n,t0c),(t1a,t1n,t1c),(t2a,t2n,t2c),(t3a,t3n,t3c)) (hO.mem fz)
    rw [ut] at kx
    go_simp
    refine kx.mono ?_
    rintro e V2 ⟨va9,nb,cs',L,rfl,sp,hLF,hR',hb2⟩
    obtain rfl:=(hR.below (bel_trans bw bt)).uniq hR'
    have hBv:w.heap.size≤V1.heap.size:=Nat.le_trans bw.size bt.size
    obtain ⟨va8,vn8,vc8,hva⟩:=own_slice6 sp.row
    have bt:=bel_trans bt hb2
    go_wp2_with fail
    refine hK.out _ _ (cells_kept bt _ _ hS0) (fun hS2=>?_)
    clear hK kx
    try simp only [Act.put,tka,tkb,tkc]
    refine tkm 3 6 (.tuple #[.agg #[va9,.map (some nb)],.int .i64 0]) ?_
    refine tkm 4 10 (.agg #[va9,.map (some nb)]) ?_
    refine tkm 5 11 (.int .i64 0) ?_
    refine tkr 6 4 (fun K hK=>?_)
    have hb3:Below V2.heap.size V2 (V2.alloc (.cells #[.slice none 0 0,.map none] 111)):=by go_grown
    have pX:Blk (V2.alloc (.cells #[.slice none 0 0,.map none] 111)) V2.heap.size 111 [.slice none 0 0,.map none]:=blkAt _ _ _ rfl
    have hXB:w.heap.size≤V2.heap.size:=Nat.le_trans bw.size bt.size
    replace sp:=sp.below hb3
    have bt:=bel_trans bt hb3
    go_simp
    refine hK.out _ _ (cells_kept bt _ _ hS0) (fun hS3=>?_)
    clear hK
    generalize (V2.alloc (.cells #[.slice none 0 0,.map none] 111))=V3 at *
    obtain ⟨X,hX⟩:∃ X,X=V2.heap.size:=⟨_,rfl⟩
    rw [← hX] at pX hXB ⊢
    clear hX
    try simp only [Act.put,tka,tkb,tkc]
    subst hva
    refine tkz 7 (fun K hK=>?_)
    refine step_store_blkD rfl 111 _ _ rfl X [.slice va8 vn8 vc8,.map (some nb)] rfl rfl pX (by kernel_rfl) rfl rfl ?_
    intro V9 pX9 g9
    have bz:=(bel_trans bw bt).grown g9 (bel_trans bw bt).size (fun q e=>by cases e;exact hXB)
    replace sp:=sp.grown g9 pX (by decide) (by decide)
    have hXP:X≠w.heap.size:=blk_ne pX (pP9.below bt) (by decide)
    have c9:=cells_kept bt _ _ hS0
    refine hK.out _ _ (cell_grownB g9 c9 (by simp;omega)) (fun hS4=>?_)
    clear hK
    try simp only [Act.put,tka,tkb,tkc]
    refine tkm 8 5 (.int .i64 0) ?_
    refine wpAnyH_done (by kernel_rfl) ?_ _
    go_wp2_with fail
    go_meet
    case rel=>exact CutK.mk9 (va:=.slice none 0 0) rfl rfl pX9.out sp hLF hXB hBv bz
   ·have hb3:Below V1.heap.size V1 (V1.alloc (.cells #[.slice none 0 0,.map none] 111)):=by go_grown
    have pX:Blk (V1.alloc (.cells #[.slice none 0 0,.map none] 111)) V1.heap.size 111 [.slice none 0 0,.map none]:=blkAt _ _ _ rfl
    have hXB:w.heap.size≤V1.heap.size:=Nat.le_trans bw.size bt.size
    replace hO:=hO.below hb3
    have bt:=bel_trans bt hb3
    go_simp
    refine hK.out _ _ (cells_kept bt _ _ hS0) (fun hS3=>?_)
    clear hK
    generalize (V1.alloc (.cells #[.slice none 0 0,.map none] 111))=V2 at *
    obtain ⟨X,hX⟩:∃ X,X=V1.heap.size:=⟨_,rfl⟩
    rw [← hX] at pX hXB ⊢
    clear hX
    try simp only [Act.put,tka,tkb,tkc]
    refine tkr 2 9 (fun K hK=>?_)
    have kx:=kS V2 (bel_trans bw bt) ((t0a,t0n,t0c),(t1a,t1n,t1c),(t2a,t2n,t2c),(t3a,t3n,t3c)) (hO.mem fz)
    rw [ut] at kx
    go_simp
    refine kx.mono ?_
    rintro e V3 ⟨va9,nb,cs',L,rfl,sp,hLF,hR',hb2⟩
    obtain rfl:=(hR.below (bel_trans bw bt)).uniq hR'
    have hBv:w.heap.size≤V2.heap.size:=Nat.le_trans bw.size bt.size
    obtain ⟨va8,vn8,vc8,hva⟩:=own_slice6 sp.row
    replace pX:=pX.below hb2
    have bt:=bel_trans bt hb2
    go_wp2_with fail
    refine hK.out _ _ (cells_kept bt _ _ hS0) (fun hS2=>?_)
    clear hK kx
    try simp only [Act.put,tka,tkb,tkc]
    refine tkm 3 6 (.tuple #[.agg #[va9,.map (some nb)],.int .i64 0]) ?_
    refine tkm 4 10 (.agg #[va9,.map (some nb)]) ?_
    refine tkm 5 11 (.int .i64 0) ?_
    subst hva
    refine tkz 7 (fun K hK=>?_)
    refine step_store_blkD rfl 111 _ _ rfl X [.slice va8 vn8 vc8,.map (some nb)] rfl rfl pX (by kernel_rfl) rfl rfl ?_
    intro V9 pX9 g9
    have bz:=(bel_trans bw bt).grown g9 (bel_trans bw bt).size (fun q e=>by cases e;exact hXB)
    replace sp:=sp.grown g9 pX (by decide) (by decide)
    have hXP:X≠w.heap.size:=blk_ne pX (pP9.below bt) (by decide)
    have c9:=cells_kept bt _ _ hS0
    refine hK.out _ _ (cell_grownB g9 c9 (by simp;omega)) (fun hS4=>?_)
    clear hK
    try simp only [Act.put,tka,tkb,tkc]
    refine tkm 8 5 (.int .i64 0) ?_
    refine wpAnyH_done (by kernel_rfl) ?_ _
    go_wp2_with fail
    go_meet
    case rel=>exact CutK.mk9 (va:=.slice none 0 0) rfl rfl pX9.out sp hLF hXB hBv bz
  ·have hb3:Below V.heap.size V (V.alloc (.cells #[.slice none 0 0,.map none] 111)):=by go_grown
   have pX:Blk (V.alloc (.cells #[.slice none 0 0,.map none] 111)) V.heap.size 111 [.slice none 0 0,.map none]:=blkAt _ _ _ rfl
   have hXB:w.heap.size≤V.heap.size:=Nat.le_trans bw.size bt.size
   have bt:=bel_trans bt hb3
   go_simp
   refine hK.out _ _ (cells_kept bt _ _ hS0) (fun hS3=>?_)
   clear hK
   generalize (V.alloc (.cells #[.slice none 0 0,.map none] 111))=V1 at *
   obtain ⟨X,hX⟩:∃ X,X=V.heap.size:=⟨_,rfl⟩
   rw [← hX] at pX hXB ⊢
   clear hX
   try simp only [Act.put,tka,tkb,tkc]
   refine tkr 1 8 (fun K hK=>?_)
   go_simp
   refine (kN V1).mono ?_
   rintro e V2 ⟨⟨⟨⟨t0a,t0n,t0c⟩,⟨t1a,t1n,t1c⟩,⟨t2a,t2n,t2c⟩,⟨t3a,t3n,t3c⟩⟩,rfl,hO⟩,hb1⟩
   have ut:S4.val ((t0a,t0n,t0c),(t1a,t1n,t1c),(t2a,t2n,t2c),(t3a,t3n,t3c))=.agg #[.slice t0a t0n t0c,.slice t1a t1n t1c,.slice t2a t2n t2c,.slice t3a t3n t3c]:=rfl
   rw [ut]
   have bt:=bel_trans bt hb1
   go_wp2_with fail
   refine hK.out _ _ (cells_kept bt _ _ hS0) (fun hS1=>?_)
   clear hK
   try simp only [Act.put,tka,tkb,tkc]
   replace pX:=pX.below hb1
   refine tkr 2 9 (fun K hK=>?_)
   have kx:=kS V2 (bel_trans bw bt) ((t0a,t0n,t0c),(t1a,t1n,t1c),(t2a,t2n,t2c),(t3a,t3n,t3c)) (hO.mem fz)
   rw [ut] at kx
   go_simp
   refine kx.mono ?_
   rintro e V3 ⟨va9,nb,cs',L,rfl,sp,hLF,hR',hb2⟩
   obtain rfl:=(hR.below (bel_trans bw bt)).uniq hR'
   have hBv:w.heap.size≤V2.heap.size:=Nat.le_trans bw.size bt.size
   obtain ⟨va8,vn8,vc8,hva⟩:=own_slice6 sp.row
   replace pX:=pX.below hb2
   have bt:=bel_trans bt hb2
   go_wp2_with fail
   refine hK.out _ _ (cells_kept bt _ _ hS0) (fun hS2=>?_)
   clear hK kx
   try simp only [Act.put,tka,tkb,tkc]
   refine tkm 3 6 (.tuple #[.agg #[va9,.map (some nb)],.int .i64 0]) ?_
   refine tkm 4 10 (.agg #[va9,.map (some nb)]) ?_
   refine tkm 5 11 (.int .i64 0) ?_
   subst hva
   refine tkz 7 (fun K hK=>?_)
   refine step_store_blkD rfl 111 _ _ rfl X [.slice va8 vn8 vc8,.map (some nb)] rfl rfl pX (by kernel_rfl) rfl rfl ?_
   intro V9 pX9 g9
   have bz:=(bel_trans bw bt).grown g9 (bel_trans bw bt).size (fun q e=>by cases e;exact hXB)
   replace sp:=sp.grown g9 pX (by decide) (by decide)
   have hXP:X≠w.heap.size:=blk_ne pX (pP9.below bt) (by decide)
   have c9:=cells_kept bt _ _ hS0
   refine hK.out _ _ (cell_grownB g9 c9 (by simp;omega)) (fun hS4=>?_)
   clear hK
   try simp only [Act.put,tka,tkb,tkc]
   refine tkm 8 5 (.int .i64 0) ?_
   refine wpAnyH_done (by kernel_rfl) ?_ _
   go_wp2_with fail
   go_meet
   case rel=>exact CutK.mk9 (va:=.slice none 0 0) rfl rfl pX9.out sp hLF hXB hBv bz
 obtain ⟨X,va,vc,nb,L,rfl,rfl,pX,sp,hLF,hXB,bz⟩:=hcut
 clear kS kN bw pP fz
 have hl2:L.length≤2000:=by
  have e:(L.map (·.1)).length=L.length:=by simp
  rw [hLF] at e
  omega
 have kB:=sbug_is sp pX hp (by rw [hLF];exact fullS_shaped hp) (fun k hk=>(hI k hk).below bz) hl2
 rw [hLF] at kB
 clear sp pX hLF hXB
 go_wp2_with fail
 refine kB.mono ?_
 rintro e w7 ⟨⟨v7,rfl,q7⟩,hb⟩
 have hwc:=bz.size
 replace bz:=bel_trans bz hb
 have HG:Hid (AbgGot (.returned (.tuple #[v7,.int .i64 0])) w7 w.heap.size (allI rows (fullS rows)) 0):=⟨_,rfl,own_lower q7 hwc⟩
 clear q7 hb kB
 go_wp2
 refine bodyPost_ret (by simp [results,Tryz.results31,go_sem];try rfl) rfl ?_
 exact ⟨HG.out,bz⟩
theorem implAllBugs_is (a:Option Addr) (len cap:Nat) (rows:List (List I3)) (w:World) (hC:Codes w a len cap rows) (hV:VmShape w) :
  Calls Tryz.prog 31 #[.agg #[.slice a len cap]] w fun e w'=>AbgGot e w' w.heap.size (bugsO rows) (codeF rows)∧Below w.heap.size w w':=by
 unfold bugsO
 by_cases h:codeF rows=0
 ·rw [if_pos h,h]
  exact implAllBugs_ok a len cap rows w hC hV h
 ·rw [if_neg h]
  exact implAllBugs_not a len cap rows w hC hV h


def CutN (u W:World) (s4 s5:Value):Prop:=∃ X,s4=.pointer (some ⟨X,0,none⟩)∧s5=.int .i64 1∧Below u.heap.size u W
def CutO (u W:World) (cs:Sl × Sl × Sl) (s4 s5:Value):Prop:=∃ X,s4=.pointer (some ⟨X,0,none⟩)∧s5=.int .i64 0∧Blk W X 94 (machCells cs.1.val cs.2.1.val cs.2.2.val zeroV)∧u.heap.size≤X∧Below u.heap.size u W
def slpC (rows:List (List I3)):Int:=if progOk rows then (if (slpS rows).2.2≤5000 then 0 else 15) else 1
def slpB (rows:List (List I3)):List I3:=if slpC rows=0 then mergeB (slpS rows).1 [] else []
def slpR (rows:List (List I3)):Int:=if slpC rows=0 then ((slpS rows).2.1:Int) else 0
def slpN (rows:List (List I3)):Int:=if slpC rows=0 then ((slpS rows).2.2:Int) else 0
def SlpGot (e:Ending) (w:World) (B:Nat) (bs:List I3) (r n c:Int):Prop:=∃ v,e=.returned (.tuple #[.agg #[v,.int .i64 r,.int .i64 n],.int .i64 c])∧w.ownsRow B 64 3 v bs.length (flat bs)
theorem slpL_P {rows:List (List I3)} {P:I3→Prop} {f:Nat} {m:V4} (hs:shapeOk m=true) (hp:progOk rows=true) (hO:∀ m k x,shapeOk m=true→haltM rows m k=0→x ∈ ownM rows m k→P x) (ih:∀ m Z st,shapeOk m=true→(∀ x ∈ st.1,P x)→∀ x ∈ (visI rows f m Z st).1,P x) :
  ∀ (ks Z:List Int) (st:St7),(∀ k ∈ ks,haltM rows m k=0)→(∀ x ∈ st.1,P x)→∀ x ∈ (slpL rows m (visI rows f) ks Z st).1,P x
 | [],Z,st,_,h=>h
 | k::ks,Z,st,hk,h=>by
  have hk':∀ j ∈ ks,haltM rows m j=0:=fun j hj=>hk j (List.mem_cons_of_mem _ hj)
  have h0:=hk k (List.mem_cons_self ..)
  by_cases hz:k ∈ Z
  ·rw [slpL_skip hz];exact slpL_P hs hp hO ih ks Z st hk' h
  ·rw [slpL_go hz]
   refine slpL_P hs hp hO ih ks _ _ hk' (ih _ _ _ (goM_shape hp hs h0) (fun x hx=>?_))
   rcases List.mem_append.1 hx with hx | hx
   ·exact h x hx
   ·exact hO m k x hs h0 hx
theorem vis_okB {rows:List (List I3)} (hp:progOk rows=true):∀ (f:Nat) (m:V4) (Z:List Int) (st:St7),shapeOk m=true→(∀ x ∈ st.1,okB x=true)→∀ x ∈ (visI rows f m Z st).1,okB x=true
 | 0,_,_,st,_,h=>h
 | f+1,m,Z,st,hs,h=>by
  rw [visI]
  split
  ·exact h
  ·refine slpL_P (P:=fun x=>okB x=true) hs hp (fun m k x h1 h2 h3=>ownM_ok hp h1 h2 x h3) (vis_okB hp f) _ _ _ (fun k hk=>enab_halt hk) (fun x hx=>?_)
   rcases List.mem_append.1 hx with hx | hx
   ·exact h x hx
   ·exact deadM_ok rows m x hx
theorem slp_fits {rows:List (List I3)} (hp:progOk rows=true):∀ x ∈ (slpS rows).1,I3.fits x:=fun x hx=>okB_fitsQ (vis_okB hp 19 zeroV [] ([],0,0) zero_shape (fun x hx=>by simp at hx) x hx)
theorem room19:roomT 19≤1000000000:=by decide
theorem slp_can {rows:List (List I3)} (hp:progOk rows=true):Can7 rows 19 zeroV [] ([],0,0):=⟨zero_shape,by have:=left_18 hp zeroV;omega,fun j hj=>by simp at hj,by simp,by simp only;have:=room19;omega,by simp,by simp⟩

set_option maxHeartbeats 4000000 in
theorem implSleep_bad (a:Option Addr) (len cap:Nat) (rows:List (List I3)) (w:World) (hC:Codes w a len cap rows) (hV:VmShape w) (hp:progOk rows=false) :
  Calls Tryz.prog 35 #[.agg #[.slice a len cap]] w fun e w'=>SlpGot e w' w.heap.size [] 0 0 1∧Below w.heap.size w w':=by
 have kN:=implNewVm_is
 have fz:=(shape_fits9 zero_shape).1
 have bw:Below w.heap.size w ((w.alloc (.cells #[.slice a len cap] 25)).alloc (.cells #[.slice none 0 0,.int .i64 0,.int .i64 0] 67)):=by go_grown
 have pP:Blk ((w.alloc (.cells #[.slice a len cap] 25)).alloc (.cells #[.slice none 0 0,.int .i64 0,.int .i64 0] 67)) w.heap.size 25 [.slice a len cap]:=blkOld _ (blkAt _ _ _ rfl)
 have pR:Blk ((w.alloc (.cells #[.slice a len cap] 25)).alloc (.cells #[.slice none 0 0,.int .i64 0,.int .i64 0] 67)) (w.heap.size+1) 67 [.slice none 0 0,.int .i64 0,.int .i64 0]:=blkAt _ _ _ (by simp)
 go_enter Tryz.func35,Tryz.ntmps35
 go_wp2_with fail
 generalize ((w.alloc (.cells #[.slice a len cap] 25)).alloc (.cells #[.slice none 0 0,.int .i64 0,.int .i64 0] 67))=U at *
 have kS:=fun (W:World) (b:Below U.heap.size U W) (t:S4) (h:Vmem W t zeroV)=>machineOf_bad a len cap rows t zeroV W (hC.below (bel_trans bw b)) h (hV.below (bel_trans bw b)) (by rw [hp];rfl)
 clear hC hV
 go_cut [4,5] from 8 (fun s4 s5 W=>CutN U W s4 s5)
 case first =>
  have hdr:Below U.heap.size U U.drew:=by go_grown
  refine wp_region_held_drew (S:=(fun w'=>w'.cell? ⟨w.heap.size,0,none⟩=some (.slice a len cap))) (by kernel_rfl) (by simpa using pP.cell 0) (fun hS0=>?_)
  refine tkm 0 9 (.agg #[.slice a len cap]) ?_
  have pP9:=pP.below hdr
  have bw:=hdr
  clear hdr
  generalize U.drew=V at *
  have bt:Below V.heap.size V V:=Below.refl _ _
  refine wpAnyH_ready (rs:=[1,6]) (by kernel_rfl) (by simp) ?_
  refine AllReadyH.cons (o:=⟨some 10,_,_,_,_,_⟩) rfl (fun K hK=>?_) (AllReadyH.cons (o:=⟨some 4,_,_,_,_,_⟩) rfl (fun K hK=>?_) AllReadyH.nil)
  ·go_simp
   refine (kN V).mono ?_
   rintro e V1 ⟨⟨⟨⟨t0a,t0n,t0c⟩,⟨t1a,t1n,t1c⟩,⟨t2a,t2n,t2c⟩,⟨t3a,t3n,t3c⟩⟩,rfl,hO⟩,hb1⟩
   have ut:S4.val ((t0a,t0n,t0c),(t1a,t1n,t1c),(t2a,t2n,t2c),(t3a,t3n,t3c))=.agg #[.slice t0a t0n t0c,.slice t1a t1n t1c,.slice t2a t2n t2c,.slice t3a t3n t3c]:=rfl
   rw [ut]
   have bt:=bel_trans bt hb1
   go_wp2_with fail
   refine hK.out _ _ (cells_kept bt _ _ hS0) (fun hS1=>?_)
   clear hK
   try simp only [Act.put,tka,tkb,tkc]
   refine wpAnyH_ready (rs:=[2,6]) (by kernel_rfl) (by simp) ?_
   refine AllReadyH.cons (o:=⟨some 11,_,_,_,_,_⟩) rfl (fun K hK=>?_) (AllReadyH.cons (o:=⟨some 4,_,_,_,_,_⟩) rfl (fun K hK=>?_) AllReadyH.nil)
   ·have kx:=kS V1 (bel_trans bw bt) ((t0a,t0n,t0c),(t1a,t1n,t1c),(t2a,t2n,t2c),(t3a,t3n,t3c)) (hO.mem fz)
    rw [ut] at kx
    go_simp
    refine kx.mono ?_
    rintro e V2 ⟨rfl,hb2⟩
    have bt:=bel_trans bt hb2
    go_wp2_with fail
    refine hK.out _ _ (cells_kept bt _ _ hS0) (fun hS2=>?_)
    clear hK kx
    try simp only [Act.put,tka,tkb,tkc]
    refine tkm 3 8 (.tuple #[.agg #[.slice none 0 0,.int .i64 0,.int .i64 0,.int .i64 0,.slice none 0 0,.int .i64 0,.int .i64 0,.int .i64 0,.slice none 0 0,.int .i64 0,.int .i64 0,.int .i64 0,.int .i64 0,.int .i64 0,.int .i64 0,.int .i64 0,.int .i64 0,.int .i64 0],.int .i64 1]) ?_
    refine tkm 4 12 (.agg #[.slice none 0 0,.int .i64 0,.int .i64 0,.int .i64 0,.slice none 0 0,.int .i64 0,.int .i64 0,.int .i64 0,.slice none 0 0,.int .i64 0,.int .i64 0,.int .i64 0,.int .i64 0,.int .i64 0,.int .i64 0,.int .i64 0,.int .i64 0,.int .i64 0]) ?_
    refine tkm 5 13 (.int .i64 1) ?_
    refine tkr 6 4 (fun K hK=>?_)
    have hb3:Below V2.heap.size V2 (V2.alloc (.cells #[.slice none 0 0,.int .i64 0,.int .i64 0,.int .i64 0,.slice none 0 0,.int .i64 0,.int .i64 0,.int .i64 0,.slice none 0 0,.int .i64 0,.int .i64 0,.int .i64 0,.int .i64 0,.int .i64 0,.int .i64 0,.int .i64 0,.int .i64 0,.int .i64 0] 94)):=by go_grown
    have pX:Blk (V2.alloc (.cells #[.slice none 0 0,.int .i64 0,.int .i64 0,.int .i64 0,.slice none 0 0,.int .i64 0,.int .i64 0,.int .i64 0,.slice none 0 0,.int .i64 0,.int .i64 0,.int .i64 0,.int .i64 0,.int .i64 0,.int .i64 0,.int .i64 0,.int .i64 0,.int .i64 0] 94)) V2.heap.size 94 [.slice none 0 0,.int .i64 0,.int .i64 0,.int .i64 0,.slice none 0 0,.int .i64 0,.int .i64 0,.int .i64 0,.slice none 0 0,.int .i64 0,.int .i64 0,.int .i64 0,.int .i64 0,.int .i64 0,.int .i64 0,.int .i64 0,.int .i64 0,.int .i64 0]:=blkAt _ _ _ rfl
    have hXB:U.heap.size≤V2.heap.size:=Nat.le_trans bw.size bt.size
    have bt:=bel_trans bt hb3
    go_simp
    refine hK.out _ _ (cells_kept bt _ _ hS0) (fun hS3=>?_)
    clear hK
    generalize (V2.alloc (.cells #[.slice none 0 0,.int .i64 0,.int .i64 0,.int .i64 0,.slice none 0 0,.int .i64 0,.int .i64 0,.int .i64 0,.slice none 0 0,.int .i64 0,.int .i64 0,.int .i64 0,.int .i64 0,.int .i64 0,.int .i64 0,.int .i64 0,.int .i64 0,.int .i64 0] 94))=V3 at *
    obtain ⟨X,hX⟩:∃ X,X=V2.heap.size:=⟨_,rfl⟩
    rw [← hX] at pX hXB ⊢
    clear hX
    try simp only [Act.put,tka,tkb,tkc]
    refine tkz 7 (fun K hK=>?_)
    refine step_store_blkD rfl 94 _ _ rfl X [.slice none 0 0,.int .i64 0,.int .i64 0,.int .i64 0,.slice none 0 0,.int .i64 0,.int .i64 0,.int .i64 0,.slice none 0 0,.int .i64 0,.int .i64 0,.int .i64 0,.int .i64 0,.int .i64 0,.int .i64 0,.int .i64 0,.int .i64 0,.int .i64 0] rfl rfl pX (by kernel_rfl) rfl rfl ?_
    intro V9 pX9 g9
    have bz:=(bel_trans bw bt).grown g9 (bel_trans bw bt).size (fun q e=>by cases e;exact hXB)
    have hXP:X≠w.heap.size:=blk_ne pX (pP9.below bt) (by decide)
    have c9:=cells_kept bt _ _ hS0
    refine hK.out _ _ (cell_grownB g9 c9 (by simp;omega)) (fun hS4=>?_)
    clear hK
    try simp only [Act.put,tka,tkb,tkc]
    refine tkm 8 5 (.int .i64 1) ?_
    refine wpAnyH_done (by kernel_rfl) ?_ _
    go_wp2_with fail
    go_meet
    case rel=>exact ⟨X,rfl,rfl,bz⟩
   ·have hb3:Below V1.heap.size V1 (V1.alloc (.cells #[.slice none 0 0,.int .i64 0,.int .i64 0,.int .i64 0,.slice none 0 0,.int .i64 0,.int .i64 0,.int .i64 0,.slice none 0 0,.int .i64 0,.int .i64 0,.int .i64 0,.int .i64 0,.int .i64 0,.int .i64 0,.int .i64 0,.int .i64 0,.int .i64 0] 94)):=by go_grown
    have pX:Blk (V1.alloc (.cells #[.slice none 0 0,.int .i64 0,.int .i64 0,.int .i64 0,.slice none 0 0,.int .i64 0,.int .i64 0,.int .i64 0,.slice none 0 0,.int .i64 0,.int .i64 0,.int .i64 0,.int .i64 0,.int .i64 0,.int .i64 0,.int .i64 0,.int .i64 0,.int .i64 0] 94)) V1.heap.size 94 [.slice none 0 0,.int .i64 0,.int .i64 0,.int .i64 0,.slice none 0 0,.int .i64 0,.int .i64 0,.int .i64 0,.slice none 0 0,.int .i64 0,.int .i64 0,.int .i64 0,.int .i64 0,.int .i64 0,.int .i64 0,.int .i64 0,.int .i64 0,.int .i64 0]:=blkAt _ _ _ rfl
    have hXB:U.heap.size≤V1.heap.size:=Nat.le_trans bw.size bt.size
    replace hO:=hO.below hb3
    have bt:=bel_trans bt hb3
    go_simp
    refine hK.out _ _ (cells_kept bt _ _ hS0) (fun hS3=>?_)
    clear hK
    generalize (V1.alloc (.cells #[.slice none 0 0,.int .i64 0,.int .i64 0,.int .i64 0,.slice none 0 0,.int .i64 0,.int .i64 0,.int .i64 0,.slice none 0 0,.int .i64 0,.int .i64 0,.int .i64 0,.int .i64 0,.int .i64 0,.int .i64 0,.int .i64 0,.int .i64 0,.int .i64 0] 94))=V2 at *
    obtain ⟨X,hX⟩:∃ X,X=V1.heap.size:=⟨_,rfl⟩
    rw [← hX] at pX hXB ⊢
    clear hX
    try simp only [Act.put,tka,tkb,tkc]
    refine tkr 2 11 (fun K hK=>?_)
    have kx:=kS V2 (bel_trans bw bt) ((t0a,t0n,t0c),(t1a,t1n,t1c),(t2a,t2n,t2c),(t3a,t3n,t3c)) (hO.mem fz)
    rw [ut] at kx
    go_simp
    refine kx.mono ?_
    rintro e V3 ⟨rfl,hb2⟩
    replace pX:=pX.below hb2
    have bt:=bel_trans bt hb2
    go_wp2_with fail
    refine hK.out _ _ (cells_kept bt _ _ hS0) (fun hS2=>?_)
    clear hK kx
    try simp only [Act.put,tka,tkb,tkc]
    refine tkm 3 8 (.tuple #[.agg #[.slice none 0 0,.int .i64 0,.int .i64 0,.int .i64 0,.slice none 0 0,.int .i64 0,.int .i64 0,.int .i64 0,.slice none 0 0,.int .i64 0,.int .i64 0,.int .i64 0,.int .i64 0,.int .i64 0,.int .i64 0,.int .i64 0,.int .i64 0,.int .i64 0],.int .i64 1]) ?_
    refine tkm 4 12 (.agg #[.slice none 0 0,.int .i64 0,.int .i64 0,.int .i64 0,.slice none 0 0,.int .i64 0,.int .i64 0,.int .i64 0,.slice none 0 0,.int .i64 0,.int .i64 0,.int .i64 0,.int .i64 0,.int .i64 0,.int .i64 0,.int .i64 0,.int .i64 0,.int .i64 0]) ?_
    refine tkm 5 13 (.int .i64 1) ?_
    refine tkz 7 (fun K hK=>?_)
    refine step_store_blkD rfl 94 _ _ rfl X [.slice none 0 0,.int .i64 0,.int .i64 0,.int .i64 0,.slice none 0 0,.int .i64 0,.int .i64 0,.int .i64 0,.slice none 0 0,.int .i64 0,.int .i64 0,.int .i64 0,.int .i64 0,.int .i64 0,.int .i64 0,.int .i64 0,.int .i64 0,.int .i64 0] rfl rfl pX (by kernel_rfl) rfl rfl ?_
    intro V9 pX9 g9
    have bz:=(bel_trans bw bt).grown g9 (bel_trans bw bt).size (fun q e=>by cases e;exact hXB)
    have hXP:X≠w.heap.size:=blk_ne pX (pP9.below bt) (by decide)
    have c9:=cells_kept bt _ _ hS0
    refine hK.out _ _ (cell_grownB g9 c9 (by simp;omega)) (fun hS4=>?_)
    clear hK
    try simp only [Act.put,tka,tkb,tkc]
    refine tkm 8 5 (.int .i64 1) ?_
    refine wpAnyH_done (by kernel_rfl) ?_ _
    go_wp2_with fail
    go_meet
    case rel=>exact ⟨X,rfl,rfl,bz⟩
  ·have hb3:Below V.heap.size V (V.alloc (.cells #[.slice none 0 0,.int .i64 0,.int .i64 0,.int .i64 0,.slice none 0 0,.int .i64 0,.int .i64 0,.int .i64 0,.slice none 0 0,.int .i64 0,.int .i64 0,.int .i64 0,.int .i64 0,.int .i64 0,.int .i64 0,.int .i64 0,.int .i64 0,.int .i64 0] 94)):=by go_grown
   have pX:Blk (V.alloc (.cells #[.slice none 0 0,.int .i64 0,.int .i64 0,.int .i64 0,.slice none 0 0,.int .i64 0,.int .i64 0,.int .i64 0,.slice none 0 0,.int .i64 0,.int .i64 0,.int .i64 0,.int .i64 0,.int .i64 0,.int .i64 0,.int .i64 0,.int .i64 0,.int .i64 0] 94)) V.heap.size 94 [.slice none 0 0,.int .i64 0,.int .i64 0,.int .i64 0,.slice none 0 0,.int .i64 0,.int .i64 0,.int .i64 0,.slice none 0 0,.int .i64 0,.int .i64 0,.int .i64 0,.int .i64 0,.int .i64 0,.int .i64 0,.int .i64 0,.int .i64 0,.int .i64 0]:=blkAt _ _ _ rfl
   have hXB:U.heap.size≤V.heap.size:=Nat.le_trans bw.size bt.size
   have bt:=bel_trans bt hb3
   go_simp
   refine hK.out _ _ (cells_kept bt _ _ hS0) (fun hS3=>?_)
   clear hK
   generalize (V.alloc (.cells #[.slice none 0 0,.int .i64 0,.int .i64 0,.int .i64 0,.slice none 0 0,.int .i64 0,.int .i64 0,.int .i64 0,.slice none 0 0,.int .i64 0,.int .i64 0,.int .i64 0,.int .i64 0,.int .i64 0,.int .i64 0,.int .i64 0,.int .i64 0,.int .i64 0] 94))=V1 at *
   obtain ⟨X,hX⟩:∃ X,X=V.heap.size:=⟨_,rfl⟩
   rw [← hX] at pX hXB ⊢
   clear hX
   try simp only [Act.put,tka,tkb,tkc]
   refine tkr 1 10 (fun K hK=>?_)
   go_simp
   refine (kN V1).mono ?_
   rintro e V2 ⟨⟨⟨⟨t0a,t0n,t0c⟩,⟨t1a,t1n,t1c⟩,⟨t2a,t2n,t2c⟩,⟨t3a,t3n,t3c⟩⟩,rfl,hO⟩,hb1⟩
   have ut:S4.val ((t0a,t0n,t0c),(t1a,t1n,t1c),(t2a,t2n,t2c),(t3a,t3n,t3c))=.agg #[.slice t0a t0n t0c,.slice t1a t1n t1c,.slice t2a t2n t2c,.slice t3a t3n t3c]:=rfl
   rw [ut]
   have bt:=bel_trans bt hb1
   go_wp2_with fail
   refine hK.out _ _ (cells_kept bt _ _ hS0) (fun hS1=>?_)
   clear hK
   try simp only [Act.put,tka,tkb,tkc]
   replace pX:=pX.below hb1
   refine tkr 2 11 (fun K hK=>?_)
   have kx:=kS V2 (bel_trans bw bt) ((t0a,t0n,t0c),(t1a,t1n,t1c),(t2a,t2n,t2c),(t3a,t3n,t3c)) (hO.mem fz)
   rw [ut] at kx
   go_simp
   refine kx.mono ?_
   rintro e V3 ⟨rfl,hb2⟩
   replace pX:=pX.below hb2
   have bt:=bel_trans bt hb2
   go_wp2_with fail
   refine hK.out _ _ (cells_kept bt _ _ hS0) (fun hS2=>?_)
   clear hK kx
   try simp only [Act.put,tka,tkb,tkc]
   refine tkm 3 8 (.tuple #[.agg #[.slice none 0 0,.int .i64 0,.int .i64 0,.int .i64 0,.slice none 0 0,.int .i64 0,.int .i64 0,.int .i64 0,.slice none 0 0,.int .i64 0,.int .i64 0,.int .i64 0,.int .i64 0,.int .i64 0,.int .i64 0,.int .i64 0,.int .i64 0,.int .i64 0],.int .i64 1]) ?_
   refine tkm 4 12 (.agg #[.slice none 0 0,.int .i64 0,.int .i64 0,.int .i64 0,.slice none 0 0,.int .i64 0,.int .i64 0,.int .i64 0,.slice none 0 0,.int .i64 0,.int .i64 0,.int .i64 0,.int .i64 0,.int .i64 0,.int .i64 0,.int .i64 0,.int .i64 0,.int .i64 0]) ?_
   refine tkm 5 13 (.int .i64 1) ?_
   refine tkz 7 (fun K hK=>?_)
   refine step_store_blkD rfl 94 _ _ rfl X [.slice none 0 0,.int .i64 0,.int .i64 0,.int .i64 0,.slice none 0 0,.int .i64 0,.int .i64 0,.int .i64 0,.slice none 0 0,.int .i64 0,.int .i64 0,.int .i64 0,.int .i64 0,.int .i64 0,.int .i64 0,.int .i64 0,.int .i64 0,.int .i64 0] rfl rfl pX (by kernel_rfl) rfl rfl ?_
   intro V9 pX9 g9
   have bz:=(bel_trans bw bt).grown g9 (bel_trans bw bt).size (fun q e=>by cases e;exact hXB)
   have hXP:X≠w.heap.size:=blk_ne pX (pP9.below bt) (by decide)
   have c9:=cells_kept bt _ _ hS0
   refine hK.out _ _ (cell_grownB g9 c9 (by simp;omega)) (fun hS4=>?_)
   clear hK
   try simp only [Act.put,tka,tkb,tkc]
   refine tkm 8 5 (.int .i64 1) ?_
   refine wpAnyH_done (by kernel_rfl) ?_ _
   go_wp2_with fail
   go_meet
   case rel=>exact ⟨X,rfl,rfl,bz⟩
 obtain ⟨X,rfl,rfl,bz⟩:=hcut
 replace bw:=bel_trans bw bz
 replace pR:=pR.below bz
 have hRl:=pR.lt
 clear kS kN pP bz fz
 go_wp2_with (refine wpList_store_blk rfl 67 _ _ rfl (w.heap.size+1) [.slice none 0 0,.int .i64 0,.int .i64 0] rfl rfl pR (by kernel_rfl) rfl rfl ?_)
 intro W2 pR2 g2
 have b2:=bw.grown g2 bw.size (fun q e=>by cases e;omega)
 go_wp2_with fail
 refine bodyPost_ret (results_blk2 Tryz.results35 _ _ _ _ _ _ rfl pR2.out Tryz.underlying67 rfl (by kernel_rfl)) rfl ?_
 exact ⟨⟨_,rfl,World.ownsRow_nil _ _ _ _⟩,b2⟩

set_option maxHeartbeats 4000000 in
theorem implSleep_ok (a:Option Addr) (len cap:Nat) (rows:List (List I3)) (w:World) (hC:Codes w a len cap rows) (hV:VmShape w) (hp:progOk rows=true) :
  Calls Tryz.prog 35 #[.agg #[.slice a len cap]] w fun e w'=>SlpGot e w' w.heap.size (slpB rows) (slpR rows) (slpN rows) (slpC rows)∧Below w.heap.size w w':=by
 obtain ⟨hlen,cs,hR⟩:=hC.rowsAt hp
 have kN:=implNewVm_is
 have fz:=(shape_fits9 zero_shape).1
 have bw:Below w.heap.size w ((w.alloc (.cells #[.slice a len cap] 25)).alloc (.cells #[.slice none 0 0,.int .i64 0,.int .i64 0] 67)):=by go_grown
 have pP:Blk ((w.alloc (.cells #[.slice a len cap] 25)).alloc (.cells #[.slice none 0 0,.int .i64 0,.int .i64 0] 67)) w.heap.size 25 [.slice a len cap]:=blkOld _ (blkAt _ _ _ rfl)
 have pR:Blk ((w.alloc (.cells #[.slice a len cap] 25)).alloc (.cells #[.slice none 0 0,.int .i64 0,.int .i64 0] 67)) (w.heap.size+1) 67 [.slice none 0 0,.int .i64 0,.int .i64 0]:=blkAt _ _ _ (by simp)
 clear hlen
 go_enter Tryz.func35,Tryz.ntmps35
 go_wp2_with fail
 generalize ((w.alloc (.cells #[.slice a len cap] 25)).alloc (.cells #[.slice none 0 0,.int .i64 0,.int .i64 0] 67))=U at *
 have kS:=fun (W:World) (b:Below U.heap.size U W) (t:S4) (h:Vmem W t zeroV)=>machineOf_ok a len cap rows t zeroV W (hC.below (bel_trans bw b)) h (hV.below (bel_trans bw b)) hp zero_shape
 replace hR:=hR.below bw
 clear hC hV
 go_cut [4,5] from 8 (fun s4 s5 W=>CutO U W cs s4 s5)
 case first =>
  have hdr:Below U.heap.size U U.drew:=by go_grown
  refine wp_region_held_drew (S:=(fun w'=>w'.cell? ⟨w.heap.size,0,none⟩=some (.slice a len cap))) (by kernel_rfl) (by simpa using pP.cell 0) (fun hS0=>?_)
  refine tkm 0 9 (.agg #[.slice a len cap]) ?_
  have pP9:=pP.below hdr
  have bw:=hdr
  clear hdr
  generalize U.drew=V at *
  have bt:Below V.heap.size V V:=Below.refl _ _
  refine wpAnyH_ready (rs:=[1,6]) (by kernel_rfl) (by simp) ?_
  refine AllReadyH.cons (o:=⟨some 10,_,_,_,_,_⟩) rfl (fun K hK=>?_) (AllReadyH.cons (o:=⟨some 4,_,_,_,_,_⟩) rfl (fun K hK=>?_) AllReadyH.nil)
  ·go_simp
   refine (kN V).mono ?_
   rintro e V1 ⟨⟨⟨⟨t0a,t0n,t0c⟩,⟨t1a,t1n,t1c⟩,⟨t2a,t2n,t2c⟩,⟨t3a,t3n,t3c⟩⟩,rfl,hO⟩,hb1⟩
   have ut:S4.val ((t0a,t0n,t0c),(t1a,t1n,t1c),(t2a,t2n,t2c),(t3a,t3n,t3c))=.agg #[.slice t0a t0n t0c,.slice t1a t1n t1c,.slice t2a t2n t2c,.slice t3a t3n t3c]:=rfl
   rw [ut]
   have bt:=bel_trans bt hb1
   go_wp2_with fail
   refine hK.out _ _ (cells_kept bt _ _ hS0) (fun hS1=>?_)
   clear hK
   try simp only [Act.put,tka,tkb,tkc]
   refine wpAnyH_ready (rs:=[2,6]) (by kernel_rfl) (by simp) ?_
   refine AllReadyH.cons (o:=⟨some 11,_,_,_,_,_⟩) rfl (fun K hK=>?_) (AllReadyH.cons (o:=⟨some 4,_,_,_,_,_⟩) rfl (fun K hK=>?_) AllReadyH.nil)
   ·have kx:=kS V1 (bel_trans bw bt) ((t0a,t0n,t0c),(t1a,t1n,t1c),(t2a,t2n,t2c),(t3a,t3n,t3c)) (hO.mem fz)
    rw [ut] at kx
    go_simp
    refine kx.mono ?_
    rintro e V2 ⟨⟨cs',rfl,hR'⟩,hb2⟩
    obtain rfl:=(hR.below (bel_trans bw bt)).uniq hR'
    have bt:=bel_trans bt hb2
    go_wp2_with fail
    refine hK.out _ _ (cells_kept bt _ _ hS0) (fun hS2=>?_)
    clear hK kx
    try simp only [Act.put,tka,tkb,tkc]
    refine tkm 3 8 (.tuple #[.agg (machCells cs.1.val cs.2.1.val cs.2.2.val zeroV).toArray,.int .i64 0]) ?_
    refine tkm 4 12 (.agg (machCells cs.1.val cs.2.1.val cs.2.2.val zeroV).toArray) ?_
    refine tkm 5 13 (.int .i64 0) ?_
    refine tkr 6 4 (fun K hK=>?_)
    have hb3:Below V2.heap.size V2 (V2.alloc (.cells #[.slice none 0 0,.int .i64 0,.int .i64 0,.int .i64 0,.slice none 0 0,.int .i64 0,.int .i64 0,.int .i64 0,.slice none 0 0,.int .i64 0,.int .i64 0,.int .i64 0,.int .i64 0,.int .i64 0,.int .i64 0,.int .i64 0,.int .i64 0,.int .i64 0] 94)):=by go_grown
    have pX:Blk (V2.alloc (.cells #[.slice none 0 0,.int .i64 0,.int .i64 0,.int .i64 0,.slice none 0 0,.int .i64 0,.int .i64 0,.int .i64 0,.slice none 0 0,.int .i64 0,.int .i64 0,.int .i64 0,.int .i64 0,.int .i64 0,.int .i64 0,.int .i64 0,.int .i64 0,.int .i64 0] 94)) V2.heap.size 94 [.slice none 0 0,.int .i64 0,.int .i64 0,.int .i64 0,.slice none 0 0,.int .i64 0,.int .i64 0,.int .i64 0,.slice none 0 0,.int .i64 0,.int .i64 0,.int .i64 0,.int .i64 0,.int .i64 0,.int .i64 0,.int .i64 0,.int .i64 0,.int .i64 0]:=blkAt _ _ _ rfl
    have hXB:U.heap.size≤V2.heap.size:=Nat.le_trans bw.size bt.size
    have bt:=bel_trans bt hb3
    go_simp
    refine hK.out _ _ (cells_kept bt _ _ hS0) (fun hS3=>?_)
    clear hK
    generalize (V2.alloc (.cells #[.slice none 0 0,.int .i64 0,.int .i64 0,.int .i64 0,.slice none 0 0,.int .i64 0,.int .i64 0,.int .i64 0,.slice none 0 0,.int .i64 0,.int .i64 0,.int .i64 0,.int .i64 0,.int .i64 0,.int .i64 0,.int .i64 0,.int .i64 0,.int .i64 0] 94))=V3 at *
    obtain ⟨X,hX⟩:∃ X,X=V2.heap.size:=⟨_,rfl⟩
    rw [← hX] at pX hXB ⊢
    clear hX
    try simp only [Act.put,tka,tkb,tkc]
    refine tkz 7 (fun K hK=>?_)
    refine step_store_blkD rfl 94 _ _ rfl X (machCells cs.1.val cs.2.1.val cs.2.2.val zeroV) rfl rfl pX (by kernel_rfl) rfl rfl ?_
    intro V9 pX9 g9
    have bz:=(bel_trans bw bt).grown g9 (bel_trans bw bt).size (fun q e=>by cases e;exact hXB)
    have hXP:X≠w.heap.size:=blk_ne pX (pP9.below bt) (by decide)
    have c9:=cells_kept bt _ _ hS0
    refine hK.out _ _ (cell_grownB g9 c9 (by simp;omega)) (fun hS4=>?_)
    clear hK
    try simp only [Act.put,tka,tkb,tkc]
    refine tkm 8 5 (.int .i64 0) ?_
    refine wpAnyH_done (by kernel_rfl) ?_ _
    go_wp2_with fail
    go_meet
    case rel=>exact ⟨X,rfl,rfl,pX9.out,hXB,bz⟩
   ·have hb3:Below V1.heap.size V1 (V1.alloc (.cells #[.slice none 0 0,.int .i64 0,.int .i64 0,.int .i64 0,.slice none 0 0,.int .i64 0,.int .i64 0,.int .i64 0,.slice none 0 0,.int .i64 0,.int .i64 0,.int .i64 0,.int .i64 0,.int .i64 0,.int .i64 0,.int .i64 0,.int .i64 0,.int .i64 0] 94)):=by go_grown
    have pX:Blk (V1.alloc (.cells #[.slice none 0 0,.int .i64 0,.int .i64 0,.int .i64 0,.slice none 0 0,.int .i64 0,.int .i64 0,.int .i64 0,.slice none 0 0,.int .i64 0,.int .i64 0,.int .i64 0,.int .i64 0,.int .i64 0,.int .i64 0,.int .i64 0,.int .i64 0,.int .i64 0] 94)) V1.heap.size 94 [.slice none 0 0,.int .i64 0,.int .i64 0,.int .i64 0,.slice none 0 0,.int .i64 0,.int .i64 0,.int .i64 0,.slice none 0 0,.int .i64 0,.int .i64 0,.int .i64 0,.int .i64 0,.int .i64 0,.int .i64 0,.int .i64 0,.int .i64 0,.int .i64 0]:=blkAt _ _ _ rfl
    have hXB:U.heap.size≤V1.heap.size:=Nat.le_trans bw.size bt.size
    replace hO:=hO.below hb3
    have bt:=bel_trans bt hb3
    go_simp
    refine hK.out _ _ (cells_kept bt _ _ hS0) (fun hS3=>?_)
    clear hK
    generalize (V1.alloc (.cells #[.slice none 0 0,.int .i64 0,.int .i64 0,.int .i64 0,.slice none 0 0,.int .i64 0,.int .i64 0,.int .i64 0,.slice none 0 0,.int .i64 0,.int .i64 0,.int .i64 0,.int .i64 0,.int .i64 0,.int .i64 0,.int .i64 0,.int .i64 0,.int .i64 0] 94))=V2 at *
    obtain ⟨X,hX⟩:∃ X,X=V1.heap.size:=⟨_,rfl⟩
    rw [← hX] at pX hXB ⊢
    clear hX
    try simp only [Act.put,tka,tkb,tkc]
    refine tkr 2 11 (fun K hK=>?_)
    have kx:=kS V2 (bel_trans bw bt) ((t0a,t0n,t0c),(t1a,t1n,t1c),(t2a,t2n,t2c),(t3a,t3n,t3c)) (hO.mem fz)
    rw [ut] at kx
    go_simp
    refine kx.mono ?_
    rintro e V3 ⟨⟨cs',rfl,hR'⟩,hb2⟩
    obtain rfl:=(hR.below (bel_trans bw bt)).uniq hR'
    replace pX:=pX.below hb2
    have bt:=bel_trans bt hb2
    go_wp2_with fail
    refine hK.out _ _ (cells_kept bt _ _ hS0) (fun hS2=>?_)
    clear hK kx
    try simp only [Act.put,tka,tkb,tkc]
    refine tkm 3 8 (.tuple #[.agg (machCells cs.1.val cs.2.1.val cs.2.2.val zeroV).toArray,.int .i64 0]) ?_
    refine tkm 4 12 (.agg (machCells cs.1.val cs.2.1.val cs.2.2.val zeroV).toArray) ?_
    refine tkm 5 13 (.int .i64 0) ?_
    refine tkz 7 (fun K hK=>?_)
    refine step_store_blkD rfl 94 _ _ rfl X (machCells cs.1.val cs.2.1.val cs.2.2.val zeroV) rfl rfl pX (by kernel_rfl) rfl rfl ?_
    intro V9 pX9 g9
    have bz:=(bel_trans bw bt).grown g9 (bel_trans bw bt).size (fun q e=>by cases e;exact hXB)
    have hXP:X≠w.heap.size:=blk_ne pX (pP9.below bt) (by decide)
    have c9:=cells_kept bt _ _ hS0
    refine hK.out _ _ (cell_grownB g9 c9 (by simp;omega)) (fun hS4=>?_)
    clear hK
    try simp only [Act.put,tka,tkb,tkc]
    refine tkm 8 5 (.int .i64 0) ?_
    refine wpAnyH_done (by kernel_rfl) ?_ _
    go_wp2_with fail
    go_meet
    case rel=>exact ⟨X,rfl,rfl,pX9.out,hXB,bz⟩
  ·have hb3:Below V.heap.size V (V.alloc (.cells #[.slice none 0 0,.int .i64 0,.int .i64 0,.int .i64 0,.slice none 0 0,.int .i64 0,.int .i64 0,.int .i64 0,.slice none 0 0,.int .i64 0,.int .i64 0,.int .i64 0,.int .i64 0,.int .i64 0,.int .i64 0,.int .i64 0,.int .i64 0,.int .i64 0] 94)):=by go_grown
   have pX:Blk (V.alloc (.cells #[.slice none 0 0,.int .i64 0,.int .i64 0,.int .i64 0,.slice none 0 0,.int .i64 0,.int .i64 0,.int .i64 0,.slice none 0 0,.int .i64 0,.int .i64 0,.int .i64 0,.int .i64 0,.int .i64 0,.int .i64 0,.int .i64 0,.int .i64 0,.int .i64 0] 94)) V.heap.size 94 [.slice none 0 0,.int .i64 0,.int .i64 0,.int .i64 0,.slice none 0 0,.int .i64 0,.int .i64 0,.int .i64 0,.slice none 0 0,.int .i64 0,.int .i64 0,.int .i64 0,.int .i64 0,.int .i64 0,.int .i64 0,.int .i64 0,.int .i64 0,.int .i64 0]:=blkAt _ _ _ rfl
   have hXB:U.heap.size≤V.heap.size:=Nat.le_trans bw.size bt.size
   have bt:=bel_trans bt hb3
   go_simp
   refine hK.out _ _ (cells_kept bt _ _ hS0) (fun hS3=>?_)
   clear hK
   generalize (V.alloc (.cells #[.slice none 0 0,.int .i64 0,.int .i64 0,.int .i64 0,.slice none 0 0,.int .i64 0,.int .i64 0,.int .i64 0,.slice none 0 0,.int .i64 0,.int .i64 0,.int .i64 0,.int .i64 0,.int .i64 0,.int .i64 0,.int .i64 0,.int .i64 0,.int .i64 0] 94))=V1 at *
   obtain ⟨X,hX⟩:∃ X,X=V.heap.size:=⟨_,rfl⟩
   rw [← hX] at pX hXB ⊢
   clear hX
   try simp only [Act.put,tka,tkb,tkc]
   refine tkr 1 10 (fun K hK=>?_)
   go_simp
   refine (kN V1).mono ?_
   rintro e V2 ⟨⟨⟨⟨t0a,t0n,t0c⟩,⟨t1a,t1n,t1c⟩,⟨t2a,t2n,t2c⟩,⟨t3a,t3n,t3c⟩⟩,rfl,hO⟩,hb1⟩
   have ut:S4.val ((t0a,t0n,t0c),(t1a,t1n,t1c),(t2a,t2n,t2c),(t3a,t3n,t3c))=.agg #[.slice t0a t0n t0c,.slice t1a t1n t1c,.slice t2a t2n t2c,.slice t3a t3n t3c]:=rfl
   rw [ut]
   have bt:=bel_trans bt hb1
   go_wp2_with fail
   refine hK.out _ _ (cells_kept bt _ _ hS0) (fun hS1=>?_)
   clear hK
   try simp only [Act.put,tka,tkb,tkc]
   replace pX:=pX.below hb1
   refine tkr 2 11 (fun K hK=>?_)
   have kx:=kS V2 (bel_trans bw bt) ((t0a,t0n,t0c),(t1a,t1n,t1c),(t2a,t2n,t2c),(t3a,t3n,t3c)) (hO.mem fz)
   rw [ut] at kx
   go_simp
   refine kx.mono ?_
   rintro e V3 ⟨⟨cs',rfl,hR'⟩,hb2⟩
   obtain rfl:=(hR.below (bel_trans bw bt)).uniq hR'
   replace pX:=pX.below hb2
   have bt:=bel_trans bt hb2
   go_wp2_with fail
   refine hK.out _ _ (cells_kept bt _ _ hS0) (fun hS2=>?_)
   clear hK kx
   try simp only [Act.put,tka,tkb,tkc]
   refine tkm 3 8 (.tuple #[.agg (machCells cs.1.val cs.2.1.val cs.2.2.val zeroV).toArray,.int .i64 0]) ?_
   refine tkm 4 12 (.agg (machCells cs.1.val cs.2.1.val cs.2.2.val zeroV).toArray) ?_
   refine tkm 5 13 (.int .i64 0) ?_
   refine tkz 7 (fun K hK=>?_)
   refine step_store_blkD rfl 94 _ _ rfl X (machCells cs.1.val cs.2.1.val cs.2.2.val zeroV) rfl rfl pX (by kernel_rfl) rfl rfl ?_
   intro V9 pX9 g9
   have bz:=(bel_trans bw bt).grown g9 (bel_trans bw bt).size (fun q e=>by cases e;exact hXB)
   have hXP:X≠w.heap.size:=blk_ne pX (pP9.below bt) (by decide)
   have c9:=cells_kept bt _ _ hS0
   refine hK.out _ _ (cell_grownB g9 c9 (by simp;omega)) (fun hS4=>?_)
   clear hK
   try simp only [Act.put,tka,tkb,tkc]
   refine tkm 8 5 (.int .i64 0) ?_
   refine wpAnyH_done (by kernel_rfl) ?_ _
   go_wp2_with fail
   go_meet
   case rel=>exact ⟨X,rfl,rfl,pX9.out,hXB,bz⟩
 obtain ⟨S0,rfl,rfl,pS,hUS,bz⟩:=hcut
 have hI:∀ k,k<3→Instrs wc (slK cs k).1 (slK cs k).2.1 (slK cs k).2.2 (codeM rows k):=fun k hk=>by obtain ⟨_,_,_,_,h9⟩:=hR.below bz;exact (h9 k hk).2
 replace bw:=bel_trans bw bz
 replace pR:=pR.below bz
 have hRl:=pR.lt
 clear kS kN pP bz fz hR
 have hVC:VisC rows wc wc.heap.size (wc.heap.size+1) cs 19:=visit_is hp hI (Nat.le_refl _) 19
 have HV:Hid (VisC rows wc wc.heap.size (wc.heap.size+1) cs 19):=hVC
 clear hVC hI
 have hsf:∀ W:World,(store ⟨wc.heap.size+1,0,none⟩ (.func (.func 76) #[] #[.pointer (some ⟨wc.heap.size,0,none⟩),.pointer (some ⟨wc.heap.size+1,0,none⟩)])).run Tryz.prog W=stored Tryz.prog W ⟨wc.heap.size+1,0,none⟩ (.func (.func 76) #[] #[.pointer (some ⟨wc.heap.size,0,none⟩),.pointer (some ⟨wc.heap.size+1,0,none⟩)]) .plain:=fun W=>run_store _ _ _ _ _ rfl
 have gA:Below wc.heap.size wc ((wc.alloc (.cells #[.slice none 0 0,.int .i64 0,.int .i64 0] 67)).alloc (.cells #[.func (.func 76) #[] #[.pointer (some ⟨wc.heap.size,0,none⟩),.pointer (some ⟨wc.heap.size+1,0,none⟩)]] 129)):=by go_grown
 have pX:Blk ((wc.alloc (.cells #[.slice none 0 0,.int .i64 0,.int .i64 0] 67)).alloc (.cells #[.func (.func 76) #[] #[.pointer (some ⟨wc.heap.size,0,none⟩),.pointer (some ⟨wc.heap.size+1,0,none⟩)]] 129)) wc.heap.size 67 [.slice none 0 0,.int .i64 0,.int .i64 0]:=blkOld _ (blkAt _ _ _ rfl)
 have pV:Blk ((wc.alloc (.cells #[.slice none 0 0,.int .i64 0,.int .i64 0] 67)).alloc (.cells #[.func (.func 76) #[] #[.pointer (some ⟨wc.heap.size,0,none⟩),.pointer (some ⟨wc.heap.size+1,0,none⟩)]] 129)) (wc.heap.size+1) 129 [.func (.func 76) #[] #[.pointer (some ⟨wc.heap.size,0,none⟩),.pointer (some ⟨wc.heap.size+1,0,none⟩)]]:=blkAt _ _ _ (by simp)
 have cV:((wc.alloc (.cells #[.slice none 0 0,.int .i64 0,.int .i64 0] 67)).alloc (.cells #[.func (.func 76) #[] #[.pointer (some ⟨wc.heap.size,0,none⟩),.pointer (some ⟨wc.heap.size+1,0,none⟩)]] 129)).cell? ⟨wc.heap.size+1,0,none⟩=some (.func (.func 76) #[] #[.pointer (some ⟨wc.heap.size,0,none⟩),.pointer (some ⟨wc.heap.size+1,0,none⟩)]):=pV.cell 0
 have pS2:=pS.below gA
 have kV:=HV.out zeroV [] ([],0,0) (slp_can hp) ((wc.alloc (.cells #[.slice none 0 0,.int .i64 0,.int .i64 0] 67)).alloc (.cells #[.func (.func 76) #[] #[.pointer (some ⟨wc.heap.size,0,none⟩),.pointer (some ⟨wc.heap.size+1,0,none⟩)]] 129)) (.slice none 0 0) (.slice none 0 0) gA ⟨pX,World.ownsRow_nil _ _ _ _,pV⟩ (World.ownsRow_nil _ _ _ _)
 have hfit:=slp_fits hp
 have hsz:=visI_size rows 19 zeroV [] ([],0,0) 0 (by simp) (by simp)
 have hrm:=visI_room rows 19 zeroV [] ([],0,0)
 have hr19:=room19
 have HE1:Hid (slpC rows=if (slpS rows).2.2≤5000 then 0 else 15):=by rw [Hid,slpC,hp];rfl
 have HE2:Hid (slpB rows=if slpC rows=0 then mergeB (slpS rows).1 [] else []):=rfl
 have HE3:Hid (slpR rows=if slpC rows=0 then ((slpS rows).2.1:Int) else 0):=rfl
 have HE4:Hid (slpN rows=if slpC rows=0 then ((slpS rows).2.2:Int) else 0):=rfl
 have eS:visI rows 19 zeroV [] ([],0,0)=slpS rows:=rfl
 rw [eS] at kV hsz hrm
 generalize slpS rows=st at *
 obtain ⟨bs,rn,nd⟩:=st
 simp only at hsz hrm hfit HE1 HE2 HE3 HE4
 clear HV pS eS hp
 go_wp2_with (first | refine wpList_load_blk rfl 94 _ rfl S0 rfl pS2 _ Tryz.underlying94 rfl (by kernel_rfl) ?_)
 refine kV.mono ?_
 rintro e w1 ⟨rfl,bv,⟨pX1,q1,pV1⟩,mb,kp⟩
 have b1:Below wc.heap.size wc w1:=gA.trans (kp.below (Nat.le_refl _) (fun q hq=>by simp [Value.ownBlock] at hq) (fun q hq=>by simp [Value.ownBlock] at hq) gA.size)
 replace bw:=bel_trans bw b1
 replace pR:=pR.below b1
 have hX0:w.heap.size+1<wc.heap.size:=hRl
 clear kV gA pX pV cV pS2 hsf mb kp pV1 b1 hUS
 simp only at pX1 q1
 obtain ⟨X,hX⟩:∃ X,X=wc.heap.size:=⟨_,rfl⟩
 rw [← hX] at pX1 q1 hX0 ⊢
 have hwX:w.heap.size≤X:=by omega
 clear hX hRl
 have cX2:w1.cell? ⟨X,2,none⟩=some (.int .i64 (nd:Int)):=by simpa using pX1.cell 2
 by_cases h5:nd≤5000
 ·have h5':¬ (5000<(nd:Int)):=by omega
  have HC:Hid (slpC rows=0):=by rw [Hid,HE1.out,if_pos h5]
  have HB:Hid (slpB rows=mergeB bs []):=by rw [Hid,HE2.out,HC.out];rfl
  have HR:Hid (slpR rows=(rn:Int)):=by rw [Hid,HE3.out,HC.out];rfl
  have HN:Hid (slpN rows=(nd:Int)):=by rw [Hid,HE4.out,HC.out];rfl
  clear HE1 HE2 HE3 HE4
  obtain ⟨ba,bc,rfl,hIn,hGd⟩:=bugs_sliceR q1 hfit
  have kM:=mergedBugs_is ba bs.length bc bs none 0 0 [] w1 hIn ⟨rfl,Nat.le_refl _,by unfold maxLen;omega,by simp,.inl rfl⟩ (by omega) (by omega) hGd ⟨fun _=>rfl,fun x hx=>by cases hx⟩
  have cX0:w1.cell? ⟨X,0,none⟩=some (.slice ba bs.length bc):=by simpa using pX1.cell 0
  clear q1 hIn hGd hfit hsz hrm hr19
  go_wp2_with fail
  refine kM.mono ?_
  rintro e w2 ⟨⟨v5,rfl,q5⟩,hb⟩
  have hw1:=bw.size
  replace bw:=bel_trans bw hb
  replace pR:=pR.below hb
  replace pX1:=pX1.below hb
  clear kM hb cX0 cX2
  have q6:=own_lowerB (B':=w.heap.size) q5 hw1
  clear q5
  obtain ⟨va,vn,vc,rfl⟩:=own_slice6 q6
  have cX0:w2.cell? ⟨X,0,none⟩=some (.slice ba bs.length bc):=by simpa using pX1.cell 0
  have fX0:=pX1.frozen 0
  have gX:=grown_cell w2 X 0 (.slice va vn vc)
  have pX2:Blk (w2.setCell ⟨X,0,none⟩ (.slice va vn vc)) X 67 [.slice va vn vc,.int .i64 (rn:Int),.int .i64 (nd:Int)]:=pX1.set 0 (.slice va vn vc)
  have pR2:=pR.kept gX (by simp;omega)
  have q7:=q6.kept gX (.inr (own_ne_blk9 q6 pX1 (by decide)))
  have bw2:=bw.grown gX bw.size (fun q e=>by cases e;exact hwX)
  clear pX1 pR q6 bw gX
  go_wp2_with (first | refine wpList_load_blk rfl 67 _ rfl X rfl pX2 _ Tryz.underlying67 rfl (by kernel_rfl) ?_ | refine wpList_store_blk rfl 67 _ _ rfl (w.heap.size+1) [.slice va vn vc,.int .i64 (rn:Int),.int .i64 (nd:Int)] rfl rfl pR2 (by kernel_rfl) rfl rfl ?_)
  intro w3 pR3 g3
  have b3:=bw2.grown g3 bw2.size (fun q e=>by cases e;omega)
  have q8:=q7.kept g3 (.inr (own_ne_blk9 q7 pR2 (by decide)))
  clear pX2 pR2 q7 bw2 g3 cX0 fX0
  go_wp2_with fail
  refine bodyPost_ret (results_blk2 Tryz.results35 _ _ _ _ _ _ rfl pR3.out Tryz.underlying67 rfl (by kernel_rfl)) rfl ?_
  refine ⟨⟨.slice va vn vc,?_,?_⟩,b3⟩
  ·rw [HR.out,HN.out,HC.out];rfl
  ·rw [HB.out];exact q8
 ·have h5':5000<(nd:Int):=by omega
  have HC:Hid (slpC rows=15):=by rw [Hid,HE1.out,if_neg h5]
  have HB:Hid (slpB rows=[]):=by rw [Hid,HE2.out,HC.out];rfl
  have HR:Hid (slpR rows=0):=by rw [Hid,HE3.out,HC.out];rfl
  have HN:Hid (slpN rows=0):=by rw [Hid,HE4.out,HC.out];rfl
  clear HE1 HE2 HE3 HE4 q1 hfit hsz hrm hr19 h5
  go_wp2_with (refine wpList_store_blk rfl 67 _ _ rfl (w.heap.size+1) [.slice none 0 0,.int .i64 0,.int .i64 0] rfl rfl pR (by kernel_rfl) rfl rfl ?_)
  intro w3 pR3 g3
  have b3:=bw.grown g3 bw.size (fun q e=>by cases e;omega)
  go_wp2_with fail
  refine bodyPost_ret (results_blk2 Tryz.results35 _ _ _ _ _ _ rfl pR3.out Tryz.underlying67 rfl (by kernel_rfl)) rfl ?_
  refine ⟨⟨.slice none 0 0,?_,?_⟩,b3⟩
  ·rw [HR.out,HN.out,HC.out];rfl
  ·rw [HB.out];exact World.ownsRow_nil _ _ _ _

theorem implSleepSearch_is (a:Option Addr) (len cap:Nat) (rows:List (List I3)) (w:World) (hC:Codes w a len cap rows) (hV:VmShape w) :
  Calls Tryz.prog 35 #[.agg #[.slice a len cap]] w fun e w'=>SlpGot e w' w.heap.size (slpB rows) (slpR rows) (slpN rows) (slpC rows)∧Below w.heap.size w w':=by
 cases hp:progOk rows with
 | true=>exact implSleep_ok a len cap rows w hC hV hp
 | false =>
  have e:slpC rows=1:=by unfold slpC;rw [hp];rfl
  have e1:slpB rows=[]:=by unfold slpB;rw [e];rfl
  have e2:slpR rows=0:=by unfold slpR;rw [e];rfl
  have e3:slpN rows=0:=by unfold slpN;rw [e];rfl
  rw [e,e1,e2,e3]
  exact implSleep_bad a len cap rows w hC hV hp


set_option maxHeartbeats 1600000 in
theorem l05Event_raw (b9 off9 cap b0 o0 c0:Nat) (a1:Option Addr) (n1 c1:Nat) (a2:Option Addr) (n2 c2:Nat) (a3:Option Addr) (n3 c3:Nat) (k p b off n c:Nat) (x0 x1 x2:Int) (w:World) (hk:k<3) (hp:p<n) (hx:-1000≤x1∧x1≤1000)
  (f0:w.cell? ⟨b9,off9+k,none⟩=some (.slice (some ⟨b,off,none⟩) n c)) (e1:w.cell? ⟨b0,o0+k,none⟩=some (.int .i64 p)) (q0:w.cell? ⟨b,off+p*3,none⟩=some (.int .i64 x0)) (q1:w.cell? ⟨b,off+p*3+1,none⟩=some (.int .i64 x1)) (q2:w.cell? ⟨b,off+p*3+2,none⟩=some (.int .i64 x2)) :
  Calls Tryz.prog 110 #[.agg #[.slice (some ⟨b9,off9,none⟩) 3 cap],.agg #[.slice (some ⟨b0,o0,none⟩) 3 c0,.slice a1 n1 c1,.slice a2 n2 c2,.slice a3 n3 c3],.int .i64 k] w fun e w'=>e=.returned (.agg #[.int .i64 k,.int .i64 p,.int .i64 x0,.int .i64 (objM (x0,x1,x2))])∧Below w.heap.size w w':=by
 have hk3:(k:Int)<3:=by omega
 have hpn:(p:Int)<(n:Int):=by omega
 have kO:=l05Obj_is x0 x1 x2 hx
 generalize objM (x0,x1,x2)=ob at *
 have hl0:b0<w.heap.size:=World.block_lt_of_cell? _ _ e1
 have bw:Below w.heap.size w (((w.alloc (.cells #[.slice (some ⟨b9,off9,none⟩) 3 cap] 25)).alloc (.cells #[.slice (some ⟨b0,o0,none⟩) 3 c0,.slice a1 n1 c1,.slice a2 n2 c2,.slice a3 n3 c3] 33)).alloc (.cells #[.int .i64 0,.int .i64 0,.int .i64 0,.int .i64 0] 38)):=by go_grown
 have pP:Blk (((w.alloc (.cells #[.slice (some ⟨b9,off9,none⟩) 3 cap] 25)).alloc (.cells #[.slice (some ⟨b0,o0,none⟩) 3 c0,.slice a1 n1 c1,.slice a2 n2 c2,.slice a3 n3 c3] 33)).alloc (.cells #[.int .i64 0,.int .i64 0,.int .i64 0,.int .i64 0] 38)) w.heap.size 25 [.slice (some ⟨b9,off9,none⟩) 3 cap]:=blkOld _ (blkOld _ (blkAt _ _ _ rfl))
 have pS:Blk (((w.alloc (.cells #[.slice (some ⟨b9,off9,none⟩) 3 cap] 25)).alloc (.cells #[.slice (some ⟨b0,o0,none⟩) 3 c0,.slice a1 n1 c1,.slice a2 n2 c2,.slice a3 n3 c3] 33)).alloc (.cells #[.int .i64 0,.int .i64 0,.int .i64 0,.int .i64 0] 38)) (w.heap.size+1) 33 [.slice (some ⟨b0,o0,none⟩) 3 c0,.slice a1 n1 c1,.slice a2 n2 c2,.slice a3 n3 c3]:=blkOld _ (blkAt _ _ _ (by simp))
 have pR:Blk (((w.alloc (.cells #[.slice (some ⟨b9,off9,none⟩) 3 cap] 25)).alloc (.cells #[.slice (some ⟨b0,o0,none⟩) 3 c0,.slice a1 n1 c1,.slice a2 n2 c2,.slice a3 n3 c3] 33)).alloc (.cells #[.int .i64 0,.int .i64 0,.int .i64 0,.int .i64 0] 38)) (w.heap.size+2) 38 [.int .i64 0,.int .i64 0,.int .i64 0,.int .i64 0]:=blkAt _ _ _ (by simp)
 replace f0:=cells_kept bw _ _ f0
 replace e1:=cells_kept bw _ _ e1
 replace q0:=cells_kept bw _ _ q0
 replace q1:=cells_kept bw _ _ q1
 replace q2:=cells_kept bw _ _ q2
 have cP:=pP.cell 0
 have cS:=pS.cell 0
 simp only [List.getElem?_cons_zero] at cP cS
 go_enter Tryz.func110,Tryz.ntmps110
 go_wp2_with fail
 have hX9:w.heap.size+2<(((w.alloc (.cells #[.slice (some ⟨b9,off9,none⟩) 3 cap] 25)).alloc (.cells #[.slice (some ⟨b0,o0,none⟩) 3 c0,.slice a1 n1 c1,.slice a2 n2 c2,.slice a3 n3 c3] 33)).alloc (.cells #[.int .i64 0,.int .i64 0,.int .i64 0,.int .i64 0] 38)).heap.size:=pR.lt
 generalize (((w.alloc (.cells #[.slice (some ⟨b9,off9,none⟩) 3 cap] 25)).alloc (.cells #[.slice (some ⟨b0,o0,none⟩) 3 c0,.slice a1 n1 c1,.slice a2 n2 c2,.slice a3 n3 c3] 33)).alloc (.cells #[.int .i64 0,.int .i64 0,.int .i64 0,.int .i64 0] 38))=W at *
 refine wp_region_held_drew (S:=(fun w'=>w'.cell? ⟨w.heap.size,0,none⟩=some (.slice (some ⟨b9,off9,none⟩) 3 cap)∧w'.cell? ⟨b9,off9+k,none⟩=some (.slice (some ⟨b,off,none⟩) n c)∧w'.cell? ⟨w.heap.size+1,0,none⟩=some (.slice (some ⟨b0,o0,none⟩) 3 c0)∧w'.cell? ⟨b0,o0+k,none⟩=some (.int .i64 p)∧w'.cell? ⟨b,off+p*3,none⟩=some (.int .i64 x0)∧w'.cell? ⟨b,off+p*3+1,none⟩=some (.int .i64 x1)∧w'.cell? ⟨b,off+p*3+2,none⟩=some (.int .i64 x2))) (by kernel_rfl) ⟨cP,f0,cS,e1,q0,q1,q2⟩ (fun hS0=>?_)
 refine tkm 0 8 (.pointer (some ⟨w.heap.size,0,none⟩)) ?_
 refine tkm 1 9 (.slice (some ⟨b9,off9,none⟩) 3 cap) ?_
 refine tkm 2 10 (.int .i64 (k:Int)) ?_
 refine tkm 3 11 (.pointer (some ⟨b9,off9+k,none⟩)) ?_
 refine tkm 4 12 (.slice (some ⟨b,off,none⟩) n c) ?_
 refine tkm 5 13 (.pointer (some ⟨w.heap.size+1,0,none⟩)) ?_
 refine tkm 6 14 (.slice (some ⟨b0,o0,none⟩) 3 c0) ?_
 refine tkm 7 15 (.int .i64 (k:Int)) ?_
 refine tkm 8 16 (.pointer (some ⟨b0,o0+k,none⟩)) ?_
 refine tkm 9 17 (.int .i64 p) ?_
 refine tkm 10 18 (.pointer (some ⟨b,off+p*3,none⟩)) ?_
 refine tkm 11 19 (.agg #[.int .i64 x0,.int .i64 x1,.int .i64 x2]) ?_
 refine tkr 12 7 (fun K hK=>?_)
 have hal:Below W.drew.heap.size W.drew (W.drew.alloc (.cells #[.int .i64 0,.int .i64 0,.int .i64 0] 158)):=by go_grown
 go_simp
 refine hK.out _ _ ?_ (fun hS1=>?_)
 ·exact ⟨cells_kept hal _ _ hS0.1,cells_kept hal _ _ hS0.2.1,cells_kept hal _ _ hS0.2.2.1,cells_kept hal _ _ hS0.2.2.2.1,cells_kept hal _ _ hS0.2.2.2.2.1,cells_kept hal _ _ hS0.2.2.2.2.2.1,cells_kept hal _ _ hS0.2.2.2.2.2.2⟩
 clear hK
 try simp only [Act.put,tka,tkb,tkc]
 refine tkz 13 (fun K hK=>?_)
 have hal2:Below W.drew.heap.size W.drew (W.drew.alloc (.cells #[.int .i64 x0,.int .i64 x1,.int .i64 x2] 158)):=by go_grown
 go_simp
 refine hK.out _ _ ?_ (fun hS2=>?_)
 ·exact ⟨cells_kept hal2 _ _ hS0.1,cells_kept hal2 _ _ hS0.2.1,cells_kept hal2 _ _ hS0.2.2.1,cells_kept hal2 _ _ hS0.2.2.2.1,cells_kept hal2 _ _ hS0.2.2.2.2.1,cells_kept hal2 _ _ hS0.2.2.2.2.2.1,cells_kept hal2 _ _ hS0.2.2.2.2.2.2⟩
 clear hK
 try simp only [Act.put,tka,tkb,tkc]
 refine wpAnyH_done (by kernel_rfl) ?_ _
 have hb:Below W.heap.size W (W.alloc (.cells #[.int .i64 x0,.int .i64 x1,.int .i64 x2] 158)).drew:=by go_grown
 have pX:Blk (W.alloc (.cells #[.int .i64 x0,.int .i64 x1,.int .i64 x2] 158)).drew W.heap.size 158 [.int .i64 x0,.int .i64 x1,.int .i64 x2]:=blkAt _ _ _ rfl
 replace bw:=bel_trans bw hb
 replace pR:=pR.below hb
 replace e1:=cells_kept hb _ _ e1
 replace cS:=cells_kept hb _ _ cS
 clear hal hal2 hS0 hS1 hS2 f0 q0 q1 q2 hb cP pP pS
 go_wp2_with fail
 generalize (W.alloc (.cells #[.int .i64 x0,.int .i64 x1,.int .i64 x2] 158)).drew=V at *
 generalize W.heap.size=X at *
 have d0:=pX.cell 0
 have d1:=pX.cell 1
 have d2:=pX.cell 2
 simp only [List.getElem?_cons_zero,List.getElem?_cons_succ] at d0 d1 d2
 have hdr:Below V.heap.size V V.drew:=by go_grown
 refine wp_region_held_drew (S:=(fun w'=>w'.cell? ⟨w.heap.size+1,0,none⟩=some (.slice (some ⟨b0,o0,none⟩) 3 c0)∧w'.cell? ⟨b0,o0+k,none⟩=some (.int .i64 p)∧w'.cell? ⟨X,0,none⟩=some (.int .i64 x0)∧w'.cell? ⟨X,1,none⟩=some (.int .i64 x1)∧w'.cell? ⟨X,2,none⟩=some (.int .i64 x2))) (by kernel_rfl) ⟨cS,e1,d0,d1,d2⟩ (fun hS0=>?_)
 refine tkm 0 20 (.int .i64 (k:Int)) ?_
 refine tkm 1 21 (.pointer (some ⟨w.heap.size+1,0,none⟩)) ?_
 refine tkm 2 22 (.slice (some ⟨b0,o0,none⟩) 3 c0) ?_
 refine tkm 3 23 (.int .i64 (k:Int)) ?_
 refine tkm 4 24 (.pointer (some ⟨b0,o0+k,none⟩)) ?_
 refine tkm 5 25 (.int .i64 p) ?_
 refine tkm 6 26 (.pointer (some ⟨X,0,none⟩)) ?_
 refine tkm 7 27 (.int .i64 x0) ?_
 refine tkm 8 28 (.agg #[.int .i64 x0,.int .i64 x1,.int .i64 x2]) ?_
 refine tkr 9 29 (fun K hK=>?_)
 go_simp
 refine (kO _).mono ?_
 rintro e U ⟨rfl,hb8⟩
 go_wp2_with fail
 refine hK.out _ _ ?_ (fun hS1=>?_)
 ·exact ⟨cells_kept hb8 _ _ hS0.1,cells_kept hb8 _ _ hS0.2.1,cells_kept hb8 _ _ hS0.2.2.1,cells_kept hb8 _ _ hS0.2.2.2.1,cells_kept hb8 _ _ hS0.2.2.2.2⟩
 clear hK
 refine tkm 10 30 (.agg #[.int .i64 (k:Int),.int .i64 p,.int .i64 x0,.int .i64 ob]) ?_
 replace pR:=pR.below (bel_trans hdr hb8)
 replace bw:=bel_trans bw (bel_trans hdr hb8)
 refine tkz 11 (fun K hK=>?_)
 refine step_store_blkD rfl 38 _ _ rfl (w.heap.size+2) [.int .i64 (k:Int),.int .i64 p,.int .i64 x0,.int .i64 ob] rfl rfl pR (by kernel_rfl) rfl rfl ?_
 intro U2 pR2 g2
 have bz:=bw.grown g2 bw.size (fun j hj=>by cases hj;omega)
 have n0:(some (w.heap.size+1):Option Nat)≠some (w.heap.size+2):=by simp
 have n1:(some b0:Option Nat)≠some (w.heap.size+2):=by simp;omega
 have n2:(some X:Option Nat)≠some (w.heap.size+2):=by simp;omega
 refine hK.out _ _ ⟨cell_grownB g2 hS1.1 n0,cell_grownB g2 hS1.2.1 n1,cell_grownB g2 hS1.2.2.1 n2,cell_grownB g2 hS1.2.2.2.1 n2,cell_grownB g2 hS1.2.2.2.2 n2⟩ (fun hS2=>?_)
 clear hK
 try simp only [Act.put,tka,tkb,tkc]
 refine wpAnyH_done (by kernel_rfl) ?_ _
 clear hS0 hS1 hS2 n0 n1 n2 g2 bw pR hdr hb8 kO d0 d1 d2 e1 pX cS
 go_wp2_with fail
 refine bodyPost_ret (results_blk1 Tryz.results110 _ _ _ _ _ _ rfl pR2.out Tryz.underlying38 rfl (by kernel_rfl)) rfl ?_
 exact ⟨rfl,bz⟩

theorem l05Event_is {w:World} {a9:Option Addr} {cap:Nat} {cs:Sl × Sl × Sl} {rows:List (List I3)} {s:S4} {m:V4} (hR:RowsAt w a9 cs rows) (h:Vmem w s m) (hp:progOk rows=true) (hs:shapeOk m=true) {k:Nat} (hk:k<3) (hd:doneM rows m k=false) :
  Calls Tryz.prog 110 #[.agg #[.slice a9 3 cap],s.val,.int .i64 k] w fun e w'=>e=.returned (.agg #[.int .i64 (eventM rows m k).1,.int .i64 (eventM rows m k).2.1,.int .i64 (eventM rows m k).2.2.1,.int .i64 (eventM rows m k).2.2.2])∧Below w.heap.size w w':=by
 obtain ⟨p,ep,hlt,hi,hok⟩:=at_ins hp hs hk hd
 obtain ⟨b9,off9,rfl,_,hrow⟩:=hR
 obtain ⟨f0,hI⟩:=hrow k hk
 obtain ⟨b,off,ea,hpn,q0,q1,q2⟩:=ins_at hI hlt
 rw [← hi] at q0 q1 q2
 rw [ea] at f0
 have hm:=okI_mid hok
 obtain ⟨⟨j0,_⟩,_⟩:=h
 obtain ⟨l0,_⟩:=shape_parts hs
 obtain ⟨⟨a0,n0,c0⟩,⟨a1,n1,c1⟩,⟨a2,n2,c2⟩,⟨a3,n3,c3⟩⟩:=s
 simp only at j0
 obtain ⟨rfl,b0,o0,rfl⟩:=some_of_ints j0 l0 (by decide)
 have r1:=ints_at9 j0 (t:=k) hk
 rw [ep] at r1
 unfold eventM
 rw [ep]
 generalize insM rows m k=x at *
 obtain ⟨x0,x1,x2⟩:=x
 exact l05Event_raw b9 off9 cap b0 o0 c0 a1 n1 c1 a2 n2 c2 a3 n3 c3 k p b off _ _ x0 x1 x2 w hk hpn hm f0 r1 q0 q1 q2


def RowGotN (e:Ending) (w:World) (B:Nat) (ks:List Int):Prop:=∃ v,e=.returned v∧v≠.slice none 0 0∧w.ownsRow B 3 1 v ks.length (ks.map (Value.int .i64))
def stlJ (rows:List (List I3)) (m:V4) (Z:List Int) (k i:Nat):List Int:=(Z.take i).filter fun j=>!depM (eventM rows m k) (eventM rows m j.toNat)
theorem stlJ_all {rows:List (List I3)} {m:V4} {Z:List Int} {k i:Nat} (h:Z.length≤i):stlJ rows m Z k i=stillM rows m Z (k:Int):=by
 unfold stlJ stillM
 rw [List.take_of_length_le h,Int.toNat_natCast]
theorem stlJ_len (rows:List (List I3)) (m:V4) (Z:List Int) (k i:Nat):(stlJ rows m Z k i).length≤Z.length:=Nat.le_trans (List.length_filter_le _ _) (List.length_take_le' _ _)
theorem stlJ_succ {rows:List (List I3)} {m:V4} {Z:List Int} {k i q:Nat} (h:i<Z.length) (hq:Z.getD i 0=(q:Int)):stlJ rows m Z k (i+1)=if depM (eventM rows m k) (eventM rows m q) then stlJ rows m Z k i else stlJ rows m Z k i++[(q:Int)]:=by
 unfold stlJ
 rw [take_snoc7 h,List.filter_append,hq]
 cases hd:depM (eventM rows m k) (eventM rows m q)<;>simp [hd]

set_option maxHeartbeats 2000000 in
theorem l07Still_is {w:World} {a9:Option Addr} {cap:Nat} {cs:Sl × Sl × Sl} {rows:List (List I3)} {s:S4} {m:V4} (hR:RowsAt w a9 cs rows) (h:Vmem w s m) (hp:progOk rows=true) (hs:shapeOk m=true) {k:Nat} (hk:k<3) (hd:doneM rows m k=false) (la:Option Addr) (n c:Nat) (Z:List Int) (hL:Ints .i64 w la n c Z) (hn:n≤4096) (hZ:SlpOk rows m Z) :
  Calls Tryz.prog 163 #[.agg #[.slice a9 3 cap],s.val,.slice la n c,.int .i64 k] w fun e w'=>RowGotN e w' w.heap.size (stillM rows m Z k)∧Below w.heap.size w w':=by
 obtain ⟨i1,hi1,hy0,hy1,hy2⟩:=info_parts info_int
 have hll:=hL.1
 obtain ⟨⟨t0a,t0n,t0c⟩,⟨t1a,t1n,t1c⟩,⟨t2a,t2n,t2c⟩,⟨t3a,t3n,t3c⟩⟩:=s
 have ut:S4.val ((t0a,t0n,t0c),(t1a,t1n,t1c),(t2a,t2n,t2c),(t3a,t3n,t3c))=.agg #[.slice t0a t0n t0c,.slice t1a t1n t1c,.slice t2a t2n t2c,.slice t3a t3n t3c]:=rfl
 have kE:=fun (W:World) (b:Below w.heap.size w W) (q:Nat) (hq:q<3) (hdq:doneM rows m q=false)=>l05Event_is (cap:=cap) (hR.below b) (h.below b) hp hs hq hdq
 rw [ut] at kE ⊢
 clear ut
 have kEx:=fun W b=>kE W b k hk hd
 have HS0:Hid (stlJ rows m Z k 0=[]):=by simp [Hid,stlJ]
 have HSA:Hid (stlJ rows m Z k n=stillM rows m Z (k:Int)):=stlJ_all (by omega)
 have HSS:Hid (∀ i q:Nat,i<n→Z.getD i 0=(q:Int)→stlJ rows m Z k (i+1)=if depM (eventM rows m k) (eventM rows m q) then stlJ rows m Z k i else stlJ rows m Z k i++[(q:Int)]):=fun i q h1 h2=>stlJ_succ (by omega) h2
 have hJl:=fun i=>stlJ_len rows m Z k i
 have hZq:∀ i,i<n→∃ q:Nat,Z.getD i 0=(q:Int)∧q<3∧doneM rows m q=false:=fun i hi=>hZ _ (by simp [List.getD,show i<Z.length by omega])
 generalize hy:eventM rows m k=y at *
 obtain ⟨y0,y1,y2,y3⟩:=y
 simp only at kEx
 clear hy hd hp hZ
 have bw:Below w.heap.size w (((w.alloc (.cells #[.slice a9 3 cap] 25)).alloc (.cells #[.slice t0a t0n t0c,.slice t1a t1n t1c,.slice t2a t2n t2c,.slice t3a t3n t3c] 33)).alloc (.cells #[] 3)):=by go_grown
 have pP:Blk (((w.alloc (.cells #[.slice a9 3 cap] 25)).alloc (.cells #[.slice t0a t0n t0c,.slice t1a t1n t1c,.slice t2a t2n t2c,.slice t3a t3n t3c] 33)).alloc (.cells #[] 3)) w.heap.size 25 [.slice a9 3 cap]:=blkOld _ (blkOld _ (blkAt _ _ _ rfl))
 have pS:Blk (((w.alloc (.cells #[.slice a9 3 cap] 25)).alloc (.cells #[.slice t0a t0n t0c,.slice t1a t1n t1c,.slice t2a t2n t2c,.slice t3a t3n t3c] 33)).alloc (.cells #[] 3)) (w.heap.size+1) 33 [.slice t0a t0n t0c,.slice t1a t1n t1c,.slice t2a t2n t2c,.slice t3a t3n t3c]:=blkOld _ (blkAt _ _ _ (by simp))
 have q0:(((w.alloc (.cells #[.slice a9 3 cap] 25)).alloc (.cells #[.slice t0a t0n t0c,.slice t1a t1n t1c,.slice t2a t2n t2c,.slice t3a t3n t3c] 33)).alloc (.cells #[] 3)).ownsRow w.heap.size 3 1 (.slice (some ⟨w.heap.size+1+1,0,none⟩) 0 0) 0 []:=by
  have h9:=own_emptyB ((w.alloc (.cells #[.slice a9 3 cap] 25)).alloc (.cells #[.slice t0a t0n t0c,.slice t1a t1n t1c,.slice t2a t2n t2c,.slice t3a t3n t3c] 33)) 3 1 w.heap.size (by simp;omega)
  simpa using h9
 obtain ⟨g0,hg0⟩:∃ g0,g0=w.heap.size+1+1:=⟨_,rfl⟩
 go_enter Tryz.func163,Tryz.ntmps163
 go_wp2_with (first | refine wpList_load_blk rfl 25 _ rfl w.heap.size rfl pP _ Tryz.underlying25 rfl (by kernel_rfl) ?_ | refine wpList_load_blk rfl 33 _ rfl (w.heap.size+1) rfl pS _ Tryz.underlying33 rfl (by kernel_rfl) ?_)
 rw [← hg0] at q0 ⊢
 clear hg0
 generalize (((w.alloc (.cells #[.slice a9 3 cap] 25)).alloc (.cells #[.slice t0a t0n t0c,.slice t1a t1n t1c,.slice t2a t2n t2c,.slice t3a t3n t3c] 33)).alloc (.cells #[] 3))=U at *
 refine (kEx U bw).mono ?_
 rintro e w1 ⟨rfl,hb⟩
 replace bw:=bel_trans bw hb
 replace pP:=pP.below hb
 replace pS:=pS.below hb
 replace q0:=owns_below q0 hb
 clear hb kEx
 have pN:=Blk.new w1 38 [.int .i64 0,.int .i64 0,.int .i64 0,.int .i64 0]
 have ha:Below w1.heap.size w1 (w1.alloc (.cells #[.int .i64 0,.int .i64 0,.int .i64 0,.int .i64 0] 38)):=by go_grown
 go_wp2_with (refine wpList_store_blk rfl 38 _ _ rfl w1.heap.size [.int .i64 y0,.int .i64 y1,.int .i64 y2,.int .i64 y3] rfl rfl pN (by kernel_rfl) rfl rfl ?_)
 intro w2 pE2 g2
 have pE:=pE2.out
 have hb2:Below w1.heap.size w1 w2:=ha.grown g2 ha.size (fun q e=>by cases e;exact Nat.le_refl _)
 replace bw:=bel_trans bw hb2
 replace pP:=pP.below hb2
 replace pS:=pS.below hb2
 replace q0:=owns_below q0 hb2
 generalize w1.heap.size=E at *
 clear pE2 g2 ha pN hb2
 go_wp2_with fail
 go_loopw [9,11] (fun s9 s11 wr=>∃ i:Nat,s11=.int .i64 i∧i≤n∧Hid (s9≠.slice none 0 0)∧Hid (wr.ownsRow w.heap.size 3 1 s9 (stlJ rows m Z k i).length ((stlJ rows m Z k i).map (Value.int .i64)))∧Blk wr w.heap.size 25 [.slice a9 3 cap]∧Blk wr (w.heap.size+1) 33 [.slice t0a t0n t0c,.slice t1a t1n t1c,.slice t2a t2n t2c,.slice t3a t3n t3c]∧Blk wr E 38 [.int .i64 y0,.int .i64 y1,.int .i64 y2,.int .i64 y3]∧Below w.heap.size w wr) (fun _ s11 _=>n - (intOf s11).toNat)
 case atStart=>exact ⟨0,rfl,Nat.zero_le _,(show Hid (_≠_) from fun e=>by cases e),by rw [HS0.out];exact q0,pP,pS,pE,bw⟩
 case round =>
  clear q0 pP pS pE bw HS0
  obtain ⟨i,rfl,hin,HNN,HQ,pP,pS,pE,bw⟩:=hrel
  obtain ⟨va,vn,vc,rfl⟩:=own_slice6 HQ.out
  by_cases hlt:i<n
  ·obtain ⟨q,hq,hq3,hqd⟩:=hZq i hlt
   obtain ⟨lb,lo,rfl,hc,hlb⟩:=ints_cellS (hL.below bw) (show i<n from hlt)
   rw [hq] at hc
   have HX:Hid (stlJ rows m Z k (i+1)=if depM (y0,y1,y2,y3) (eventM rows m q) then stlJ rows m Z k i else stlJ rows m Z k i++[(q:Int)]):=HSS.out i q hlt hq
   have hjl:=hJl i
   have kEx:=fun W b=>kE W b q hq3 hqd
   generalize eventM rows m q=x at *
   obtain ⟨x0,x1,x2,x3⟩:=x
   simp only at kEx
   have kD:=fun (W:World)=>specDepends_is (y0,y1,y2,y3) (x0,x1,x2,x3) W
   unfold I4.val at kD
   simp only at kD
   have hlt3:(i:Int)<(n:Int):=by omega
   have hi0:(0:Int)≤(i:Int):=by omega
   have hdr:Below wr.heap.size wr wr.drew:=by go_grown
   go_wp2_with fail
   refine wp_region_held_drew (S:=(fun w'=>w'.rangeAt E 0 [.int .i64 y0,.int .i64 y1,.int .i64 y2,.int .i64 y3]∧w'.rangeAt w.heap.size 0 [.slice a9 3 cap]∧w'.rangeAt (w.heap.size+1) 0 [.slice t0a t0n t0c,.slice t1a t1n t1c,.slice t2a t2n t2c,.slice t3a t3n t3c]∧w'.cell? ⟨lb,lo+i,none⟩=some (.int .i64 (q:Int)))) (by kernel_rfl) ⟨blk_range pE,blk_range pP,blk_range pS,hc⟩ (fun hS0=>?_)
   refine wpAnyH_take (i:=0) (oi:=⟨some 23,_,_,_,_,_⟩) (v:=.agg ([.int .i64 y0,.int .i64 y1,.int .i64 y2,.int .i64 y3]).toArray) rfl (by kernel_rfl) (by kernel_rfl) (by kernel_rfl) (fun _ _ _ h=>h) (yieldsIf_load_mid (by rfl) 38 _ rfl E 0 rfl [.int .i64 y0,.int .i64 y1,.int .i64 y2,.int .i64 y3] _ (fun _ h=>h.1) Tryz.underlying38 rfl (by kernel_rfl)) (by assumption) ?_
   simp only [Act.put,tka,tkb,tkc]
   refine wpAnyH_take (i:=1) (oi:=⟨some 24,_,_,_,_,_⟩) (v:=.agg ([.slice a9 3 cap]).toArray) rfl (by kernel_rfl) (by kernel_rfl) (by kernel_rfl) (fun _ _ _ h=>h) (yieldsIf_load_mid (by rfl) 25 _ rfl w.heap.size 0 rfl [.slice a9 3 cap] _ (fun _ h=>h.2.1) Tryz.underlying25 rfl (by kernel_rfl)) (by assumption) ?_
   simp only [Act.put,tka,tkb,tkc]
   refine wpAnyH_take (i:=2) (oi:=⟨some 25,_,_,_,_,_⟩) (v:=.agg ([.slice t0a t0n t0c,.slice t1a t1n t1c,.slice t2a t2n t2c,.slice t3a t3n t3c]).toArray) rfl (by kernel_rfl) (by kernel_rfl) (by kernel_rfl) (fun _ _ _ h=>h) (yieldsIf_load_mid (by rfl) 33 _ rfl (w.heap.size+1) 0 rfl [.slice t0a t0n t0c,.slice t1a t1n t1c,.slice t2a t2n t2c,.slice t3a t3n t3c] _ (fun _ h=>h.2.2.1) Tryz.underlying33 rfl (by kernel_rfl)) (by assumption) ?_
   simp only [Act.put,tka,tkb,tkc]
   refine tkm 3 26 (.slice (some ⟨lb,lo,none⟩) n c) ?_
   refine tkm 4 27 (.int .i64 (i:Int)) ?_
   refine tkm 5 28 (.pointer (some ⟨lb,lo+i,none⟩)) ?_
   refine tkm 6 29 (.int .i64 (q:Int)) ?_
   have bwd:=bel_trans bw hdr
   replace pP:=pP.below hdr
   replace pS:=pS.below hdr
   replace pE:=pE.below hdr
   have Q:=owns_below HQ.out hdr
   replace hc:=cells_kept hdr _ _ hc
   clear hdr HQ bw
   generalize wr.drew=V at *
   refine tkr 7 30 (fun K hK=>?_)
   go_simp
   refine (kEx V bwd).mono ?_
   rintro e V1 ⟨rfl,hb1⟩
   replace bwd:=bel_trans bwd hb1
   replace pP:=pP.below hb1
   replace pS:=pS.below hb1
   replace pE:=pE.below hb1
   replace Q:=owns_below Q hb1
   replace hc:=cells_kept hb1 _ _ hc
   clear hb1
   go_wp2_with fail
   refine hK.out _ _ ⟨blk_range pE,blk_range pP,blk_range pS,hc⟩ (fun hS9=>?_)
   clear hK
   try simp only [Act.put,tka,tkb,tkc]
   clear hS0
   refine tkr 8 31 (fun K hK=>?_)
   go_simp
   refine (kD V1).mono ?_
   rintro e V2 ⟨rfl,hb2⟩
   replace bwd:=bel_trans bwd hb2
   replace pP:=pP.below hb2
   replace pS:=pS.below hb2
   replace pE:=pE.below hb2
   replace Q:=owns_below Q hb2
   replace hc:=cells_kept hb2 _ _ hc
   clear hb2
   go_wp2_with fail
   refine hK.out _ _ ⟨blk_range pE,blk_range pP,blk_range pS,hc⟩ (fun hS9=>?_)
   clear hK
   try simp only [Act.put,tka,tkb,tkc]
   refine tkm 9 32 (.bool (!depM (y0,y1,y2,y3) (x0,x1,x2,x3))) ?_
   refine wpAnyH_done (by kernel_rfl) ?_ _
   cases hdp:depM (y0,y1,y2,y3) (x0,x1,x2,x3)
   ·have HX2:Hid (stlJ rows m Z k (i+1)=stlJ rows m Z k i++[(q:Int)]):=by rw [Hid,HX.out,hdp];rfl
    clear HX hdp kEx kD
    have hwz:=bwd.size
    go_wp2_with (at_builtin;refine wpList_append_own_at _ rfl _ _ 27 rfl w.heap.size 3 i1 (.int .i64 0) 1 8 Tryz.underlying27 hi1 hy0 hy1 hy2 rfl (by decide) _ _ _ rfl (Q.alloc _) ⟨V2.heap.size,0,none⟩ 1 1 [.int .i64 (q:Int)] rfl rfl (cell_one_new _ _ _) (by simp [Value.oneCell']) ?c3 ?c4 ?c5 ?_)
    case c3=>unfold maxLen;omega
    case c4=>omega
    case c5=>first | (simp;omega) | omega
    intro v7 W7 q7 gr7 hn7 _
    have HN7:Hid (v7≠.slice none 0 0):=by first | exact hn7 | exact fun e=>by have:=(hn7.1 e).2;omega
    clear hn7
    have ha7:Below V2.heap.size V2 (V2.alloc (.cells #[.int .i64 (q:Int)] 3)):=by go_grown
    have Q7:=owns_below Q ha7
    have R9:Hid (W7.ownsRow w.heap.size 3 1 v7 (stlJ rows m Z k (i+1)).length ((stlJ rows m Z k (i+1)).map (Value.int .i64))):=by rw [HX2.out,List.length_append,List.map_append];exact q7
    have pP7:=(pP.below ha7).kept gr7 (own_ne_blk9 Q7 (pP.below ha7) (by decide))
    have pS7:=(pS.below ha7).kept gr7 (own_ne_blk9 Q7 (pS.below ha7) (by decide))
    have pE7:=(pE.below ha7).kept gr7 (own_ne_blk9 Q7 (pE.below ha7) (by decide))
    have bw7:=(bel_trans bwd ha7).grown gr7 (bel_trans bwd ha7).size (fun x hx=>(own_lt3 Q7 hx).1)
    clear Q Q7 q7 gr7 ha7 pP pS pE bwd HX2 hc
    go_wp2
    go_roundw
    case rel=>exact ⟨i+1,by go_num,by omega,HN7,R9,pP7,pS7,pE7,bw7⟩
    case measure=>simp [intOf];omega
   ·have HX2:Hid (stlJ rows m Z k (i+1)=stlJ rows m Z k i):=by rw [Hid,HX.out,hdp];rfl
    have R9:Hid (V2.ownsRow w.heap.size 3 1 (.slice va vn vc) (stlJ rows m Z k (i+1)).length ((stlJ rows m Z k (i+1)).map (Value.int .i64))):=by rw [HX2.out];exact Q
    clear HX hdp kEx kD HX2 Q hc
    go_wp2
    go_roundw
    case rel=>exact ⟨i+1,by go_num,by omega,HNN,R9,pP,pS,pE,bwd⟩
    case measure=>simp [intOf];omega
  ·obtain rfl:i=n:=by omega
   have hnl:¬ ((i:Int)<(i:Int)):=by omega
   have HG:Hid (RowGotN (.returned (.slice va vn vc)) wr w.heap.size (stillM rows m Z (k:Int))):=by rw [← HSA.out];exact ⟨_,rfl,HNN.out,HQ.out⟩
   clear HQ pP pS pE
   go_wp2
   go_ret
   exact ⟨HG.out,bw⟩
end Go.Proofs.YtdojjmkpelgcaaaGreatDoor
