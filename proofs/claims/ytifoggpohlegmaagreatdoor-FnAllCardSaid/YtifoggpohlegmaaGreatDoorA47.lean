/-
  Joined: SbgI, LocS.
-/
import Derived.Test.YtifoggpohlegmaaGreatDoorA37
import Derived.Test.YtifoggpohlegmaaGreatDoorA46

namespace Go.Proofs.YtifoggpohlegmaaGreatDoor
set_option maxRecDepth 100000
set_option maxHeartbeats 16000000
open Go.RowKit
set_option linter.unusedVariables false
set_option linter.unusedSimpArgs false

theorem bugsI_fit6 {rows:List (List I3)} {m:V4} (hp:progOk rows=true) (hs:shapeOk m=true):∀ x ∈ bugsI rows m,I3.fits x:=fun x hx=>by
 unfold bugsI at hx
 split at hx
 ·simp at hx;subst hx;exact okB_fitsQ rfl
 ·obtain ⟨k,hk,hx⟩:=List.mem_flatMap.1 hx
  exact okB_fitsQ (ownM_ok hp hs (enab_halt hk) x hx)
theorem bugsI_len6 (rows:List (List I3)) (m:V4):(bugsI rows m).length≤3:=by
 unfold bugsI
 split
 ·simp
 ·have h:=fndO_len rows m (enabM rows m 3).length
  unfold fndO at h
  rw [List.take_length] at h
  have:=enabM_len rows m 3
  omega
def fndA (rows:List (List I3)) (L:List (Rec6 V4 × Value)) (j:Nat):List I3:=(L.take j).flatMap fun x=>bugsI rows x.1.1
theorem fndA_succ {rows:List (List I3)} {L:List (Rec6 V4 × Value)} {j:Nat} {r:Rec6 V4} {mv:Value} (h:L[j]?=some (r,mv)):fndA rows L (j+1)=fndA rows L j++bugsI rows r.1:=by
 unfold fndA
 rw [List.take_add_one,h]
 simp
theorem fndA_len (rows:List (List I3)) (L:List (Rec6 V4 × Value)):∀ j,(fndA rows L j).length≤3*j
 | 0=>by simp [fndA]
 | j+1=>by
  have ih:=fndA_len rows L j
  cases h:L[j]? with
  | none =>
   have e:fndA rows L (j+1)=fndA rows L j:=by unfold fndA;rw [List.take_add_one,h];simp
   rw [e]
   omega
  | some x =>
   obtain ⟨r,mv⟩:=x
   rw [fndA_succ h,List.length_append]
   have:=bugsI_len6 rows r.1
   omega
theorem fndA_all (rows:List (List I3)) (L:List (Rec6 V4 × Value)):fndA rows L L.length=(L.map (·.1)).flatMap fun r=>bugsI rows r.1:=by
 unfold fndA
 rw [List.take_length,List.flatMap_map]
theorem fndA_fits {rows:List (List I3)} {L:List (Rec6 V4 × Value)} (hp:progOk rows=true) (hsh:Shaped (L.map (·.1))) (j:Nat):∀ x ∈ fndA rows L j,I3.fits x:=fun x hx=>by
 unfold fndA at hx
 obtain ⟨y,hy,hx⟩:=List.mem_flatMap.1 hx
 exact bugsI_fit6 hp (hsh y.1 (List.mem_map.2 ⟨y,List.mem_of_mem_take hy,rfl⟩)) x hx
theorem flat_app6 (xs ys:List I3):flat (xs++ys)=flat xs++flat ys:=by simp [flat]
theorem news_flat6 {w:World} {B g n c:Nat} {xs:List I3} (h:w.ownsRow B 64 3 (.slice (some ⟨g,0,none⟩) n c) n (flat xs)):∀ j u,(flat xs)[j]?=some u→w.cell? ((⟨g,0,none⟩:Addr).add j)=some u:=by
 intro j u hj
 have hl:j<(flat xs).length:=(List.getElem?_eq_some_iff.1 hj).1
 have h1:=h.1
 rw [Addr.add_mid,Nat.zero_add,h.cellAt j (by omega)]
 exact hj
theorem flat_one6 (xs:List I3):∀ u ∈ flat xs,u.oneCell'=true:=fun u hu=>by
 unfold flat at hu
 obtain ⟨x,_,hx⟩:=List.mem_flatMap.1 hu
 simp [I3.cells] at hx
 rcases hx with rfl | rfl | rfl<;>rfl

theorem sbug_is {w:World} {B X nb vc:Nat} {va:Option Addr} {cs:Sl × Sl × Sl} {rows:List (List I3)} {F:List (Rec6 V4)} {L:List (Rec6 V4 × Value)} (sp:SpcD w B nb (.slice va L.length vc) cs (mvsOf rows F) L L.length) (bx:Blk w X 106 [.slice va L.length vc,.map (some nb)]) (hp:progOk rows=true) (hsh:Shaped (L.map (·.1))) (hI:∀ k,k<3→Instrs w (slK cs k).1 (slK cs k).2.1 (slK cs k).2.2 (codeM rows k)) (hl:L.length≤2000) :
  Calls Tryz.prog 77 #[.pointer (some ⟨X,0,none⟩)] w fun e w'=>BugsOne e w' w.heap.size (allI rows (L.map (·.1)))∧Below w.heap.size w w':=by
 obtain ⟨i0,hi9,hz0,hz1,hz2⟩:=info_parts info_bug
 have cX0:w.cell? ⟨X,0,none⟩=some (.slice va L.length vc):=by simpa using bx.cell 0
 have HAll:Hid (allI rows (L.map (·.1))=mergeB (fndA rows L L.length) []):=by rw [Hid,fndA_all];rfl
 have st:w.ownsRow w.heap.size 64 3 (.slice none 0 0) (fndA rows L 0).length (flat (fndA rows L 0)):=World.ownsRow_nil _ _ _ _
 go_enter Tryz.func77,Tryz.ntmps77
 go_wp2_with fail
 go_loopw [3,11] (fun s3 s11 wr=>∃ j:Nat,s11=.int .i64 j∧j≤L.length∧wr.ownsRow w.heap.size 64 3 s3 (fndA rows L j).length (flat (fndA rows L j))∧Below w.heap.size w wr) (fun _ s11 _=>L.length - (intOf s11).toNat)
 case atStart=>exact ⟨0,rfl,Nat.zero_le _,st,Below.refl _ _⟩
 case round =>
  clear st cX0
  obtain ⟨j,rfl,hjn,q,bw⟩:=hrel
  obtain ⟨ka,kn,kc,rfl⟩:=own_slice6 q
  have hfl:=fndA_len rows L j
  by_cases hlt:j<L.length
  ·obtain ⟨r,mv,hr⟩:∃ r mv,L[j]?=some (r,mv):=⟨L[j].1,L[j].2,by rw [List.getElem?_eq_getElem hlt]⟩
   have hs:shapeOk r.1=true:=hsh r (List.mem_map.2 ⟨_,List.mem_of_getElem? hr,rfl⟩)
   have sp1:=sp.below bw
   have mvr:=sp1.mvs j r mv hlt hr
   obtain ⟨g,c9,e9,hg,hrg⟩:=sp1.at9 hr
   cases e9
   have hmv:=sp1.mvone hr
   have HS:Hid (fndA rows L (j+1)=fndA rows L j++bugsI rows r.1):=fndA_succ hr
   have hbl:=bugsI_len6 rows r.1
   have hlt3:(j:Int)<(L.length:Int):=by omega
   have hj0:(0:Int)≤(j:Int):=by omega
   have pN:=Blk.new wr 111 [.string ⟨#[]⟩,.slice none 0 0,.int .i64 0,.int .i64 0,.int .i64 0,.slice none 0 0,.int .i64 0,.int .i64 0,.int .i64 0,.slice none 0 0,.int .i64 0,.int .i64 0,.int .i64 0,.int .i64 0,.int .i64 0,.int .i64 0,.int .i64 0,.int .i64 0,.int .i64 0,.int .i64 0,.int .i64 0,.slice none 0 0]
   have hbN:Below wr.heap.size wr (wr.alloc (.cells #[.string ⟨#[]⟩,.slice none 0 0,.int .i64 0,.int .i64 0,.int .i64 0,.slice none 0 0,.int .i64 0,.int .i64 0,.int .i64 0,.slice none 0 0,.int .i64 0,.int .i64 0,.int .i64 0,.int .i64 0,.int .i64 0,.int .i64 0,.int .i64 0,.int .i64 0,.int .i64 0,.int .i64 0,.int .i64 0,.slice none 0 0] 111)):=by go_grown
   clear sp1 hr
   go_wp2_with (first | refine wpList_load_mid rfl 111 _ rfl g (j*22) rfl (rcC cs r mv) _ hrg Tryz.underlying111 rfl (by kernel_rfl) ?_ | refine wpList_store_blk rfl 111 _ _ rfl wr.heap.size (rcC cs r mv) rfl rfl pN (by kernel_rfl) rfl (rcC_one cs r hmv) ?_)
   intro w3 p3 g3
   have pE:=p3.out
   have b3:Below wr.heap.size wr w3:=hbN.grown g3 hbN.size (fun k e=>by cases e;exact Nat.le_refl _)
   replace bw:=bel_trans bw b3
   replace q:=owns_below q b3
   replace mvr:=owns_below mvr b3
   clear p3 g3 hbN pN b3 hrg hmv
   generalize wr.heap.size=E at *
   have kR:=rbug_is pE mvr hp hs (fun k hk=>(hI k hk).below bw)
   go_wp2_with fail
   refine kR.mono ?_
   rintro e w4 ⟨⟨v9,rfl,q9⟩,hb⟩
   have hw3:=bw.size
   replace bw:=bel_trans bw hb
   replace q:=owns_below q hb
   clear hb kR pE mvr
   rcases q9.2 with ⟨hv9,h09⟩ | ⟨gq,cq,cur,hv9,_⟩
   ·subst hv9
    have hn0:bugsI rows r.1=[]:=List.eq_nil_of_length_eq_zero h09
    have st9:w4.ownsRow w.heap.size 64 3 (.slice ka kn kc) (fndA rows L (j+1)).length (flat (fndA rows L (j+1))):=by
     rw [HS.out,hn0,List.append_nil]
     exact q
    go_wp2_with (at_builtin;refine wpList_append_own_none rfl _ _ 34 rfl w.heap.size 64 i0 3 Tryz.underlying34 hi9 (.slice ka kn kc) _ _ rfl q rfl ?_)
    clear q q9 h09 hn0 HS
    go_wp2
    go_roundw
    case rel=>exact ⟨j+1,by go_num,by omega,st9,bw⟩
    case measure=>simp [intOf];omega
   ·subst hv9
    have hw4:w.heap.size≤w4.heap.size:=bw.size
    have q9':w4.ownsRow w3.heap.size 64 3 (.slice (some ⟨gq,0,none⟩) (bugsI rows r.1).length cq) (bugsI rows r.1).length (flat (bugsI rows r.1)):=q9
    generalize bugsI rows r.1=bs at *
    go_wp2_with (at_builtin;refine wpList_append_own_at _ rfl _ _ 34 rfl w.heap.size 64 i0 (.agg #[.int .i64 0,.int .i64 0,.int .i64 0]) 3 24 Tryz.underlying34 hi9 hz0 hz1 hz2 rfl (by decide) (.slice ka kn kc) _ _ rfl q ⟨gq,0,none⟩ bs.length cq (flat bs) rfl (flat_length _) (news_flat6 q9') (flat_one6 _) (by unfold maxLen;omega) (by omega) hw4 ?_)
    intro v6 w5 q6 gr _ at6
    have bw5:=bw.grown gr bw.size (fun k e=>(own_lt3 q e).1)
    have st9:w5.ownsRow w.heap.size 64 3 v6 (fndA rows L (j+1)).length (flat (fndA rows L (j+1))):=by
     rw [HS.out,List.length_append,flat_app6]
     exact q6
    clear q q6 q9 q9' gr at6 bw HS
    go_wp2
    go_roundw
    case rel=>exact ⟨j+1,by go_num,by omega,st9,bw5⟩
    case measure=>simp [intOf];omega
  ·have hge:¬ (j:Int)<(L.length:Int):=by omega
   obtain rfl:j=L.length:=by omega
   obtain ⟨fa,fc,e9,hIn,hGd⟩:=bugs_sliceR q (fndA_fits hp hsh _)
   cases e9
   have kM:=mergedBugs_is ka (fndA rows L L.length).length kc (fndA rows L L.length) none 0 0 [] wr hIn ⟨rfl,Nat.le_refl _,by unfold maxLen;omega,by simp,.inl rfl⟩ (by omega) (by omega) hGd ⟨fun _=>rfl,fun x hx=>by cases hx⟩
   clear q hIn hGd
   go_wp2_with fail
   refine kM.mono ?_
   rintro e w5 ⟨⟨v5,rfl,q5⟩,hb⟩
   have hwr:=bw.size
   replace bw:=bel_trans bw hb
   have HG:Hid (BugsOne (.returned v5) w5 w.heap.size (allI rows (L.map (·.1)))):=by rw [HAll.out];exact ⟨_,rfl,own_lower q5 hwr⟩
   clear kM hb q5 HAll
   go_wp2
   go_ret
   exact ⟨HG.out,bw⟩

def bugsO (rows:List (List I3)):List I3:=if codeF rows=0 then allI rows (fullS rows) else []
def AbgGot (e:Ending) (w:World) (B:Nat) (xs:List I3) (c:Int):Prop:=∃ v,e=.returned (.tuple #[v,.int .i64 c])∧w.ownsRow B 64 3 v xs.length (flat xs)
theorem implAllBugs_not (a:Option Addr) (len cap:Nat) (rows:List (List I3)) (w:World) (hC:Codes w a len cap rows) (hV:VmShape w) (hc:codeF rows≠0) :
  Calls Tryz.prog 32 #[.agg #[.slice a len cap]] w fun e w'=>AbgGot e w' w.heap.size [] (codeF rows)∧Below w.heap.size w w':=by
 have kS:=fun (W:World) (b:Below w.heap.size w W) (t:S4) (h:Vmem W t zeroV)=>spaceOf_not a len cap rows t W (hC.below b) h (hV.below b) hc
 generalize codeF rows=c at *
 have hcn:(c != 0)=true:=by simpa using hc
 have fz:=(shape_fits9 zero_shape).1
 have kN:=implNewVm_is
 have bw:Below w.heap.size w (w.alloc (.cells #[.slice a len cap] 25)):=by go_grown
 have pP:Blk (w.alloc (.cells #[.slice a len cap] 25)) w.heap.size 25 [.slice a len cap]:=blkAt _ _ _ rfl
 go_enter Tryz.func32,Tryz.ntmps32
 go_wp2_with fail
 generalize (w.alloc (.cells #[.slice a len cap] 25))=U at *
 go_cut [4,5] from 6 (fun s4 s5 W=>CutF w W c s4 s5)
 case first =>
  have hdr:Below U.heap.size U U.drew:=by go_grown
  refine wp_region_held_drew (S:=(fun w'=>w'.cell? ⟨w.heap.size,0,none⟩=some (.slice a len cap))) (by kernel_rfl) (by simpa using pP.cell 0) (fun hS0=>?_)
  refine tkm 0 7 (.agg #[.slice a len cap]) ?_
  have pP9:=pP.below hdr
  replace bw:=bel_trans bw hdr
  clear hdr
  generalize U.drew=V at *
  have bt:Below V.heap.size V V:=Below.refl _ _
  refine wpAnyH_ready (rs:=[1,6]) (by kernel_rfl) (by simp) ?_
  refine AllReadyH.cons (o:=⟨some 8,_,_,_,_,_⟩) rfl (fun K hK=>?_) (AllReadyH.cons (o:=⟨some 4,_,_,_,_,_⟩) rfl (fun K hK=>?_) AllReadyH.nil)
  ·go_simp
   refine (kN V).mono ?_
   rintro e V1 ⟨⟨⟨⟨t0a,t0n,t0c⟩,⟨t1a,t1n,t1c⟩,⟨t2a,t2n,t2c⟩,⟨t3a,t3n,t3c⟩⟩,rfl,hO⟩,hb1⟩
   have ut:S4.val ((t0a,t0n,t0c),(t1a,t1n,t1c),(t2a,t2n,t2c),(t3a,t3n,t3c))=.agg #[.slice t0a t0n t0c,.slice t1a t1n t1c,.slice t2a t2n t2c,.slice t3a t3n t3c]:=rfl
   rw [ut]
   have bt:=bel_trans bt hb1
   go_wp2_with fail
   refine hK.out _ _ (cells_kept bt _ _ hS0) (fun hS1=>?_)
   clear hK
   try simp only [Act.put,tka,tkb,tkc]
   refine wpAnyH_ready (rs:=[2,6]) (by kernel_rfl) (by simp) ?_
   refine AllReadyH.cons (o:=⟨some 9,_,_,_,_,_⟩) rfl (fun K hK=>?_) (AllReadyH.cons (o:=⟨some 4,_,_,_,_,_⟩) rfl (fun K hK=>?_) AllReadyH.nil)
   ·have kx:=kS V1 (bel_trans bw bt) ((t0a,t0n,t0c),(t1a,t1n,t1c),(t2a,t2n,t2c),(t3a,t3n,t3c)) (hO.mem fz)
    rw [ut] at kx
    go_simp
    refine kx.mono ?_
    rintro e V2 ⟨rfl,hb2⟩
    have bt:=bel_trans bt hb2
    go_wp2_with fail
    refine hK.out _ _ (cells_kept bt _ _ hS0) (fun hS2=>?_)
    clear hK kx
    try simp only [Act.put,tka,tkb,tkc]
    refine tkm 3 6 (.tuple #[.agg #[.slice none 0 0,.map none],.int .i64 c]) ?_
    refine tkm 4 10 (.agg #[.slice none 0 0,.map none]) ?_
    refine tkm 5 11 (.int .i64 c) ?_
    refine tkr 6 4 (fun K hK=>?_)
    have hb3:Below V2.heap.size V2 (V2.alloc (.cells #[.slice none 0 0,.map none] 106)):=by go_grown
    have pX:Blk (V2.alloc (.cells #[.slice none 0 0,.map none] 106)) V2.heap.size 106 [.slice none 0 0,.map none]:=blkAt _ _ _ rfl
    have hXB:w.heap.size≤V2.heap.size:=Nat.le_trans bw.size bt.size
    have bt:=bel_trans bt hb3
    go_simp
    refine hK.out _ _ (cells_kept bt _ _ hS0) (fun hS3=>?_)
    clear hK
    generalize (V2.alloc (.cells #[.slice none 0 0,.map none] 106))=V3 at *
    obtain ⟨X,hX⟩:∃ X,X=V2.heap.size:=⟨_,rfl⟩
    rw [← hX] at pX hXB ⊢
    clear hX
    try simp only [Act.put,tka,tkb,tkc]
    refine tkz 7 (fun K hK=>?_)
    refine step_store_blkD rfl 106 _ _ rfl X [.slice none 0 0,.map none] rfl rfl pX (by kernel_rfl) rfl rfl ?_
    intro V9 pX9 g9
    have bz:=(bel_trans bw bt).grown g9 (bel_trans bw bt).size (fun q e=>by cases e;exact hXB)
    have hXP:X≠w.heap.size:=blk_ne pX (pP9.below bt) (by decide)
    have c9:=cells_kept bt _ _ hS0
    refine hK.out _ _ (cell_grownB g9 c9 (by simp;omega)) (fun hS4=>?_)
    clear hK
    try simp only [Act.put,tka,tkb,tkc]
    refine tkm 8 5 (.int .i64 c) ?_
    refine wpAnyH_done (by kernel_rfl) ?_ _
    go_wp2_with fail
    go_meet
    case rel=>exact ⟨X,rfl,rfl,bz⟩
   ·have hb3:Below V1.heap.size V1 (V1.alloc (.cells #[.slice none 0 0,.map none] 106)):=by go_grown
    have pX:Blk (V1.alloc (.cells #[.slice none 0 0,.map none] 106)) V1.heap.size 106 [.slice none 0 0,.map none]:=blkAt _ _ _ rfl
    have hXB:w.heap.size≤V1.heap.size:=Nat.le_trans bw.size bt.size
    replace hO:=hO.below hb3
    have bt:=bel_trans bt hb3
    go_simp
    refine hK.out _ _ (cells_kept bt _ _ hS0) (fun hS3=>?_)
    clear hK
    generalize (V1.alloc (.cells #[.slice none 0 0,.map none] 106))=V2 at *
    obtain ⟨X,hX⟩:∃ X,X=V1.heap.size:=⟨_,rfl⟩
    rw [← hX] at pX hXB ⊢
    clear hX
    try simp only [Act.put,tka,tkb,tkc]
    refine tkr 2 9 (fun K hK=>?_)
    have kx:=kS V2 (bel_trans bw bt) ((t0a,t0n,t0c),(t1a,t1n,t1c),(t2a,t2n,t2c),(t3a,t3n,t3c)) (hO.mem fz)
    rw [ut] at kx
    go_simp
    refine kx.mono ?_
    rintro e V3 ⟨rfl,hb2⟩
    replace pX:=pX.below hb2
    have bt:=bel_trans bt hb2
    go_wp2_with fail
    refine hK.out _ _ (cells_kept bt _ _ hS0) (fun hS2=>?_)
    clear hK kx
    try simp only [Act.put,tka,tkb,tkc]
    refine tkm 3 6 (.tuple #[.agg #[.slice none 0 0,.map none],.int .i64 c]) ?_
    refine tkm 4 10 (.agg #[.slice none 0 0,.map none]) ?_
    refine tkm 5 11 (.int .i64 c) ?_
    refine tkz 7 (fun K hK=>?_)
    refine step_store_blkD rfl 106 _ _ rfl X [.slice none 0 0,.map none] rfl rfl pX (by kernel_rfl) rfl rfl ?_
    intro V9 pX9 g9
    have bz:=(bel_trans bw bt).grown g9 (bel_trans bw bt).size (fun q e=>by cases e;exact hXB)
    have hXP:X≠w.heap.size:=blk_ne pX (pP9.below bt) (by decide)
    have c9:=cells_kept bt _ _ hS0
    refine hK.out _ _ (cell_grownB g9 c9 (by simp;omega)) (fun hS4=>?_)
    clear hK
    try simp only [Act.put,tka,tkb,tkc]
    refine tkm 8 5 (.int .i64 c) ?_
    refine wpAnyH_done (by kernel_rfl) ?_ _
    go_wp2_with fail
    go_meet
    case rel=>exact ⟨X,rfl,rfl,bz⟩
  ·have hb3:Below V.heap.size V (V.alloc (.cells #[.slice none 0 0,.map none] 106)):=by go_grown
   have pX:Blk (V.alloc (.cells #[.slice none 0 0,.map none] 106)) V.heap.size 106 [.slice none 0 0,.map none]:=blkAt _ _ _ rfl
   have hXB:w.heap.size≤V.heap.size:=Nat.le_trans bw.size bt.size
   have bt:=bel_trans bt hb3
   go_simp
   refine hK.out _ _ (cells_kept bt _ _ hS0) (fun hS3=>?_)
   clear hK
   generalize (V.alloc (.cells #[.slice none 0 0,.map none] 106))=V1 at *
   obtain ⟨X,hX⟩:∃ X,X=V.heap.size:=⟨_,rfl⟩
   rw [← hX] at pX hXB ⊢
   clear hX
   try simp only [Act.put,tka,tkb,tkc]
   refine tkr 1 8 (fun K hK=>?_)
   go_simp
   refine (kN V1).mono ?_
   rintro e V2 ⟨⟨⟨⟨t0a,t0n,t0c⟩,⟨t1a,t1n,t1c⟩,⟨t2a,t2n,t2c⟩,⟨t3a,t3n,t3c⟩⟩,rfl,hO⟩,hb1⟩
   have ut:S4.val ((t0a,t0n,t0c),(t1a,t1n,t1c),(t2a,t2n,t2c),(t3a,t3n,t3c))=.agg #[.slice t0a t0n t0c,.slice t1a t1n t1c,.slice t2a t2n t2c,.slice t3a t3n t3c]:=rfl
   rw [ut]
   have bt:=bel_trans bt hb1
   go_wp2_with fail
   refine hK.out _ _ (cells_kept bt _ _ hS0) (fun hS1=>?_)
   clear hK
   try simp only [Act.put,tka,tkb,tkc]
   replace pX:=pX.below hb1
   refine tkr 2 9 (fun K hK=>?_)
   have kx:=kS V2 (bel_trans bw bt) ((t0a,t0n,t0c),(t1a,t1n,t1c),(t2a,t2n,t2c),(t3a,t3n,t3c)) (hO.mem fz)
   rw [ut] at kx
   go_simp
   refine kx.mono ?_
   rintro e V3 ⟨rfl,hb2⟩
   replace pX:=pX.below hb2
   have bt:=bel_trans bt hb2
   go_wp2_with fail
   refine hK.out _ _ (cells_kept bt _ _ hS0) (fun hS2=>?_)
   clear hK kx
   try simp only [Act.put,tka,tkb,tkc]
   refine tkm 3 6 (.tuple #[.agg #[.slice none 0 0,.map none],.int .i64 c]) ?_
   refine tkm 4 10 (.agg #[.slice none 0 0,.map none]) ?_
   refine tkm 5 11 (.int .i64 c) ?_
   refine tkz 7 (fun K hK=>?_)
   refine step_store_blkD rfl 106 _ _ rfl X [.slice none 0 0,.map none] rfl rfl pX (by kernel_rfl) rfl rfl ?_
   intro V9 pX9 g9
   have bz:=(bel_trans bw bt).grown g9 (bel_trans bw bt).size (fun q e=>by cases e;exact hXB)
   have hXP:X≠w.heap.size:=blk_ne pX (pP9.below bt) (by decide)
   have c9:=cells_kept bt _ _ hS0
   refine hK.out _ _ (cell_grownB g9 c9 (by simp;omega)) (fun hS4=>?_)
   clear hK
   try simp only [Act.put,tka,tkb,tkc]
   refine tkm 8 5 (.int .i64 c) ?_
   refine wpAnyH_done (by kernel_rfl) ?_ _
   go_wp2_with fail
   go_meet
   case rel=>exact ⟨X,rfl,rfl,bz⟩
 obtain ⟨X,rfl,rfl,bz⟩:=hcut
 clear kS kN bw pP fz
 have HG:Hid (∀ W,AbgGot (.returned (.tuple #[.slice none 0 0,.int .i64 c])) W w.heap.size [] c):=fun W=>⟨_,rfl,World.ownsRow_nil _ _ _ _⟩
 go_wp2
 refine bodyPost_ret (by simp [results,Tryz.results32,go_sem];try rfl) rfl ?_
 exact ⟨HG.out _,bz⟩

theorem implAllBugs_ok (a:Option Addr) (len cap:Nat) (rows:List (List I3)) (w:World) (hC:Codes w a len cap rows) (hV:VmShape w) (hc:codeF rows=0) :
  Calls Tryz.prog 32 #[.agg #[.slice a len cap]] w fun e w'=>AbgGot e w' w.heap.size (allI rows (fullS rows)) 0∧Below w.heap.size w w':=by
 obtain ⟨hp,hf⟩:=code_parts hc
 obtain ⟨cs,hR⟩:=rows_of_codes6 hC hp
 have kS:=fun (W:World) (b:Below w.heap.size w W) (t:S4) (h:Vmem W t zeroV)=>spaceOf_yes a len cap rows t W (hC.below b) h (hV.below b) hp hf
 have hI:∀ k,k<3→Instrs w (slK cs k).1 (slK cs k).2.1 (slK cs k).2.2 (codeM rows k):=by
  obtain ⟨b,off,_,_,hk⟩:=hR
  exact fun k h3=>(hk k h3).2
 clear hc
 have fz:=(shape_fits9 zero_shape).1
 have kN:=implNewVm_is
 have bw:Below w.heap.size w (w.alloc (.cells #[.slice a len cap] 25)):=by go_grown
 have pP:Blk (w.alloc (.cells #[.slice a len cap] 25)) w.heap.size 25 [.slice a len cap]:=blkAt _ _ _ rfl
 go_enter Tryz.func32,Tryz.ntmps32
 go_wp2_with fail
 generalize (w.alloc (.cells #[.slice a len cap] 25))=U at *
 go_cut [4,5] from 6 (fun s4 s5 W=>CutK w W cs rows (fullS rows) s4 s5)
 case first =>
  have hdr:Below U.heap.size U U.drew:=by go_grown
  refine wp_region_held_drew (S:=(fun w'=>w'.cell? ⟨w.heap.size,0,none⟩=some (.slice a len cap))) (by kernel_rfl) (by simpa using pP.cell 0) (fun hS0=>?_)
  refine tkm 0 7 (.agg #[.slice a len cap]) ?_
  have pP9:=pP.below hdr
  replace bw:=bel_trans bw hdr
  clear hdr
  generalize U.drew=V at *
  have bt:Below V.heap.size V V:=Below.refl _ _
  refine wpAnyH_ready (rs:=[1,6]) (by kernel_rfl) (by simp) ?_
  refine AllReadyH.cons (o:=⟨some 8,_,_,_,_,_⟩) rfl (fun K hK=>?_) (AllReadyH.cons (o:=⟨some 4,_,_,_,_,_⟩) rfl (fun K hK=>?_) AllReadyH.nil)
  ·go_simp
   refine (kN V).mono ?_
   rintro e V1 ⟨⟨⟨⟨t0a,t0n,t0c⟩,⟨t1a,t1n,t1c⟩,⟨t2a,t2n,t2c⟩,⟨t3a,t3n,t3c⟩⟩,rfl,hO⟩,hb1⟩
   have ut:S4.val ((t0a,t0n,t0c),(t1a,t1n,t1c),(t2a,t2n,t2c),(t3a,t3n,t3c))=.agg #[.slice t0a t0n t0c,.slice t1a t1n t1c,.slice t2a t2n t2c,.slice t3a t3n t3c]:=rfl
   rw [ut]
   have bt:=bel_trans bt hb1
   go_wp2_with fail
   refine hK.out _ _ (cells_kept bt _ _ hS0) (fun hS1=>?_)
   clear hK
   try simp only [Act.put,tka,tkb,tkc]
   refine wpAnyH_ready (rs:=[2,6]) (by kernel_rfl) (by simp) ?_
   refine AllReadyH.cons (o:=⟨some 9,_,_,_,_,_⟩) rfl (fun K hK=>?_) (AllReadyH.cons (o:=⟨some 4,_,_,_,_,_⟩) rfl (fun K hK=>?_) AllReadyH.nil)
   ·have kx:=kS V1 (bel_trans bw bt) ((t0a,t0n,t0c),(t1a,t1n,t1c),(t2a,t2n,t2c),(t3a,t3n,t3c)) (hO.mem fz)
    rw [ut] at kx
    go_simp
    refine kx.mono ?_
    rintro e V2 ⟨va9,nb,cs',L,rfl,sp,hLF,hR',hb2⟩
    obtain rfl:=(hR.below (bel_trans bw bt)).uniq hR'
    have hBv:w.heap.size≤V1.heap.size:=Nat.le_trans bw.size bt.size
    obtain ⟨va8,vn8,vc8,hva⟩:=own_slice6 sp.row
    have bt:=bel_trans bt hb2
    go_wp2_with fail
    refine hK.out _ _ (cells_kept bt _ _ hS0) (fun hS2=>?_)
    clear hK kx
    try simp only [Act.put,tka,tkb,tkc]
    refine tkm 3 6 (.tuple #[.agg #[va9,.map (some nb)],.int .i64 0]) ?_
    refine tkm 4 10 (.agg #[va9,.map (some nb)]) ?_
    refine tkm 5 11 (.int .i64 0) ?_
    refine tkr 6 4 (fun K hK=>?_)
    have hb3:Below V2.heap.size V2 (V2.alloc (.cells #[.slice none 0 0,.map none] 106)):=by go_grown
    have pX:Blk (V2.alloc (.cells #[.slice none 0 0,.map none] 106)) V2.heap.size 106 [.slice none 0 0,.map none]:=blkAt _ _ _ rfl
    have hXB:w.heap.size≤V2.heap.size:=Nat.le_trans bw.size bt.size
    replace sp:=sp.below hb3
    have bt:=bel_trans bt hb3
    go_simp
    refine hK.out _ _ (cells_kept bt _ _ hS0) (fun hS3=>?_)
    clear hK
    generalize (V2.alloc (.cells #[.slice none 0 0,.map none] 106))=V3 at *
    obtain ⟨X,hX⟩:∃ X,X=V2.heap.size:=⟨_,rfl⟩
    rw [← hX] at pX hXB ⊢
    clear hX
    try simp only [Act.put,tka,tkb,tkc]
    subst hva
    refine tkz 7 (fun K hK=>?_)
    refine step_store_blkD rfl 106 _ _ rfl X [.slice va8 vn8 vc8,.map (some nb)] rfl rfl pX (by kernel_rfl) rfl rfl ?_
    intro V9 pX9 g9
    have bz:=(bel_trans bw bt).grown g9 (bel_trans bw bt).size (fun q e=>by cases e;exact hXB)
    replace sp:=sp.grown g9 pX (by decide) (by decide)
    have hXP:X≠w.heap.size:=blk_ne pX (pP9.below bt) (by decide)
    have c9:=cells_kept bt _ _ hS0
    refine hK.out _ _ (cell_grownB g9 c9 (by simp;omega)) (fun hS4=>?_)
    clear hK
    try simp only [Act.put,tka,tkb,tkc]
    refine tkm 8 5 (.int .i64 0) ?_
    refine wpAnyH_done (by kernel_rfl) ?_ _
    go_wp2_with fail
    go_meet
    case rel=>exact CutK.mk9 (va:=.slice none 0 0) rfl rfl pX9.out sp hLF hXB hBv bz
   ·have hb3:Below V1.heap.size V1 (V1.alloc (.cells #[.slice none 0 0,.map none] 106)):=by go_grown
    have pX:Blk (V1.alloc (.cells #[.slice none 0 0,.map none] 106)) V1.heap.size 106 [.slice none 0 0,.map none]:=blkAt _ _ _ rfl
    have hXB:w.heap.size≤V1.heap.size:=Nat.le_trans bw.size bt.size
    replace hO:=hO.below hb3
    have bt:=bel_trans bt hb3
    go_simp
    refine hK.out _ _ (cells_kept bt _ _ hS0) (fun hS3=>?_)
    clear hK
    generalize (V1.alloc (.cells #[.slice none 0 0,.map none] 106))=V2 at *
    obtain ⟨X,hX⟩:∃ X,X=V1.heap.size:=⟨_,rfl⟩
    rw [← hX] at pX hXB ⊢
    clear hX
    try simp only [Act.put,tka,tkb,tkc]
    refine tkr 2 9 (fun K hK=>?_)
    have kx:=kS V2 (bel_trans bw bt) ((t0a,t0n,t0c),(t1a,t1n,t1c),(t2a,t2n,t2c),(t3a,t3n,t3c)) (hO.mem fz)
    rw [ut] at kx
    go_simp
    refine kx.mono ?_
    rintro e V3 ⟨va9,nb,cs',L,rfl,sp,hLF,hR',hb2⟩
    obtain rfl:=(hR.below (bel_trans bw bt)).uniq hR'
    have hBv:w.heap.size≤V2.heap.size:=Nat.le_trans bw.size bt.size
    obtain ⟨va8,vn8,vc8,hva⟩:=own_slice6 sp.row
    replace pX:=pX.below hb2
    have bt:=bel_trans bt hb2
    go_wp2_with fail
    refine hK.out _ _ (cells_kept bt _ _ hS0) (fun hS2=>?_)
    clear hK kx
    try simp only [Act.put,tka,tkb,tkc]
    refine tkm 3 6 (.tuple #[.agg #[va9,.map (some nb)],.int .i64 0]) ?_
    refine tkm 4 10 (.agg #[va9,.map (some nb)]) ?_
    refine tkm 5 11 (.int .i64 0) ?_
    subst hva
    refine tkz 7 (fun K hK=>?_)
    refine step_store_blkD rfl 106 _ _ rfl X [.slice va8 vn8 vc8,.map (some nb)] rfl rfl pX (by kernel_rfl) rfl rfl ?_
    intro V9 pX9 g9
    have bz:=(bel_trans bw bt).grown g9 (bel_trans bw bt).size (fun q e=>by cases e;exact hXB)
    replace sp:=sp.grown g9 pX (by decide) (by decide)
    have hXP:X≠w.heap.size:=blk_ne pX (pP9.below bt) (by decide)
    have c9:=cells_kept bt _ _ hS0
    refine hK.out _ _ (cell_grownB g9 c9 (by simp;omega)) (fun hS4=>?_)
    clear hK
    try simp only [Act.put,tka,tkb,tkc]
    refine tkm 8 5 (.int .i64 0) ?_
    refine wpAnyH_done (by kernel_rfl) ?_ _
    go_wp2_with fail
    go_meet
    case rel=>exact CutK.mk9 (va:=.slice none 0 0) rfl rfl pX9.out sp hLF hXB hBv bz
  ·have hb3:Below V.heap.size V (V.alloc (.cells #[.slice none 0 0,.map none] 106)):=by go_grown
   have pX:Blk (V.alloc (.cells #[.slice none 0 0,.map none] 106)) V.heap.size 106 [.slice none 0 0,.map none]:=blkAt _ _ _ rfl
   have hXB:w.heap.size≤V.heap.size:=Nat.le_trans bw.size bt.size
   have bt:=bel_trans bt hb3
   go_simp
   refine hK.out _ _ (cells_kept bt _ _ hS0) (fun hS3=>?_)
   clear hK
   generalize (V.alloc (.cells #[.slice none 0 0,.map none] 106))=V1 at *
   obtain ⟨X,hX⟩:∃ X,X=V.heap.size:=⟨_,rfl⟩
   rw [← hX] at pX hXB ⊢
   clear hX
   try simp only [Act.put,tka,tkb,tkc]
   refine tkr 1 8 (fun K hK=>?_)
   go_simp
   refine (kN V1).mono ?_
   rintro e V2 ⟨⟨⟨⟨t0a,t0n,t0c⟩,⟨t1a,t1n,t1c⟩,⟨t2a,t2n,t2c⟩,⟨t3a,t3n,t3c⟩⟩,rfl,hO⟩,hb1⟩
   have ut:S4.val ((t0a,t0n,t0c),(t1a,t1n,t1c),(t2a,t2n,t2c),(t3a,t3n,t3c))=.agg #[.slice t0a t0n t0c,.slice t1a t1n t1c,.slice t2a t2n t2c,.slice t3a t3n t3c]:=rfl
   rw [ut]
   have bt:=bel_trans bt hb1
   go_wp2_with fail
   refine hK.out _ _ (cells_kept bt _ _ hS0) (fun hS1=>?_)
   clear hK
   try simp only [Act.put,tka,tkb,tkc]
   replace pX:=pX.below hb1
   refine tkr 2 9 (fun K hK=>?_)
   have kx:=kS V2 (bel_trans bw bt) ((t0a,t0n,t0c),(t1a,t1n,t1c),(t2a,t2n,t2c),(t3a,t3n,t3c)) (hO.mem fz)
   rw [ut] at kx
   go_simp
   refine kx.mono ?_
   rintro e V3 ⟨va9,nb,cs',L,rfl,sp,hLF,hR',hb2⟩
   obtain rfl:=(hR.below (bel_trans bw bt)).uniq hR'
   have hBv:w.heap.size≤V2.heap.size:=Nat.le_trans bw.size bt.size
   obtain ⟨va8,vn8,vc8,hva⟩:=own_slice6 sp.row
   replace pX:=pX.below hb2
   have bt:=bel_trans bt hb2
   go_wp2_with fail
   refine hK.out _ _ (cells_kept bt _ _ hS0) (fun hS2=>?_)
   clear hK kx
   try simp only [Act.put,tka,tkb,tkc]
   refine tkm 3 6 (.tuple #[.agg #[va9,.map (some nb)],.int .i64 0]) ?_
   refine tkm 4 10 (.agg #[va9,.map (some nb)]) ?_
   refine tkm 5 11 (.int .i64 0) ?_
   subst hva
   refine tkz 7 (fun K hK=>?_)
   refine step_store_blkD rfl 106 _ _ rfl X [.slice va8 vn8 vc8,.map (some nb)] rfl rfl pX (by kernel_rfl) rfl rfl ?_
   intro V9 pX9 g9
   have bz:=(bel_trans bw bt).grown g9 (bel_trans bw bt).size (fun q e=>by cases e;exact hXB)
   replace sp:=sp.grown g9 pX (by decide) (by decide)
   have hXP:X≠w.heap.size:=blk_ne pX (pP9.below bt) (by decide)
   have c9:=cells_kept bt _ _ hS0
   refine hK.out _ _ (cell_grownB g9 c9 (by simp;omega)) (fun hS4=>?_)
   clear hK
   try simp only [Act.put,tka,tkb,tkc]
   refine tkm 8 5 (.int .i64 0) ?_
   refine wpAnyH_done (by kernel_rfl) ?_ _
   go_wp2_with fail
   go_meet
   case rel=>exact CutK.mk9 (va:=.slice none 0 0) rfl rfl pX9.out sp hLF hXB hBv bz
 obtain ⟨X,va,vc,nb,L,rfl,rfl,pX,sp,hLF,hXB,bz⟩:=hcut
 clear kS kN bw pP fz
 have hl2:L.length≤2000:=by
  have e:(L.map (·.1)).length=L.length:=by simp
  rw [hLF] at e
  omega
 have kB:=sbug_is sp pX hp (by rw [hLF];exact fullS_shaped hp) (fun k hk=>(hI k hk).below bz) hl2
 rw [hLF] at kB
 clear sp pX hLF hXB
 go_wp2_with fail
 refine kB.mono ?_
 rintro e w7 ⟨⟨v7,rfl,q7⟩,hb⟩
 have hwc:=bz.size
 replace bz:=bel_trans bz hb
 have HG:Hid (AbgGot (.returned (.tuple #[v7,.int .i64 0])) w7 w.heap.size (allI rows (fullS rows)) 0):=⟨_,rfl,own_lower q7 hwc⟩
 clear q7 hb kB
 go_wp2
 refine bodyPost_ret (by simp [results,Tryz.results32,go_sem];try rfl) rfl ?_
 exact ⟨HG.out,bz⟩
theorem implAllBugs_is (a:Option Addr) (len cap:Nat) (rows:List (List I3)) (w:World) (hC:Codes w a len cap rows) (hV:VmShape w) :
  Calls Tryz.prog 32 #[.agg #[.slice a len cap]] w fun e w'=>AbgGot e w' w.heap.size (bugsO rows) (codeF rows)∧Below w.heap.size w w':=by
 unfold bugsO
 by_cases h:codeF rows=0
 ·rw [if_pos h,h]
  exact implAllBugs_ok a len cap rows w hC hV h
 ·rw [if_neg h]
  exact implAllBugs_not a len cap rows w hC hV h


def locJ (rows:List (List I3)) (m:V4) (j:Nat):List I3:=((enabM rows m 3).take j).foldl (fun out k=>mergeB out (foundM rows m k)) (deadM rows m)
theorem locJ_zero (rows:List (List I3)) (m:V4):locJ rows m 0=deadM rows m:=rfl
theorem locJ_succ {rows:List (List I3)} {m:V4} {j:Nat} {k:Int} (h:(enabM rows m 3)[j]?=some k):locJ rows m (j+1)=mergeB (locJ rows m j) (foundM rows m k):=by
 unfold locJ
 rw [List.take_add_one,h]
 simp [List.foldl_append]
theorem locJ_all {rows:List (List I3)} {m:V4} {j:Nat} (h:(enabM rows m 3).length≤j):locJ rows m j=localS rows m:=by
 unfold locJ localS
 rw [List.take_of_length_le h]
theorem dead_ok (rows:List (List I3)) (m:V4):(∀ x ∈ deadM rows m,okB x=true)∧(deadM rows m).length≤1:=by
 unfold deadM
 split
 ·exact ⟨fun x hx=>by simp at hx;subst hx;rfl,by simp⟩
 ·exact ⟨fun x hx=>by simp at hx,by simp⟩
theorem locJ_ok {rows:List (List I3)} {m:V4} (hp:progOk rows=true) (hs:shapeOk m=true):∀ j,(∀ x ∈ locJ rows m j,okB x=true)∧(locJ rows m j).length≤1+2*j
 | 0=>by rw [locJ_zero];exact dead_ok rows m
 | j+1=>by
  have ih:=locJ_ok hp hs j
  cases h:(enabM rows m 3)[j]? with
  | none =>
   have e:locJ rows m (j+1)=locJ rows m j:=by unfold locJ;rw [List.take_add_one,h];simp
   rw [e]
   exact ⟨ih.1,by omega⟩
  | some k =>
   have hf:=foundM_ok hp hs (enab_halt (List.mem_of_getElem? h))
   rw [locJ_succ h]
   exact ⟨mergeB_ok ih.1 hf.1,by have:=mergeB_len (locJ rows m j) (foundM rows m k);have:=hf.2;omega⟩
theorem loc_len {rows:List (List I3)} {m:V4} (hp:progOk rows=true) (hs:shapeOk m=true):(∀ x ∈ localS rows m,okB x=true)∧(localS rows m).length≤7:=by
 have h:=locJ_ok hp hs (enabM rows m 3).length
 rw [locJ_all (Nat.le_refl _)] at h
 have:=enabM_len rows m 3
 exact ⟨h.1,by omega⟩

theorem l06Local_is {w:World} {a:Option Addr} {cap:Nat} {cs:Sl × Sl × Sl} {rows:List (List I3)} {s:S4} {m:V4} (hR:RowsAt w a cs rows) (h:Vmem w s m) (hp:progOk rows=true) (hs:shapeOk m=true) :
  Calls Tryz.prog 136 #[.agg #[.slice a 3 cap],s.val] w fun e w'=>BugsOne e w' w.heap.size (localS rows m)∧Below w.heap.size w w':=by
 obtain ⟨i0,hi9,hz0,hz1,hz2⟩:=info_parts info_bug
 obtain ⟨⟨t0a,t0n,t0c⟩,⟨t1a,t1n,t1c⟩,⟨t2a,t2n,t2c⟩,⟨t3a,t3n,t3c⟩⟩:=s
 have ut:S4.val ((t0a,t0n,t0c),(t1a,t1n,t1c),(t2a,t2n,t2c),(t3a,t3n,t3c))=.agg #[.slice t0a t0n t0c,.slice t1a t1n t1c,.slice t2a t2n t2c,.slice t3a t3n t3c]:=rfl
 have kU:=fun (W:World) (b:Below w.heap.size w W)=>l03Stuck_is a 3 cap rows ((t0a,t0n,t0c),(t1a,t1n,t1c),(t2a,t2n,t2c),(t3a,t3n,t3c)) m cs W rfl (hR.below b) (h.below b) hp hs
 have kE:=fun (W:World) (b:Below w.heap.size w W)=>l03Enabled_is a 3 cap rows ((t0a,t0n,t0c),(t1a,t1n,t1c),(t2a,t2n,t2c),(t3a,t3n,t3c)) m cs W rfl (hR.below b) (h.below b) hp hs
 rw [ut] at kU kE ⊢
 have bw:Below w.heap.size w (((w.alloc (.cells #[.slice a 3 cap] 25)).alloc (.cells #[.slice t0a t0n t0c,.slice t1a t1n t1c,.slice t2a t2n t2c,.slice t3a t3n t3c] 33)).alloc (.cells #[] 64)):=by go_grown
 have pP:Blk (((w.alloc (.cells #[.slice a 3 cap] 25)).alloc (.cells #[.slice t0a t0n t0c,.slice t1a t1n t1c,.slice t2a t2n t2c,.slice t3a t3n t3c] 33)).alloc (.cells #[] 64)) w.heap.size 25 [.slice a 3 cap]:=blkOld _ (blkOld _ (blkAt _ _ _ rfl))
 have pS:Blk (((w.alloc (.cells #[.slice a 3 cap] 25)).alloc (.cells #[.slice t0a t0n t0c,.slice t1a t1n t1c,.slice t2a t2n t2c,.slice t3a t3n t3c] 33)).alloc (.cells #[] 64)) (w.heap.size+1) 33 [.slice t0a t0n t0c,.slice t1a t1n t1c,.slice t2a t2n t2c,.slice t3a t3n t3c]:=blkOld _ (blkAt _ _ _ (by simp))
 have q:(((w.alloc (.cells #[.slice a 3 cap] 25)).alloc (.cells #[.slice t0a t0n t0c,.slice t1a t1n t1c,.slice t2a t2n t2c,.slice t3a t3n t3c] 33)).alloc (.cells #[] 64)).ownsRow w.heap.size 64 3 (.slice (some ⟨w.heap.size+1+1,0,none⟩) 0 0) 0 []:=by
  have h9:=own_emptyB ((w.alloc (.cells #[.slice a 3 cap] 25)).alloc (.cells #[.slice t0a t0n t0c,.slice t1a t1n t1c,.slice t2a t2n t2c,.slice t3a t3n t3c] 33)) 64 3 w.heap.size (by simp;omega)
  simpa using h9
 obtain ⟨g0,hg0⟩:∃ g0,g0=w.heap.size+1+1:=⟨_,rfl⟩
 go_enter Tryz.func136,Tryz.ntmps136
 go_wp2_with fail
 rw [← hg0] at q ⊢
 clear hg0
 generalize ((w.alloc (.cells #[.slice a 3 cap] 25)).alloc (.cells #[.slice t0a t0n t0c,.slice t1a t1n t1c,.slice t2a t2n t2c,.slice t3a t3n t3c] 33)).alloc (.cells #[] 64)=U at *
 have kUx:=kU U bw
 clear kU
 go_wp2_with (first | refine wpList_load_blk rfl 25 _ rfl w.heap.size rfl pP _ Tryz.underlying25 rfl (by kernel_rfl) ?_ | refine wpList_load_blk rfl 33 _ rfl (w.heap.size+1) rfl pS _ Tryz.underlying33 rfl (by kernel_rfl) ?_)
 refine kUx.mono ?_
 rintro e w1 ⟨rfl,hb⟩
 replace bw:=bel_trans bw hb
 replace pP:=pP.below hb
 replace pS:=pS.below hb
 replace q:=owns_below q hb
 clear hb kUx
 have key:∀ (W:World) (v:Value),Hid (W.ownsRow w.heap.size 64 3 v (deadM rows m).length (flat (deadM rows m)))→Hid (W.ownsRow w.heap.size 64 3 v (locJ rows m 0).length (flat (locJ rows m 0))):=fun W v h=>h
 cases hst:stuckM rows m
 ·have HQ:Hid (w1.ownsRow w.heap.size 64 3 (.slice (some ⟨g0,0,none⟩) 0 0) (deadM rows m).length (flat (deadM rows m))):=by
   unfold deadM
   rw [hst]
   exact q
  clear q hst
  have kEx:=kE w1 bw
  clear kE
  go_wp2_with (first | refine wpList_load_blk rfl 25 _ rfl w.heap.size rfl pP _ Tryz.underlying25 rfl (by kernel_rfl) ?_ | refine wpList_load_blk rfl 33 _ rfl (w.heap.size+1) rfl pS _ Tryz.underlying33 rfl (by kernel_rfl) ?_)
  refine kEx.mono ?_
  rintro e w6 ⟨⟨⟨la,ln,lc⟩,rfl,hL⟩,hb⟩
  replace bw:=bel_trans bw hb
  replace pP:=pP.below hb
  replace pS:=pS.below hb
  have HQ2:=key w6 _ (owns_below HQ.out hb)
  clear hb kEx HQ key
  have hLn:(enabM rows m 3).length=ln:=by have:=hL.1;simpa using this
  have hl3:=enabM_len rows m 3
  go_wp2_with fail
  go_loopw [5,7] (fun s5 s7 wr=>∃ j:Nat,s7=.int .i64 j∧j≤ln∧Hid (wr.ownsRow w.heap.size 64 3 s5 (locJ rows m j).length (flat (locJ rows m j)))∧Below w6.heap.size w6 wr) (fun _ s7 _=>ln - (intOf s7).toNat)
  case atStart=>exact ⟨0,rfl,Nat.zero_le _,HQ2,Below.refl _ _⟩
  case round =>
   clear HQ2
   obtain ⟨j,rfl,hjn,HQ,bq⟩:=hrel
   have q:=HQ.out
   obtain ⟨va,vn,vc,rfl⟩:=own_slice6 q
   obtain ⟨hlo,hll⟩:=locJ_ok hp hs j
   replace bw:=bel_trans bw bq
   replace pP:=pP.below bq
   replace pS:=pS.below bq
   replace hL:=hL.below bq
   clear HQ
   by_cases hlt2:j<ln
   ·have hkj:(enabM rows m 3)[j]?=some ((enabM rows m 3).getD j 0):=by rw [List.getD,List.getElem?_eq_getElem (by omega)];rfl
    have hz:=enab_halt (List.mem_of_getElem? hkj)
    obtain ⟨h0k,h2k,hd9,_⟩:=halt_can hz
    obtain ⟨k,hk⟩:∃ k:Nat,(enabM rows m 3).getD j 0=(k:Int):=⟨_,(Int.toNat_of_nonneg h0k).symm⟩
    obtain ⟨lb,lo,rfl,hc,hlb⟩:=ints_cellS hL.ints (show j<ln from hlt2)
    rw [hk] at hkj hz hd9 h0k h2k hc
    rw [Int.toNat_natCast] at hd9
    have hk3:k<3:=by omega
    clear hk hlb
    have hfo:=foundM_ok hp hs hz
    have HLS:Hid (locJ rows m (j+1)=mergeB (locJ rows m j) (foundM rows m (k:Int))):=locJ_succ hkj
    have kP:=fun (W:World) (b:Below w.heap.size w W)=>l04Found_is (cap:=cap) (hR.below b) (h.below b) hp hs hk3 hd9
    rw [ut] at kP
    generalize (goM rows m (k:Int)).1=z at *
    generalize foundM rows m (k:Int)=fs at *
    have hlt3:(j:Int)<(ln:Int):=by omega
    have hj0:(0:Int)≤(j:Int):=by omega
    clear hkj hz hd9
    go_wp2_with fail
    have hb9:Below wr.heap.size wr wr.drew:=by go_grown
    refine wp_region_held_drew (S:=(fun w'=>w'.cell? ⟨w.heap.size,0,none⟩=some (.slice a 3 cap)∧w'.cell? ⟨w.heap.size+1,0,none⟩=some (.slice t0a t0n t0c)∧w'.cell? ⟨w.heap.size+1,1,none⟩=some (.slice t1a t1n t1c)∧w'.cell? ⟨w.heap.size+1,2,none⟩=some (.slice t2a t2n t2c)∧w'.cell? ⟨w.heap.size+1,3,none⟩=some (.slice t3a t3n t3c)∧w'.cell? ⟨lb,lo+j,none⟩=some (.int .i64 (k:Int)))) (by kernel_rfl) ⟨by simpa using pP.cell 0,by simpa using pS.cell 0,by simpa using pS.cell 1,by simpa using pS.cell 2,by simpa using pS.cell 3,hc⟩ (fun hS0=>?_)
    refine tkm 0 28 (.agg #[.slice a 3 cap]) ?_
    refine tkm 1 29 (.agg #[.slice t0a t0n t0c,.slice t1a t1n t1c,.slice t2a t2n t2c,.slice t3a t3n t3c]) ?_
    refine tkm 2 30 (.slice (some ⟨lb,lo,none⟩) ln lc) ?_
    refine tkm 3 31 (.int .i64 (j:Int)) ?_
    refine tkm 4 32 (.pointer (some ⟨lb,lo+j,none⟩)) ?_
    refine tkm 5 33 (.int .i64 (k:Int)) ?_
    replace bw:=bel_trans bw hb9
    replace bq:=bel_trans bq hb9
    replace q:=owns_below q hb9
    clear hb9
    generalize wr.drew=V at *
    refine wpAnyH_ready (rs:=[6,10]) (by kernel_rfl) (by simp) ?_
    refine AllReadyH.cons (o:=⟨some 34,_,_,_,_,_⟩) rfl (fun K hK=>?_) (AllReadyH.cons (o:=⟨some 8,_,_,_,_,_⟩) rfl (fun K hK=>?_) AllReadyH.nil)
    ·have kPx:=kP V bw
     go_simp
     refine kPx.mono ?_
     rintro e V1 ⟨⟨⟨⟨z0a,z0n,z0c⟩,⟨z1a,z1n,z1c⟩,⟨z2a,z2n,z2c⟩,⟨z3a,z3n,z3c⟩⟩,v9,rfl,hO2,qf⟩,hb1⟩
     have uz:S4.val ((z0a,z0n,z0c),(z1a,z1n,z1c),(z2a,z2n,z2c),(z3a,z3n,z3c))=.agg #[.slice z0a z0n z0c,.slice z1a z1n z1c,.slice z2a z2n z2c,.slice z3a z3n z3c]:=rfl
     rw [uz]
     clear uz
     obtain ⟨fa,fc,rfl,hI9,hGd9⟩:=bugs_sliceR qf (fun x hx=>okB_fitsQ (hfo.1 x hx))
     clear hGd9 hO2 hI9
     go_wp2_with fail
     refine hK.out _ _ ⟨cells_kept hb1 _ _ hS0.1,cells_kept hb1 _ _ hS0.2.1,cells_kept hb1 _ _ hS0.2.2.1,cells_kept hb1 _ _ hS0.2.2.2.1,cells_kept hb1 _ _ hS0.2.2.2.2.1,cells_kept hb1 _ _ hS0.2.2.2.2.2⟩ (fun hS5=>?_)
     clear hK kPx
     try simp only [Act.put,tka,tkb,tkc]
     refine tkm 7 27 (.tuple #[.agg #[.slice z0a z0n z0c,.slice z1a z1n z1c,.slice z2a z2n z2c,.slice z3a z3n z3c],.slice fa fs.length fc]) ?_
     refine tkm 8 35 (.agg #[.slice z0a z0n z0c,.slice z1a z1n z1c,.slice z2a z2n z2c,.slice z3a z3n z3c]) ?_
     refine tkm 9 36 (.slice fa fs.length fc) ?_
     refine tkr 10 8 (fun K hK=>?_)
     have hb2:Below V1.heap.size V1 (V1.alloc (.cells #[.slice none 0 0,.slice none 0 0,.slice none 0 0,.slice none 0 0] 33)):=by go_grown
     have pX:Blk (V1.alloc (.cells #[.slice none 0 0,.slice none 0 0,.slice none 0 0,.slice none 0 0] 33)) V1.heap.size 33 [.slice none 0 0,.slice none 0 0,.slice none 0 0,.slice none 0 0]:=blkAt _ _ _ rfl
     replace qf:=owns_below qf hb2
     have hbA:=bel_trans hb1 hb2
     have hYV:V.heap.size≤V1.heap.size:=hb1.size
     go_simp
     refine hK.out _ _ ⟨cells_kept hbA _ _ hS0.1,cells_kept hbA _ _ hS0.2.1,cells_kept hbA _ _ hS0.2.2.1,cells_kept hbA _ _ hS0.2.2.2.1,cells_kept hbA _ _ hS0.2.2.2.2.1,cells_kept hbA _ _ hS0.2.2.2.2.2⟩ (fun hS6=>?_)
     clear hK hb1 hb2
     generalize (V1.alloc (.cells #[.slice none 0 0,.slice none 0 0,.slice none 0 0,.slice none 0 0] 33))=V2 at *
     generalize V1.heap.size=Y at *
     try simp only [Act.put,tka,tkb,tkc]
     refine tkz 11 (fun K hK=>?_)
     refine step_store_blkD rfl 33 _ _ rfl Y [.slice z0a z0n z0c,.slice z1a z1n z1c,.slice z2a z2n z2c,.slice z3a z3n z3c] rfl rfl pX (by kernel_rfl) rfl rfl ?_
     intro V8 pX8 g8
     have hbig:=hbA.grown g8 hbA.size (fun q hq=>by cases hq;exact hYV)
     replace qf:=qf.kept g8 (own_apart_blk qf pX (by decide))
     obtain ⟨fa9,fc9,ef9,hI8,hGd8⟩:=bugs_sliceR qf (fun x hx=>okB_fitsQ (hfo.1 x hx))
     cases ef9
     clear hGd8 qf
     refine hK.out _ _ ⟨cells_kept hbig _ _ hS0.1,cells_kept hbig _ _ hS0.2.1,cells_kept hbig _ _ hS0.2.2.1,cells_kept hbig _ _ hS0.2.2.2.1,cells_kept hbig _ _ hS0.2.2.2.2.1,cells_kept hbig _ _ hS0.2.2.2.2.2⟩ (fun hS7=>?_)
     clear hK pX g8 hbA hYV pX8
     try simp only [Act.put,tka,tkb,tkc]
     refine tkm 12 9 (.slice fa fs.length fc) ?_
     refine wpAnyH_done (by kernel_rfl) ?_ _
     replace bw:=bel_trans bw hbig
     replace bq:=bel_trans bq hbig
     replace q:=owns_below q hbig
     clear hbig hS0 hS5 hS6 hS7 pP pS kP hc hL
     obtain ⟨va9,vc9,ev9,hIv,hGv⟩:=bugs_sliceR q (fun x hx=>okB_fitsQ (hlo x hx))
     cases ev9
     have kM:=l04Merge_is va (locJ rows m j).length vc (locJ rows m j) fa fs.length fc fs V8 hIv hI8 (by omega) (by have:=hfo.2;omega)
     clear hIv hGv hI8 q
     go_wp2_with fail
     refine kM.mono ?_
     rintro e V10 ⟨⟨v6,rfl,q6⟩,hb⟩
     have hV8:=bw.size
     have HQ9:Hid (V10.ownsRow w.heap.size 64 3 v6 (locJ rows m (j+1)).length (flat (locJ rows m (j+1)))):=by rw [HLS.out];exact own_lower q6 hV8
     have bq9:=bel_trans bq hb
     clear hb q6 kM HLS bq bw
     go_wp2
     go_roundw
     case rel=>exact ⟨j+1,by go_num,by omega,HQ9,bq9⟩
     case measure=>simp [intOf];omega
    ·have hb1:Below V.heap.size V (V.alloc (.cells #[.slice none 0 0,.slice none 0 0,.slice none 0 0,.slice none 0 0] 33)):=by go_grown
     have pX:Blk (V.alloc (.cells #[.slice none 0 0,.slice none 0 0,.slice none 0 0,.slice none 0 0] 33)) V.heap.size 33 [.slice none 0 0,.slice none 0 0,.slice none 0 0,.slice none 0 0]:=blkAt _ _ _ rfl
     have hYV:V.heap.size≤V.heap.size:=Nat.le_refl _
     go_simp
     refine hK.out _ _ ⟨cells_kept hb1 _ _ hS0.1,cells_kept hb1 _ _ hS0.2.1,cells_kept hb1 _ _ hS0.2.2.1,cells_kept hb1 _ _ hS0.2.2.2.1,cells_kept hb1 _ _ hS0.2.2.2.2.1,cells_kept hb1 _ _ hS0.2.2.2.2.2⟩ (fun hS6=>?_)
     clear hK
     have kPx:=kP _ (bel_trans bw hb1)
     generalize (V.alloc (.cells #[.slice none 0 0,.slice none 0 0,.slice none 0 0,.slice none 0 0] 33))=V2 at *
     obtain ⟨Y,hY⟩:∃ Y,Y=V.heap.size:=⟨_,rfl⟩
     rw [← hY] at pX hYV ⊢
     replace hYV:V.heap.size≤Y:=by omega
     clear hY
     try simp only [Act.put,tka,tkb,tkc]
     refine tkr 6 34 (fun K hK=>?_)
     go_simp
     refine kPx.mono ?_
     rintro e V3 ⟨⟨⟨⟨z0a,z0n,z0c⟩,⟨z1a,z1n,z1c⟩,⟨z2a,z2n,z2c⟩,⟨z3a,z3n,z3c⟩⟩,v9,rfl,hO2,qf⟩,hb2⟩
     have uz:S4.val ((z0a,z0n,z0c),(z1a,z1n,z1c),(z2a,z2n,z2c),(z3a,z3n,z3c))=.agg #[.slice z0a z0n z0c,.slice z1a z1n z1c,.slice z2a z2n z2c,.slice z3a z3n z3c]:=rfl
     rw [uz]
     clear uz
     obtain ⟨fa,fc,rfl,hI9,hGd9⟩:=bugs_sliceR qf (fun x hx=>okB_fitsQ (hfo.1 x hx))
     clear hGd9 hO2 hI9
     go_wp2_with fail
     have hbA:=bel_trans hb1 hb2
     replace pX:=pX.below hb2
     refine hK.out _ _ ⟨cells_kept hbA _ _ hS0.1,cells_kept hbA _ _ hS0.2.1,cells_kept hbA _ _ hS0.2.2.1,cells_kept hbA _ _ hS0.2.2.2.1,cells_kept hbA _ _ hS0.2.2.2.2.1,cells_kept hbA _ _ hS0.2.2.2.2.2⟩ (fun hS5=>?_)
     clear hK kPx hb1 hb2
     try simp only [Act.put,tka,tkb,tkc]
     refine tkm 7 27 (.tuple #[.agg #[.slice z0a z0n z0c,.slice z1a z1n z1c,.slice z2a z2n z2c,.slice z3a z3n z3c],.slice fa fs.length fc]) ?_
     refine tkm 8 35 (.agg #[.slice z0a z0n z0c,.slice z1a z1n z1c,.slice z2a z2n z2c,.slice z3a z3n z3c]) ?_
     refine tkm 9 36 (.slice fa fs.length fc) ?_
     refine tkz 11 (fun K hK=>?_)
     refine step_store_blkD rfl 33 _ _ rfl Y [.slice z0a z0n z0c,.slice z1a z1n z1c,.slice z2a z2n z2c,.slice z3a z3n z3c] rfl rfl pX (by kernel_rfl) rfl rfl ?_
     intro V8 pX8 g8
     have hbig:=hbA.grown g8 hbA.size (fun q hq=>by cases hq;exact hYV)
     replace qf:=qf.kept g8 (own_apart_blk qf pX (by decide))
     obtain ⟨fa9,fc9,ef9,hI8,hGd8⟩:=bugs_sliceR qf (fun x hx=>okB_fitsQ (hfo.1 x hx))
     cases ef9
     clear hGd8 qf
     refine hK.out _ _ ⟨cells_kept hbig _ _ hS0.1,cells_kept hbig _ _ hS0.2.1,cells_kept hbig _ _ hS0.2.2.1,cells_kept hbig _ _ hS0.2.2.2.1,cells_kept hbig _ _ hS0.2.2.2.2.1,cells_kept hbig _ _ hS0.2.2.2.2.2⟩ (fun hS7=>?_)
     clear hK pX g8 hbA hYV pX8
     try simp only [Act.put,tka,tkb,tkc]
     refine tkm 12 9 (.slice fa fs.length fc) ?_
     refine wpAnyH_done (by kernel_rfl) ?_ _
     replace bw:=bel_trans bw hbig
     replace bq:=bel_trans bq hbig
     replace q:=owns_below q hbig
     clear hbig hS0 hS5 hS6 hS7 pP pS kP hc hL
     obtain ⟨va9,vc9,ev9,hIv,hGv⟩:=bugs_sliceR q (fun x hx=>okB_fitsQ (hlo x hx))
     cases ev9
     have kM:=l04Merge_is va (locJ rows m j).length vc (locJ rows m j) fa fs.length fc fs V8 hIv hI8 (by omega) (by have:=hfo.2;omega)
     clear hIv hGv hI8 q
     go_wp2_with fail
     refine kM.mono ?_
     rintro e V10 ⟨⟨v6,rfl,q6⟩,hb⟩
     have hV8:=bw.size
     have HQ9:Hid (V10.ownsRow w.heap.size 64 3 v6 (locJ rows m (j+1)).length (flat (locJ rows m (j+1)))):=by rw [HLS.out];exact own_lower q6 hV8
     have bq9:=bel_trans bq hb
     clear hb q6 kM HLS bq bw
     go_wp2
     go_roundw
     case rel=>exact ⟨j+1,by go_num,by omega,HQ9,bq9⟩
     case measure=>simp [intOf];omega
   ·have hge2:¬ (j:Int)<(ln:Int):=by omega
    have HG:Hid (BugsOne (.returned (.slice va vn vc)) wr w.heap.size (localS rows m)):=by
     rw [← locJ_all (j:=j) (by omega)]
     exact ⟨_,rfl,q⟩
    clear q hL pP pS
    go_wp2
    go_ret
    exact ⟨HG.out,bw⟩
 ·have HD:Hid (deadM rows m=[(14,0,0)]):=by rw [Hid];unfold deadM;rw [hst];rfl
  clear hst
  go_wp2_with (at_builtin;refine wpList_append_own_at _ rfl _ _ 34 rfl w.heap.size 64 i0 (.agg #[.int .i64 0,.int .i64 0,.int .i64 0]) 3 24 Tryz.underlying34 hi9 hz0 hz1 hz2 rfl (by decide) _ _ _ rfl (q.alloc _) ⟨w1.heap.size,0,none⟩ 1 1 [.int .i64 14,.int .i64 0,.int .i64 0] rfl rfl (three_new6 (blkAt _ _ _ rfl)) (three_one _ _ _) ?c3 ?c4 ?c5 ?_)
  case c3=>unfold maxLen;omega
  case c4=>omega
  case c5=>have:=bw.size;simp;omega
  intro v6 w4 q6 gr _ at6
  have ha:Below w1.heap.size w1 (w1.alloc (.cells #[.int .i64 14,.int .i64 0,.int .i64 0] 64)):=by go_grown
  replace pP:=(pP.below ha).kept gr (own_ne_blk9 (q.alloc _) (pP.below ha) (by decide))
  replace pS:=(pS.below ha).kept gr (own_ne_blk9 (q.alloc _) (pS.below ha) (by decide))
  replace bw:=(bel_trans bw ha).grown gr (bel_trans bw ha).size (fun k e=>(own_lt3 (q.alloc (.cells #[.int .i64 14,.int .i64 0,.int .i64 0] 64)) e).1)
  have HQ:Hid (w4.ownsRow w.heap.size 64 3 v6 (deadM rows m).length (flat (deadM rows m))):=by
   rw [HD.out]
   exact q6
  clear q q6 gr at6 ha HD
  have kEx:=kE w4 bw
  clear kE
  go_wp2_with (first | refine wpList_load_blk rfl 25 _ rfl w.heap.size rfl pP _ Tryz.underlying25 rfl (by kernel_rfl) ?_ | refine wpList_load_blk rfl 33 _ rfl (w.heap.size+1) rfl pS _ Tryz.underlying33 rfl (by kernel_rfl) ?_)
  refine kEx.mono ?_
  rintro e w6 ⟨⟨⟨la,ln,lc⟩,rfl,hL⟩,hb⟩
  replace bw:=bel_trans bw hb
  replace pP:=pP.below hb
  replace pS:=pS.below hb
  have HQ2:=key w6 _ (owns_below HQ.out hb)
  clear hb kEx HQ key
  have hLn:(enabM rows m 3).length=ln:=by have:=hL.1;simpa using this
  have hl3:=enabM_len rows m 3
  go_wp2_with fail
  go_loopw [5,7] (fun s5 s7 wr=>∃ j:Nat,s7=.int .i64 j∧j≤ln∧Hid (wr.ownsRow w.heap.size 64 3 s5 (locJ rows m j).length (flat (locJ rows m j)))∧Below w6.heap.size w6 wr) (fun _ s7 _=>ln - (intOf s7).toNat)
  case atStart=>exact ⟨0,rfl,Nat.zero_le _,HQ2,Below.refl _ _⟩
  case round =>
   clear HQ2
   obtain ⟨j,rfl,hjn,HQ,bq⟩:=hrel
   have q:=HQ.out
   obtain ⟨va,vn,vc,rfl⟩:=own_slice6 q
   obtain ⟨hlo,hll⟩:=locJ_ok hp hs j
   replace bw:=bel_trans bw bq
   replace pP:=pP.below bq
   replace pS:=pS.below bq
   replace hL:=hL.below bq
   clear HQ
   by_cases hlt2:j<ln
   ·have hkj:(enabM rows m 3)[j]?=some ((enabM rows m 3).getD j 0):=by rw [List.getD,List.getElem?_eq_getElem (by omega)];rfl
    have hz:=enab_halt (List.mem_of_getElem? hkj)
    obtain ⟨h0k,h2k,hd9,_⟩:=halt_can hz
    obtain ⟨k,hk⟩:∃ k:Nat,(enabM rows m 3).getD j 0=(k:Int):=⟨_,(Int.toNat_of_nonneg h0k).symm⟩
    obtain ⟨lb,lo,rfl,hc,hlb⟩:=ints_cellS hL.ints (show j<ln from hlt2)
    rw [hk] at hkj hz hd9 h0k h2k hc
    rw [Int.toNat_natCast] at hd9
    have hk3:k<3:=by omega
    clear hk hlb
    have hfo:=foundM_ok hp hs hz
    have HLS:Hid (locJ rows m (j+1)=mergeB (locJ rows m j) (foundM rows m (k:Int))):=locJ_succ hkj
    have kP:=fun (W:World) (b:Below w.heap.size w W)=>l04Found_is (cap:=cap) (hR.below b) (h.below b) hp hs hk3 hd9
    rw [ut] at kP
    generalize (goM rows m (k:Int)).1=z at *
    generalize foundM rows m (k:Int)=fs at *
    have hlt3:(j:Int)<(ln:Int):=by omega
    have hj0:(0:Int)≤(j:Int):=by omega
    clear hkj hz hd9
    go_wp2_with fail
    have hb9:Below wr.heap.size wr wr.drew:=by go_grown
    refine wp_region_held_drew (S:=(fun w'=>w'.cell? ⟨w.heap.size,0,none⟩=some (.slice a 3 cap)∧w'.cell? ⟨w.heap.size+1,0,none⟩=some (.slice t0a t0n t0c)∧w'.cell? ⟨w.heap.size+1,1,none⟩=some (.slice t1a t1n t1c)∧w'.cell? ⟨w.heap.size+1,2,none⟩=some (.slice t2a t2n t2c)∧w'.cell? ⟨w.heap.size+1,3,none⟩=some (.slice t3a t3n t3c)∧w'.cell? ⟨lb,lo+j,none⟩=some (.int .i64 (k:Int)))) (by kernel_rfl) ⟨by simpa using pP.cell 0,by simpa using pS.cell 0,by simpa using pS.cell 1,by simpa using pS.cell 2,by simpa using pS.cell 3,hc⟩ (fun hS0=>?_)
    refine tkm 0 28 (.agg #[.slice a 3 cap]) ?_
    refine tkm 1 29 (.agg #[.slice t0a t0n t0c,.slice t1a t1n t1c,.slice t2a t2n t2c,.slice t3a t3n t3c]) ?_
    refine tkm 2 30 (.slice (some ⟨lb,lo,none⟩) ln lc) ?_
    refine tkm 3 31 (.int .i64 (j:Int)) ?_
    refine tkm 4 32 (.pointer (some ⟨lb,lo+j,none⟩)) ?_
    refine tkm 5 33 (.int .i64 (k:Int)) ?_
    replace bw:=bel_trans bw hb9
    replace bq:=bel_trans bq hb9
    replace q:=owns_below q hb9
    clear hb9
    generalize wr.drew=V at *
    refine wpAnyH_ready (rs:=[6,10]) (by kernel_rfl) (by simp) ?_
    refine AllReadyH.cons (o:=⟨some 34,_,_,_,_,_⟩) rfl (fun K hK=>?_) (AllReadyH.cons (o:=⟨some 8,_,_,_,_,_⟩) rfl (fun K hK=>?_) AllReadyH.nil)
    ·have kPx:=kP V bw
     go_simp
     refine kPx.mono ?_
     rintro e V1 ⟨⟨⟨⟨z0a,z0n,z0c⟩,⟨z1a,z1n,z1c⟩,⟨z2a,z2n,z2c⟩,⟨z3a,z3n,z3c⟩⟩,v9,rfl,hO2,qf⟩,hb1⟩
     have uz:S4.val ((z0a,z0n,z0c),(z1a,z1n,z1c),(z2a,z2n,z2c),(z3a,z3n,z3c))=.agg #[.slice z0a z0n z0c,.slice z1a z1n z1c,.slice z2a z2n z2c,.slice z3a z3n z3c]:=rfl
     rw [uz]
     clear uz
     obtain ⟨fa,fc,rfl,hI9,hGd9⟩:=bugs_sliceR qf (fun x hx=>okB_fitsQ (hfo.1 x hx))
     clear hGd9 hO2 hI9
     go_wp2_with fail
     refine hK.out _ _ ⟨cells_kept hb1 _ _ hS0.1,cells_kept hb1 _ _ hS0.2.1,cells_kept hb1 _ _ hS0.2.2.1,cells_kept hb1 _ _ hS0.2.2.2.1,cells_kept hb1 _ _ hS0.2.2.2.2.1,cells_kept hb1 _ _ hS0.2.2.2.2.2⟩ (fun hS5=>?_)
     clear hK kPx
     try simp only [Act.put,tka,tkb,tkc]
     refine tkm 7 27 (.tuple #[.agg #[.slice z0a z0n z0c,.slice z1a z1n z1c,.slice z2a z2n z2c,.slice z3a z3n z3c],.slice fa fs.length fc]) ?_
     refine tkm 8 35 (.agg #[.slice z0a z0n z0c,.slice z1a z1n z1c,.slice z2a z2n z2c,.slice z3a z3n z3c]) ?_
     refine tkm 9 36 (.slice fa fs.length fc) ?_
     refine tkr 10 8 (fun K hK=>?_)
     have hb2:Below V1.heap.size V1 (V1.alloc (.cells #[.slice none 0 0,.slice none 0 0,.slice none 0 0,.slice none 0 0] 33)):=by go_grown
     have pX:Blk (V1.alloc (.cells #[.slice none 0 0,.slice none 0 0,.slice none 0 0,.slice none 0 0] 33)) V1.heap.size 33 [.slice none 0 0,.slice none 0 0,.slice none 0 0,.slice none 0 0]:=blkAt _ _ _ rfl
     replace qf:=owns_below qf hb2
     have hbA:=bel_trans hb1 hb2
     have hYV:V.heap.size≤V1.heap.size:=hb1.size
     go_simp
     refine hK.out _ _ ⟨cells_kept hbA _ _ hS0.1,cells_kept hbA _ _ hS0.2.1,cells_kept hbA _ _ hS0.2.2.1,cells_kept hbA _ _ hS0.2.2.2.1,cells_kept hbA _ _ hS0.2.2.2.2.1,cells_kept hbA _ _ hS0.2.2.2.2.2⟩ (fun hS6=>?_)
     clear hK hb1 hb2
     generalize (V1.alloc (.cells #[.slice none 0 0,.slice none 0 0,.slice none 0 0,.slice none 0 0] 33))=V2 at *
     generalize V1.heap.size=Y at *
     try simp only [Act.put,tka,tkb,tkc]
     refine tkz 11 (fun K hK=>?_)
     refine step_store_blkD rfl 33 _ _ rfl Y [.slice z0a z0n z0c,.slice z1a z1n z1c,.slice z2a z2n z2c,.slice z3a z3n z3c] rfl rfl pX (by kernel_rfl) rfl rfl ?_
     intro V8 pX8 g8
     have hbig:=hbA.grown g8 hbA.size (fun q hq=>by cases hq;exact hYV)
     replace qf:=qf.kept g8 (own_apart_blk qf pX (by decide))
     obtain ⟨fa9,fc9,ef9,hI8,hGd8⟩:=bugs_sliceR qf (fun x hx=>okB_fitsQ (hfo.1 x hx))
     cases ef9
     clear hGd8 qf
     refine hK.out _ _ ⟨cells_kept hbig _ _ hS0.1,cells_kept hbig _ _ hS0.2.1,cells_kept hbig _ _ hS0.2.2.1,cells_kept hbig _ _ hS0.2.2.2.1,cells_kept hbig _ _ hS0.2.2.2.2.1,cells_kept hbig _ _ hS0.2.2.2.2.2⟩ (fun hS7=>?_)
     clear hK pX g8 hbA hYV pX8
     try simp only [Act.put,tka,tkb,tkc]
     refine tkm 12 9 (.slice fa fs.length fc) ?_
     refine wpAnyH_done (by kernel_rfl) ?_ _
     replace bw:=bel_trans bw hbig
     replace bq:=bel_trans bq hbig
     replace q:=owns_below q hbig
     clear hbig hS0 hS5 hS6 hS7 pP pS kP hc hL
     obtain ⟨va9,vc9,ev9,hIv,hGv⟩:=bugs_sliceR q (fun x hx=>okB_fitsQ (hlo x hx))
     cases ev9
     have kM:=l04Merge_is va (locJ rows m j).length vc (locJ rows m j) fa fs.length fc fs V8 hIv hI8 (by omega) (by have:=hfo.2;omega)
     clear hIv hGv hI8 q
     go_wp2_with fail
     refine kM.mono ?_
     rintro e V10 ⟨⟨v6,rfl,q6⟩,hb⟩
     have hV8:=bw.size
     have HQ9:Hid (V10.ownsRow w.heap.size 64 3 v6 (locJ rows m (j+1)).length (flat (locJ rows m (j+1)))):=by rw [HLS.out];exact own_lower q6 hV8
     have bq9:=bel_trans bq hb
     clear hb q6 kM HLS bq bw
     go_wp2
     go_roundw
     case rel=>exact ⟨j+1,by go_num,by omega,HQ9,bq9⟩
     case measure=>simp [intOf];omega
    ·have hb1:Below V.heap.size V (V.alloc (.cells #[.slice none 0 0,.slice none 0 0,.slice none 0 0,.slice none 0 0] 33)):=by go_grown
     have pX:Blk (V.alloc (.cells #[.slice none 0 0,.slice none 0 0,.slice none 0 0,.slice none 0 0] 33)) V.heap.size 33 [.slice none 0 0,.slice none 0 0,.slice none 0 0,.slice none 0 0]:=blkAt _ _ _ rfl
     have hYV:V.heap.size≤V.heap.size:=Nat.le_refl _
     go_simp
     refine hK.out _ _ ⟨cells_kept hb1 _ _ hS0.1,cells_kept hb1 _ _ hS0.2.1,cells_kept hb1 _ _ hS0.2.2.1,cells_kept hb1 _ _ hS0.2.2.2.1,cells_kept hb1 _ _ hS0.2.2.2.2.1,cells_kept hb1 _ _ hS0.2.2.2.2.2⟩ (fun hS6=>?_)
     clear hK
     have kPx:=kP _ (bel_trans bw hb1)
     generalize (V.alloc (.cells #[.slice none 0 0,.slice none 0 0,.slice none 0 0,.slice none 0 0] 33))=V2 at *
     obtain ⟨Y,hY⟩:∃ Y,Y=V.heap.size:=⟨_,rfl⟩
     rw [← hY] at pX hYV ⊢
     replace hYV:V.heap.size≤Y:=by omega
     clear hY
     try simp only [Act.put,tka,tkb,tkc]
     refine tkr 6 34 (fun K hK=>?_)
     go_simp
     refine kPx.mono ?_
     rintro e V3 ⟨⟨⟨⟨z0a,z0n,z0c⟩,⟨z1a,z1n,z1c⟩,⟨z2a,z2n,z2c⟩,⟨z3a,z3n,z3c⟩⟩,v9,rfl,hO2,qf⟩,hb2⟩
     have uz:S4.val ((z0a,z0n,z0c),(z1a,z1n,z1c),(z2a,z2n,z2c),(z3a,z3n,z3c))=.agg #[.slice z0a z0n z0c,.slice z1a z1n z1c,.slice z2a z2n z2c,.slice z3a z3n z3c]:=rfl
     rw [uz]
     clear uz
     obtain ⟨fa,fc,rfl,hI9,hGd9⟩:=bugs_sliceR qf (fun x hx=>okB_fitsQ (hfo.1 x hx))
     clear hGd9 hO2 hI9
     go_wp2_with fail
     have hbA:=bel_trans hb1 hb2
     replace pX:=pX.below hb2
     refine hK.out _ _ ⟨cells_kept hbA _ _ hS0.1,cells_kept hbA _ _ hS0.2.1,cells_kept hbA _ _ hS0.2.2.1,cells_kept hbA _ _ hS0.2.2.2.1,cells_kept hbA _ _ hS0.2.2.2.2.1,cells_kept hbA _ _ hS0.2.2.2.2.2⟩ (fun hS5=>?_)
     clear hK kPx hb1 hb2
     try simp only [Act.put,tka,tkb,tkc]
     refine tkm 7 27 (.tuple #[.agg #[.slice z0a z0n z0c,.slice z1a z1n z1c,.slice z2a z2n z2c,.slice z3a z3n z3c],.slice fa fs.length fc]) ?_
     refine tkm 8 35 (.agg #[.slice z0a z0n z0c,.slice z1a z1n z1c,.slice z2a z2n z2c,.slice z3a z3n z3c]) ?_
     refine tkm 9 36 (.slice fa fs.length fc) ?_
     refine tkz 11 (fun K hK=>?_)
     refine step_store_blkD rfl 33 _ _ rfl Y [.slice z0a z0n z0c,.slice z1a z1n z1c,.slice z2a z2n z2c,.slice z3a z3n z3c] rfl rfl pX (by kernel_rfl) rfl rfl ?_
     intro V8 pX8 g8
     have hbig:=hbA.grown g8 hbA.size (fun q hq=>by cases hq;exact hYV)
     replace qf:=qf.kept g8 (own_apart_blk qf pX (by decide))
     obtain ⟨fa9,fc9,ef9,hI8,hGd8⟩:=bugs_sliceR qf (fun x hx=>okB_fitsQ (hfo.1 x hx))
     cases ef9
     clear hGd8 qf
     refine hK.out _ _ ⟨cells_kept hbig _ _ hS0.1,cells_kept hbig _ _ hS0.2.1,cells_kept hbig _ _ hS0.2.2.1,cells_kept hbig _ _ hS0.2.2.2.1,cells_kept hbig _ _ hS0.2.2.2.2.1,cells_kept hbig _ _ hS0.2.2.2.2.2⟩ (fun hS7=>?_)
     clear hK pX g8 hbA hYV pX8
     try simp only [Act.put,tka,tkb,tkc]
     refine tkm 12 9 (.slice fa fs.length fc) ?_
     refine wpAnyH_done (by kernel_rfl) ?_ _
     replace bw:=bel_trans bw hbig
     replace bq:=bel_trans bq hbig
     replace q:=owns_below q hbig
     clear hbig hS0 hS5 hS6 hS7 pP pS kP hc hL
     obtain ⟨va9,vc9,ev9,hIv,hGv⟩:=bugs_sliceR q (fun x hx=>okB_fitsQ (hlo x hx))
     cases ev9
     have kM:=l04Merge_is va (locJ rows m j).length vc (locJ rows m j) fa fs.length fc fs V8 hIv hI8 (by omega) (by have:=hfo.2;omega)
     clear hIv hGv hI8 q
     go_wp2_with fail
     refine kM.mono ?_
     rintro e V10 ⟨⟨v6,rfl,q6⟩,hb⟩
     have hV8:=bw.size
     have HQ9:Hid (V10.ownsRow w.heap.size 64 3 v6 (locJ rows m (j+1)).length (flat (locJ rows m (j+1)))):=by rw [HLS.out];exact own_lower q6 hV8
     have bq9:=bel_trans bq hb
     clear hb q6 kM HLS bq bw
     go_wp2
     go_roundw
     case rel=>exact ⟨j+1,by go_num,by omega,HQ9,bq9⟩
     case measure=>simp [intOf];omega
   ·have hge2:¬ (j:Int)<(ln:Int):=by omega
    have HG:Hid (BugsOne (.returned (.slice va vn vc)) wr w.heap.size (localS rows m)):=by
     rw [← locJ_all (j:=j) (by omega)]
     exact ⟨_,rfl,q⟩
    clear q hL pP pS
    go_wp2
    go_ret
    exact ⟨HG.out,bw⟩

def allJ (rows:List (List I3)) (S:List (Rec6 V4)) (i:Nat):List I3:=(S.take i).foldl (fun out r=>mergeB out (localS rows r.1)) []
theorem allJ_succ {rows:List (List I3)} {S:List (Rec6 V4)} {i:Nat} {r:Rec6 V4} (h:S[i]?=some r):allJ rows S (i+1)=mergeB (allJ rows S i) (localS rows r.1):=by
 unfold allJ
 rw [List.take_add_one,h]
 simp [List.foldl_append]
theorem allJ_ok {rows:List (List I3)} {S:List (Rec6 V4)} (hp:progOk rows=true) (hS:Shaped S):∀ i,(∀ x ∈ allJ rows S i,okB x=true)∧(allJ rows S i).length≤7*i
 | 0=>⟨fun x hx=>by simp [allJ] at hx,by simp [allJ]⟩
 | i+1=>by
  have ih:=allJ_ok hp hS i
  cases h:S[i]? with
  | none =>
   have e:allJ rows S (i+1)=allJ rows S i:=by unfold allJ;rw [List.take_add_one,h];simp
   rw [e]
   exact ⟨ih.1,by omega⟩
  | some r =>
   have hf:=loc_len hp (hS r (List.mem_of_getElem? h))
   rw [allJ_succ h]
   exact ⟨mergeB_ok ih.1 hf.1,by have:=mergeB_len (allJ rows S i) (localS rows r.1);have:=hf.2;omega⟩

def BgsGot (e:Ending) (w:World) (B:Nat) (rows:List (List I3)):Prop:=∃ v,e=.returned (.tuple #[v,.bool (decide ((fullS rows).length≤2000))])∧((fullS rows).length≤2000→w.ownsRow B 64 3 v (allS rows (fullS rows)).length (flat (allS rows (fullS rows))))
theorem l06Bugs_is {w:World} {a:Option Addr} {cap:Nat} {cs:Sl × Sl × Sl} {rows:List (List I3)} (hR:RowsAt w a cs rows) (hp:progOk rows=true) :
  Calls Tryz.prog 78 #[.agg #[.slice a 3 cap]] w fun e w'=>BgsGot e w' w.heap.size rows∧Below w.heap.size w w':=by
 have bw:Below w.heap.size w (w.alloc (.cells #[.slice a 3 cap] 25)):=by go_grown
 have pP:Blk (w.alloc (.cells #[.slice a 3 cap] 25)) w.heap.size 25 [.slice a 3 cap]:=blkAt _ _ _ rfl
 go_enter Tryz.func78,Tryz.ntmps78
 go_wp2_with fail
 generalize w.alloc (.cells #[.slice a 3 cap] 25)=U at *
 have kS:=l06States_is (cap:=cap) (hR.below bw) hp
 go_wp2_with (refine wpList_load_blk rfl 25 _ rfl w.heap.size rfl pP _ Tryz.underlying25 rfl (by kernel_rfl) ?_)
 refine kS.mono ?_
 rintro e w2 ⟨⟨v1,v2,v3,ts,fs,bs,rfl,hT,hF⟩,hb⟩
 have hbB:=bw.size
 replace bw:=bel_trans bw hb
 replace pP:=pP.below hb
 clear hb kS
 have hbs:=bw.size
 have q0:=own_emptyB w2 64 3 w.heap.size hbs
 have ha:Below w2.heap.size w2 (w2.alloc (.cells #[] 64)):=by go_grown
 have hks:=own_lower hT.ks hbB
 by_cases hf:(fullS rows).length≤2000
 ·obtain ⟨rfl,_,_⟩:=hF hf
  have hd:decide ((fullS rows).length≤2000)=true:=decide_eq_true hf
  have hpos:0<(fullS rows).length:=(List.getElem?_eq_some_iff.1 (fullS_head rows)).1
  have hSh:=fullS_shaped hp
  obtain ⟨gk,ck,rfl,hgc,_⟩:=own_some6 hks (by rw [keysL_len];exact hpos)
  have KL:Hid ((keysL (fullS rows)).length=(fullS rows).length):=keysL_len _
  have HQ:Hid ((w2.alloc (.cells #[] 64)).ownsRow w.heap.size 64 3 (.slice (some ⟨w2.heap.size,0,none⟩) 0 0) (allJ rows (fullS rows) 0).length (flat (allJ rows (fullS rows) 0))):=q0
  have HAll:Hid (∀ i,(fullS rows).length≤i→allJ rows (fullS rows) i=allS rows (fullS rows)):=fun i hi=>by unfold allJ allS;rw [List.take_of_length_le hi]
  replace bw:=bel_trans bw ha
  replace pP:=pP.below ha
  replace hks:=owns_below hks ha
  have HGot:Hid (∀ (W:World) (v:Value),W.ownsRow w.heap.size 64 3 v (allS rows (fullS rows)).length (flat (allS rows (fullS rows)))→BgsGot (.returned (.tuple #[v,.bool true])) W w.heap.size rows):=fun W v h=>⟨v,by rw [hd],fun _=>h⟩
  rw [hd]
  clear hF hT hgc q0 ha hbs hpos
  generalize fullS rows=S at *
  go_wp2_with fail
  generalize w2.alloc (.cells #[] 64)=wk at *
  generalize w2.heap.size=g0 at *
  go_loopw [8,9] (fun s8 s9 wr=>∃ i:Nat,s9=.int .i64 i∧i≤S.length∧Hid (wr.ownsRow w.heap.size 64 3 s8 (allJ rows S i).length (flat (allJ rows S i)))∧Below wk.heap.size wk wr) (fun _ s9 _=>S.length - (intOf s9).toNat)
  case atStart=>exact ⟨0,rfl,Nat.zero_le _,HQ,Below.refl _ _⟩
  case round =>
   clear HQ
   obtain ⟨i,rfl,hil,HQ,bq⟩:=hrel
   have q:=HQ.out
   obtain ⟨va,vn,vc,rfl⟩:=own_slice6 q
   obtain ⟨hlo,hll⟩:=allJ_ok hp hSh i
   clear HQ
   by_cases hlt:i<S.length
   ·obtain ⟨r,hr⟩:∃ r,S[i]?=some r:=⟨S[i],List.getElem?_eq_getElem hlt⟩
    have hs:shapeOk r.1=true:=hSh _ (List.mem_of_getElem? hr)
    have hkm:(keysL S)[i]?=some (keyT r.1):=by unfold keysL;rw [List.getElem?_map,hr];rfl
    have hc:=cells_kept bq _ _ (str_cell6 hks (by rw [KL.out];exact hlt) hkm)
    have hlt1:(i:Int)<((keysL S).length:Int):=by rw [KL.out];omega
    have hi0:(0:Int)≤(i:Int):=by omega
    have HAs:Hid (allJ rows S (i+1)=mergeB (allJ rows S i) (localS rows r.1)):=allJ_succ hr
    have kO:=l03Of_back hs wr
    have bw1:=bel_trans bw bq
    have pP1:=pP.below bq
    clear hkm hr
    go_wp2_with fail
    refine kO.mono ?_
    rintro e w3 ⟨⟨⟨⟨t0a,t0n,t0c⟩,⟨t1a,t1n,t1c⟩,⟨t2a,t2n,t2c⟩,⟨t3a,t3n,t3c⟩⟩,rfl,hV⟩,hb⟩
    have ut:S4.val ((t0a,t0n,t0c),(t1a,t1n,t1c),(t2a,t2n,t2c),(t3a,t3n,t3c))=.agg #[.slice t0a t0n t0c,.slice t1a t1n t1c,.slice t2a t2n t2c,.slice t3a t3n t3c]:=rfl
    rw [ut]
    replace bw1:=bel_trans bw1 hb
    replace pP1:=pP1.below hb
    replace bq:=bel_trans bq hb
    replace q:=owns_below q hb
    clear hb kO hc
    have pN:=Blk.new w3 33 [.slice none 0 0,.slice none 0 0,.slice none 0 0,.slice none 0 0]
    have hbN:Below w3.heap.size w3 (w3.alloc (.cells #[.slice none 0 0,.slice none 0 0,.slice none 0 0,.slice none 0 0] 33)):=by go_grown
    go_wp2_with (refine wpList_store_blk rfl 33 _ _ rfl w3.heap.size [.slice t0a t0n t0c,.slice t1a t1n t1c,.slice t2a t2n t2c,.slice t3a t3n t3c] rfl rfl pN (by kernel_rfl) rfl rfl ?_)
    intro w4 pS4 g4
    have pS:=pS4.out
    have hb4:Below w3.heap.size w3 w4:=hbN.grown g4 hbN.size (fun k e=>by cases e;exact Nat.le_refl _)
    replace bw1:=bel_trans bw1 hb4
    replace pP1:=pP1.below hb4
    replace bq:=bel_trans bq hb4
    replace q:=owns_below q hb4
    replace hV:=hV.below hb4
    clear pS4 g4 hbN pN hb4
    generalize w3.heap.size=X at *
    have fm:=(shape_fits9 hs).1
    have kL:=l06Local_is (cap:=cap) (hR.below bw1) (hV.mem fm) hp hs
    rw [ut] at kL
    have hlf:=loc_len hp hs
    generalize localS rows r.1=ls at *
    go_wp2_with (first | refine wpList_load_blk rfl 25 _ rfl w.heap.size rfl pP1 _ Tryz.underlying25 rfl (by kernel_rfl) ?_ | refine wpList_load_blk rfl 33 _ rfl X rfl pS _ Tryz.underlying33 rfl (by kernel_rfl) ?_)
    refine kL.mono ?_
    rintro e w5 ⟨⟨v5,rfl,q5⟩,hb⟩
    replace bw1:=bel_trans bw1 hb
    replace bq:=bel_trans bq hb
    replace q:=owns_below q hb
    obtain ⟨fa,fc,rfl,hI5,_⟩:=bugs_sliceR q5 (fun x hx=>okB_fitsQ (hlf.1 x hx))
    obtain ⟨va9,vc9,ev9,hIv,_⟩:=bugs_sliceR q (fun x hx=>okB_fitsQ (hlo x hx))
    cases ev9
    have kM:=l04Merge_is va (allJ rows S i).length vc (allJ rows S i) fa ls.length fc ls w5 hIv hI5 (by omega) (by have:=hlf.2;omega)
    clear kL hb hV pS pP1 q5 q hIv hI5 ut
    go_wp2_with fail
    refine kM.mono ?_
    rintro e w6 ⟨⟨v6,rfl,q6⟩,hb⟩
    have hw5:=bw1.size
    have HQ9:Hid (w6.ownsRow w.heap.size 64 3 v6 (allJ rows S (i+1)).length (flat (allJ rows S (i+1)))):=by rw [HAs.out];exact own_lower q6 hw5
    have bq9:=bel_trans bq hb
    clear hb q6 kM HAs bq bw1
    go_wp2
    go_roundw
    case rel=>exact ⟨i+1,by go_num,by omega,HQ9,bq9⟩
    case measure=>simp [intOf];omega
   ·have hge:¬ (i:Int)<((keysL S).length:Int):=by rw [KL.out];omega
    have bz:=bel_trans bw bq
    have HG:Hid (BgsGot (.returned (.tuple #[.slice va vn vc,.bool true])) wr w.heap.size rows):=HGot.out wr _ (by rw [← HAll.out i (by omega)];exact q)
    clear q bq
    go_wp2
    refine bodyPost_ret (by simp [results,Tryz.results78,go_sem];try rfl) rfl ?_
    exact ⟨HG.out,bz⟩
 ·have hd:decide ((fullS rows).length≤2000)=false:=decide_eq_false hf
  obtain ⟨ka,kn,kc,rfl⟩:=own_slice6 hks
  have bz:=bel_trans bw ha
  have HG:Hid (∀ v,BgsGot (.returned (.tuple #[v,.bool false])) (w2.alloc (.cells #[] 64)) w.heap.size rows):=fun v=>⟨v,by rw [hd],fun h9=>absurd h9 hf⟩
  rw [hd]
  clear hF hT q0 ha hks hf
  go_wp2_with fail
  go_loopw [8,9] (fun s8 s9 wr=>s8=.slice (some ⟨w2.heap.size,0,none⟩) 0 0∧s9=.int .i64 0∧wr=w2.alloc (.cells #[] 64)) (fun _ _ _=>0)
  case atStart=>exact ⟨rfl,rfl,rfl⟩
  case round =>
   obtain ⟨rfl,rfl,rfl⟩:=hrel
   by_cases hl0:(0:Int)<(kn:Int)
   ·go_wp2
    refine bodyPost_ret (by simp [results,Tryz.results78,go_sem];try rfl) rfl ?_
    exact ⟨HG.out _,bz⟩
   ·go_wp2
    refine bodyPost_ret (by simp [results,Tryz.results78,go_sem];try rfl) rfl ?_
    exact ⟨HG.out _,bz⟩

theorem specAllBugs_is (a:Option Addr) (len cap:Nat) (rows:List (List I3)) (w:World) (hC:Codes w a len cap rows) :
  Calls Tryz.prog 33 #[.agg #[.slice a len cap]] w fun e w'=>AbgGot e w' w.heap.size (bugsO rows) (codeF rows)∧Below w.heap.size w w':=by
 have kO:=fun (W:World) (b:Below w.heap.size w W)=>specProgramOK_is a len cap rows W (hC.below b)
 have bw:Below w.heap.size w (w.alloc (.cells #[.slice a len cap] 25)):=by go_grown
 have pP:Blk (w.alloc (.cells #[.slice a len cap] 25)) w.heap.size 25 [.slice a len cap]:=blkAt _ _ _ rfl
 go_enter Tryz.func33,Tryz.ntmps33
 go_wp2_with fail
 generalize w.alloc (.cells #[.slice a len cap] 25)=U at *
 have kOx:=kO U bw
 clear kO
 go_wp2_with (refine wpList_load_blk rfl 25 _ rfl w.heap.size rfl pP _ Tryz.underlying25 rfl (by kernel_rfl) ?_)
 refine kOx.mono ?_
 rintro e w1 ⟨rfl,hb⟩
 replace bw:=bel_trans bw hb
 replace pP:=pP.below hb
 clear hb kOx
 have hbs:=bw.size
 cases hp:progOk rows
 ·have HG:Hid (AbgGot (.returned (.tuple #[.slice (some ⟨w1.heap.size,0,none⟩) 0 0,.int .i64 1])) (w1.alloc (.cells #[] 64)) w.heap.size (bugsO rows) (codeF rows)):=by
   have e1:codeF rows=1:=by unfold codeF;rw [hp];rfl
   have e2:bugsO rows=[]:=by unfold bugsO;rw [e1];rfl
   rw [e1,e2]
   exact ⟨_,rfl,own_emptyB w1 64 3 w.heap.size hbs⟩
  have b2:Below w.heap.size w (w1.alloc (.cells #[] 64)):=bel_trans bw (by go_grown)
  go_wp2
  refine bodyPost_ret (by simp [results,Tryz.results33,go_sem];try rfl) rfl ?_
  exact ⟨HG.out,b2⟩
 ·obtain ⟨hl3,cs,hR⟩:=hC.rowsAt hp
  subst hl3
  have kS:=l06Bugs_is (cap:=cap) (hR.below bw) hp
  go_wp2_with (refine wpList_load_blk rfl 25 _ rfl w.heap.size rfl pP _ Tryz.underlying25 rfl (by kernel_rfl) ?_)
  refine kS.mono ?_
  rintro e w2 ⟨⟨v,rfl,hq⟩,hb⟩
  replace bw:=bel_trans bw hb
  clear hb kS
  by_cases hf:(fullS rows).length≤2000
  ·have q:=hq hf
   have hd:decide ((fullS rows).length≤2000)=true:=decide_eq_true hf
   have HG:Hid (AbgGot (.returned (.tuple #[v,.int .i64 0])) w2 w.heap.size (bugsO rows) (codeF rows)):=by
    have e1:codeF rows=0:=by unfold codeF;rw [hp,if_pos rfl,if_pos hf]
    have e2:bugsO rows=allS rows (fullS rows):=by unfold bugsO;rw [if_pos e1,all_same hf]
    rw [e1,e2]
    exact ⟨_,rfl,own_lower q hbs⟩
   clear hq q hf
   go_wp2
   refine bodyPost_ret (by simp [results,Tryz.results33,go_sem];try rfl) rfl ?_
   exact ⟨HG.out,bw⟩
  ·have hd:decide ((fullS rows).length≤2000)=false:=decide_eq_false hf
   have HG:Hid (AbgGot (.returned (.tuple #[.slice (some ⟨w2.heap.size,0,none⟩) 0 0,.int .i64 15])) (w2.alloc (.cells #[] 64)) w.heap.size (bugsO rows) (codeF rows)):=by
    have e1:codeF rows=15:=by unfold codeF;rw [hp,if_pos rfl,if_neg hf]
    have e2:bugsO rows=[]:=by unfold bugsO;rw [e1];rfl
    rw [e1,e2]
    exact ⟨_,rfl,own_emptyB w2 64 3 w.heap.size bw.size⟩
   have b2:Below w.heap.size w (w2.alloc (.cells #[] 64)):=bel_trans bw (by go_grown)
   clear hq hf
   go_wp2
   refine bodyPost_ret (by simp [results,Tryz.results33,go_sem];try rfl) rfl ?_
   exact ⟨HG.out,b2⟩
end Go.Proofs.YtifoggpohlegmaaGreatDoor
