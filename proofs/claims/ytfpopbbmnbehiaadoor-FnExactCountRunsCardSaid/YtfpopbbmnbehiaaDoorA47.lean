/-
  Joined: AstI.
-/
import Derived.Deep.CutRange
import Derived.Test.YtfpopbbmnbehiaaDoorA28
import Derived.Test.YtfpopbbmnbehiaaDoorA46

namespace Go.Proofs.YtfpopbbmnbehiaaDoor
set_option maxRecDepth 100000
set_option maxHeartbeats 16000000
open Go.RowKit
set_option linter.unusedVariables false
set_option linter.unusedSimpArgs false
def CutF (w W:World) (c:Int) (s4 s5:Value):Prop:=∃ X,s4=.pointer (some ⟨X,0,none⟩)∧s5=.int .i64 c∧Below w.heap.size w W
def CutK (w W:World) (cs:Sl × Sl × Sl) (rows:List (List I3)) (F:List (Rec6 V4)) (s4 s5:Value):Prop:=
 ∃ X va vc nb L,s4=.pointer (some ⟨X,0,none⟩)∧s5=.int .i64 0∧Blk W X 61 [.slice va L.length vc,.map (some nb)]∧SpcD W w.heap.size nb (.slice va L.length vc) cs (mvsOf rows F) L L.length∧L.map (·.1)=F∧w.heap.size≤X∧Below w.heap.size w W
theorem SpcD.lower {w:World} {B B' nb d:Nat} {vs:Value} {cs:Sl × Sl × Sl} {M:V4→List I4} {L:List (Rec6 V4 × Value)} (h:SpcD w B nb vs cs M L d) (hB:B'≤B):SpcD w B' nb vs cs M L d:=
 ⟨own_lower h.row hB,h.map,fun i r mv h1 h2=>own_lower (h.mvs i r mv h1 h2) hB,h.nil,Nat.le_trans hB h.low⟩
theorem CutK.mk9 {w W:World} {cs:Sl × Sl × Sl} {rows:List (List I3)} {F:List (Rec6 V4)} {s4 s5 va vs:Value} {X nb B:Nat} {L:List (Rec6 V4 × Value)} (h4:s4=.pointer (some ⟨X,0,none⟩)) (h5:s5=.int .i64 0) (hX:Blk W X 61 [vs,.map (some nb)]) (sp:SpcD W B nb vs cs (mvsOf rows F) L L.length) (hL:L.map (·.1)=F) (hBX:w.heap.size≤X) (hB:w.heap.size≤B) (b:Below w.heap.size w W):CutK w W cs rows F s4 s5:=by
 obtain ⟨va,vn,vc,rfl⟩:=own_slice6 sp.row
 obtain rfl:vn=L.length:=by
  rcases sp.row.2 with ⟨h1,h2⟩ | ⟨gq,cq,cur,h1,_⟩
  ·cases h1;exact h2.symm
  ·cases h1;rfl
 exact ⟨X,va,vc,nb,L,h4,h5,hX,sp.lower hB,hL,hBX,b⟩

def KeysGot (e:Ending) (w:World) (B:Nat) (ts:List ByteArray) (c:Int):Prop:=∃ v,e=.returned (.tuple #[v,.int .i64 c])∧w.ownsRow B 9 1 v ts.length (ts.map Value.string)
def codeF (rows:List (List I3)):Int:=if progOk rows then (if (fullS rows).length≤2000 then 0 else 15) else 1
theorem spaceOf_not (a:Option Addr) (len cap:Nat) (rows:List (List I3)) (s:S4) (w:World) (hC:Codes w a len cap rows) (h:Vmem w s zeroV) (hV:VmShape w) (hc:codeF rows≠0) :
  Calls Tryd.prog 30 #[.agg #[.slice a len cap],s.val] w fun e w'=>e=.returned (.tuple #[.agg #[.slice none 0 0,.map none],.int .i64 (codeF rows)])∧Below w.heap.size w w':=by
 unfold codeF at hc ⊢
 cases hp:progOk rows
 ·exact spaceOf_bad a len cap rows s zeroV w hC h hV (by rw [hp];rfl)
 ·rw [hp] at hc
  by_cases hf:(fullS rows).length≤2000
  ·rw [if_pos rfl,if_pos hf] at hc
   exact absurd rfl hc
  ·rw [if_pos rfl,if_neg hf]
   refine (spaceOf_is a len cap rows s w hC h hV hp).mono fun e w' h=>?_
   rw [if_neg hf] at h
   exact h
theorem spaceOf_yes (a:Option Addr) (len cap:Nat) (rows:List (List I3)) (s:S4) (w:World) (hC:Codes w a len cap rows) (h:Vmem w s zeroV) (hV:VmShape w) (hp:progOk rows=true) (hf:(fullS rows).length≤2000) :
  Calls Tryd.prog 30 #[.agg #[.slice a len cap],s.val] w fun e w'=>SpcGot e w w' a rows (fullS rows):=by
 refine (spaceOf_is a len cap rows s w hC h hV hp).mono fun e w' h=>?_
 rw [if_pos hf] at h
 exact h
theorem code_parts {rows:List (List I3)} (h:codeF rows=0):progOk rows=true∧(fullS rows).length≤2000:=by
 unfold codeF at h
 cases hp:progOk rows
 ·rw [hp] at h;simp at h
 ·rw [hp] at h
  by_cases hf:(fullS rows).length≤2000
  ·exact ⟨rfl,hf⟩
  ·rw [if_pos rfl,if_neg hf] at h
   simp at h
theorem rcC_one (cs:Sl × Sl × Sl) (r:Rec6 V4) {mv:Value} (h:mv.oneCell'=true):(rcC cs r mv).all (·.oneCell')=true:=by
 unfold rcC
 rw [List.all_cons,List.all_append,mach_one]
 simp only [List.all_cons,List.all_nil,h,Bool.and_true,Bool.and_self]
 rfl
theorem SpcD.mvone {w:World} {B nb:Nat} {vs:Value} {cs:Sl × Sl × Sl} {M:V4→List I4} {L:List (Rec6 V4 × Value)} (h:SpcD w B nb vs cs M L L.length) {j:Nat} {r:Rec6 V4} {mv:Value} (hr:L[j]?=some (r,mv)):mv.oneCell'=true:=by
 obtain ⟨a,k,c,rfl⟩:=own_slice6 (h.mvs j r mv (List.getElem?_eq_some_iff.1 hr).1 hr)
 rfl
theorem SpcD.strgrown {W W':World} {B B' nb d n e s:Nat} {vs v:Value} {cs:Sl × Sl × Sl} {M:V4→List I4} {L:List (Rec6 V4 × Value)} {xs:List Value} (h:SpcD W B nb vs cs M L d) (ho:W.ownsRow B' e s v n xs) (gr:W.grownBy W' v.ownBlock) (h1:77≠e:=by decide) (h2:122≠e:=by decide):SpcD W' B nb vs cs M L d:=by
 obtain ⟨D,hm,hn⟩:=h.map
 exact ⟨h.row.kept gr (Ap3.types h.row ho h1).or,⟨D,hm.kept gr (fun e=>map_own hm ho e.symm),hn⟩,fun i r mv' hi hr=>(h.mvs i r mv' hi hr).kept gr (Ap3.types (h.mvs i r mv' hi hr) ho h2).or,h.nil,h.low⟩
theorem keyT_at {cs:Sl × Sl × Sl} {r:Rec6 V4} {mv:Value}:(rcC cs r mv)[0]?=some (.string (keyT r.1)):=rfl

theorem implAllStates_not (a:Option Addr) (len cap:Nat) (rows:List (List I3)) (w:World) (hC:Codes w a len cap rows) (hV:VmShape w) (hc:codeF rows≠0) :
  Calls Tryd.prog 10 #[.agg #[.slice a len cap]] w fun e w'=>KeysGot e w' w.heap.size [] (codeF rows)∧Below w.heap.size w w':=by
 have kS:=fun (W:World) (b:Below w.heap.size w W) (t:S4) (h:Vmem W t zeroV)=>spaceOf_not a len cap rows t W (hC.below b) h (hV.below b) hc
 generalize codeF rows=c at *
 have hcn:(c != 0)=true:=by simpa using hc
 have fz:=(shape_fits9 zero_shape).1
 have kN:=implNewVm_is
 have bw:Below w.heap.size w (w.alloc (.cells #[.slice a len cap] 31)):=by go_grown
 have pP:Blk (w.alloc (.cells #[.slice a len cap] 31)) w.heap.size 31 [.slice a len cap]:=blkAt _ _ _ rfl
 go_enter Tryd.func10,Tryd.ntmps10
 go_wp2_with fail
 generalize w.alloc (.cells #[.slice a len cap] 31)=U at *
 go_cut [4,5] from 9 (fun s4 s5 W=>CutF w W c s4 s5)
 case first =>
  have hdr:Below U.heap.size U U.drew:=by go_grown
  refine wp_region_held_drew (S:=(fun w'=>w'.cell? ⟨w.heap.size,0,none⟩=some (.slice a len cap))) (by kernel_rfl) (by simpa using pP.cell 0) (fun hS0=>?_)
  refine tkm 0 10 (.agg #[.slice a len cap]) ?_
  have pP9:=pP.below hdr
  replace bw:=bel_trans bw hdr
  clear hdr
  generalize U.drew=V at *
  have bt:Below V.heap.size V V:=Below.refl _ _
  refine wpAnyH_ready (rs:=[1,6]) (by kernel_rfl) (by simp) ?_
  refine AllReadyH.cons (o:=⟨some 11,_,_,_,_,_⟩) rfl (fun K hK=>?_) (AllReadyH.cons (o:=⟨some 4,_,_,_,_,_⟩) rfl (fun K hK=>?_) AllReadyH.nil)
  ·go_simp
   refine (kN V).mono ?_
   rintro e V1 ⟨⟨⟨⟨t0a,t0n,t0c⟩,⟨t1a,t1n,t1c⟩,⟨t2a,t2n,t2c⟩,⟨t3a,t3n,t3c⟩⟩,rfl,hO⟩,hb1⟩
   have ut:S4.val ((t0a,t0n,t0c),(t1a,t1n,t1c),(t2a,t2n,t2c),(t3a,t3n,t3c))=.agg #[.slice t0a t0n t0c,.slice t1a t1n t1c,.slice t2a t2n t2c,.slice t3a t3n t3c]:=rfl
   rw [ut]
   have bt:=bel_trans bt hb1
   go_wp2_with fail
   refine hK.out _ _ (cells_kept bt _ _ hS0) (fun hS1=>?_)
   clear hK
   try simp only [Act.put,tka,tkb,tkc]
   refine wpAnyH_ready (rs:=[2,6]) (by kernel_rfl) (by simp) ?_
   refine AllReadyH.cons (o:=⟨some 12,_,_,_,_,_⟩) rfl (fun K hK=>?_) (AllReadyH.cons (o:=⟨some 4,_,_,_,_,_⟩) rfl (fun K hK=>?_) AllReadyH.nil)
   ·have kx:=kS V1 (bel_trans bw bt) ((t0a,t0n,t0c),(t1a,t1n,t1c),(t2a,t2n,t2c),(t3a,t3n,t3c)) (hO.mem fz)
    rw [ut] at kx
    go_simp
    refine kx.mono ?_
    rintro e V2 ⟨rfl,hb2⟩
    have bt:=bel_trans bt hb2
    go_wp2_with fail
    refine hK.out _ _ (cells_kept bt _ _ hS0) (fun hS2=>?_)
    clear hK kx
    try simp only [Act.put,tka,tkb,tkc]
    refine tkm 3 9 (.tuple #[.agg #[.slice none 0 0,.map none],.int .i64 c]) ?_
    refine tkm 4 13 (.agg #[.slice none 0 0,.map none]) ?_
    refine tkm 5 14 (.int .i64 c) ?_
    refine tkr 6 4 (fun K hK=>?_)
    have hb3:Below V2.heap.size V2 (V2.alloc (.cells #[.slice none 0 0,.map none] 61)):=by go_grown
    have pX:Blk (V2.alloc (.cells #[.slice none 0 0,.map none] 61)) V2.heap.size 61 [.slice none 0 0,.map none]:=blkAt _ _ _ rfl
    have hXB:w.heap.size≤V2.heap.size:=Nat.le_trans bw.size bt.size
    have bt:=bel_trans bt hb3
    go_simp
    refine hK.out _ _ (cells_kept bt _ _ hS0) (fun hS3=>?_)
    clear hK
    generalize (V2.alloc (.cells #[.slice none 0 0,.map none] 61))=V3 at *
    obtain ⟨X,hX⟩:∃ X,X=V2.heap.size:=⟨_,rfl⟩
    rw [← hX] at pX hXB ⊢
    clear hX
    try simp only [Act.put,tka,tkb,tkc]
    refine tkz 7 (fun K hK=>?_)
    refine step_store_blkD rfl 61 _ _ rfl X [.slice none 0 0,.map none] rfl rfl pX (by kernel_rfl) rfl rfl ?_
    intro V9 pX9 g9
    have bz:=(bel_trans bw bt).grown g9 (bel_trans bw bt).size (fun q e=>by cases e;exact hXB)
    have hXP:X≠w.heap.size:=blk_ne pX (pP9.below bt) (by decide)
    have c9:=cells_kept bt _ _ hS0
    refine hK.out _ _ (cell_grownB g9 c9 (by simp;omega)) (fun hS4=>?_)
    clear hK
    try simp only [Act.put,tka,tkb,tkc]
    refine tkm 8 5 (.int .i64 c) ?_
    refine wpAnyH_done (by kernel_rfl) ?_ _
    go_wp2_with fail
    go_meet
    case rel=>exact ⟨X,rfl,rfl,bz⟩
   ·have hb3:Below V1.heap.size V1 (V1.alloc (.cells #[.slice none 0 0,.map none] 61)):=by go_grown
    have pX:Blk (V1.alloc (.cells #[.slice none 0 0,.map none] 61)) V1.heap.size 61 [.slice none 0 0,.map none]:=blkAt _ _ _ rfl
    have hXB:w.heap.size≤V1.heap.size:=Nat.le_trans bw.size bt.size
    replace hO:=hO.below hb3
    have bt:=bel_trans bt hb3
    go_simp
    refine hK.out _ _ (cells_kept bt _ _ hS0) (fun hS3=>?_)
    clear hK
    generalize (V1.alloc (.cells #[.slice none 0 0,.map none] 61))=V2 at *
    obtain ⟨X,hX⟩:∃ X,X=V1.heap.size:=⟨_,rfl⟩
    rw [← hX] at pX hXB ⊢
    clear hX
    try simp only [Act.put,tka,tkb,tkc]
    refine tkr 2 12 (fun K hK=>?_)
    have kx:=kS V2 (bel_trans bw bt) ((t0a,t0n,t0c),(t1a,t1n,t1c),(t2a,t2n,t2c),(t3a,t3n,t3c)) (hO.mem fz)
    rw [ut] at kx
    go_simp
    refine kx.mono ?_
    rintro e V3 ⟨rfl,hb2⟩
    replace pX:=pX.below hb2
    have bt:=bel_trans bt hb2
    go_wp2_with fail
    refine hK.out _ _ (cells_kept bt _ _ hS0) (fun hS2=>?_)
    clear hK kx
    try simp only [Act.put,tka,tkb,tkc]
    refine tkm 3 9 (.tuple #[.agg #[.slice none 0 0,.map none],.int .i64 c]) ?_
    refine tkm 4 13 (.agg #[.slice none 0 0,.map none]) ?_
    refine tkm 5 14 (.int .i64 c) ?_
    refine tkz 7 (fun K hK=>?_)
    refine step_store_blkD rfl 61 _ _ rfl X [.slice none 0 0,.map none] rfl rfl pX (by kernel_rfl) rfl rfl ?_
    intro V9 pX9 g9
    have bz:=(bel_trans bw bt).grown g9 (bel_trans bw bt).size (fun q e=>by cases e;exact hXB)
    have hXP:X≠w.heap.size:=blk_ne pX (pP9.below bt) (by decide)
    have c9:=cells_kept bt _ _ hS0
    refine hK.out _ _ (cell_grownB g9 c9 (by simp;omega)) (fun hS4=>?_)
    clear hK
    try simp only [Act.put,tka,tkb,tkc]
    refine tkm 8 5 (.int .i64 c) ?_
    refine wpAnyH_done (by kernel_rfl) ?_ _
    go_wp2_with fail
    go_meet
    case rel=>exact ⟨X,rfl,rfl,bz⟩
  ·have hb3:Below V.heap.size V (V.alloc (.cells #[.slice none 0 0,.map none] 61)):=by go_grown
   have pX:Blk (V.alloc (.cells #[.slice none 0 0,.map none] 61)) V.heap.size 61 [.slice none 0 0,.map none]:=blkAt _ _ _ rfl
   have hXB:w.heap.size≤V.heap.size:=Nat.le_trans bw.size bt.size
   have bt:=bel_trans bt hb3
   go_simp
   refine hK.out _ _ (cells_kept bt _ _ hS0) (fun hS3=>?_)
   clear hK
   generalize (V.alloc (.cells #[.slice none 0 0,.map none] 61))=V1 at *
   obtain ⟨X,hX⟩:∃ X,X=V.heap.size:=⟨_,rfl⟩
   rw [← hX] at pX hXB ⊢
   clear hX
   try simp only [Act.put,tka,tkb,tkc]
   refine tkr 1 11 (fun K hK=>?_)
   go_simp
   refine (kN V1).mono ?_
   rintro e V2 ⟨⟨⟨⟨t0a,t0n,t0c⟩,⟨t1a,t1n,t1c⟩,⟨t2a,t2n,t2c⟩,⟨t3a,t3n,t3c⟩⟩,rfl,hO⟩,hb1⟩
   have ut:S4.val ((t0a,t0n,t0c),(t1a,t1n,t1c),(t2a,t2n,t2c),(t3a,t3n,t3c))=.agg #[.slice t0a t0n t0c,.slice t1a t1n t1c,.slice t2a t2n t2c,.slice t3a t3n t3c]:=rfl
   rw [ut]
   have bt:=bel_trans bt hb1
   go_wp2_with fail
   refine hK.out _ _ (cells_kept bt _ _ hS0) (fun hS1=>?_)
   clear hK
   try simp only [Act.put,tka,tkb,tkc]
   replace pX:=pX.below hb1
   refine tkr 2 12 (fun K hK=>?_)
   have kx:=kS V2 (bel_trans bw bt) ((t0a,t0n,t0c),(t1a,t1n,t1c),(t2a,t2n,t2c),(t3a,t3n,t3c)) (hO.mem fz)
   rw [ut] at kx
   go_simp
   refine kx.mono ?_
   rintro e V3 ⟨rfl,hb2⟩
   replace pX:=pX.below hb2
   have bt:=bel_trans bt hb2
   go_wp2_with fail
   refine hK.out _ _ (cells_kept bt _ _ hS0) (fun hS2=>?_)
   clear hK kx
   try simp only [Act.put,tka,tkb,tkc]
   refine tkm 3 9 (.tuple #[.agg #[.slice none 0 0,.map none],.int .i64 c]) ?_
   refine tkm 4 13 (.agg #[.slice none 0 0,.map none]) ?_
   refine tkm 5 14 (.int .i64 c) ?_
   refine tkz 7 (fun K hK=>?_)
   refine step_store_blkD rfl 61 _ _ rfl X [.slice none 0 0,.map none] rfl rfl pX (by kernel_rfl) rfl rfl ?_
   intro V9 pX9 g9
   have bz:=(bel_trans bw bt).grown g9 (bel_trans bw bt).size (fun q e=>by cases e;exact hXB)
   have hXP:X≠w.heap.size:=blk_ne pX (pP9.below bt) (by decide)
   have c9:=cells_kept bt _ _ hS0
   refine hK.out _ _ (cell_grownB g9 c9 (by simp;omega)) (fun hS4=>?_)
   clear hK
   try simp only [Act.put,tka,tkb,tkc]
   refine tkm 8 5 (.int .i64 c) ?_
   refine wpAnyH_done (by kernel_rfl) ?_ _
   go_wp2_with fail
   go_meet
   case rel=>exact ⟨X,rfl,rfl,bz⟩
 obtain ⟨X,rfl,rfl,bz⟩:=hcut
 clear kS kN bw pP fz
 have HK:Hid (∀ W,KeysGot (.returned (.tuple #[.slice none 0 0,.int .i64 c])) W w.heap.size [] c):=fun W=>⟨_,rfl,World.ownsRow_nil _ _ _ _⟩
 go_wp2
 refine bodyPost_ret (by simp [results,Tryd.results10,go_sem];try rfl) rfl ?_
 exact ⟨HK.out _,bz⟩

def OnK (w wr:World) (X nb:Nat) (va:Option Addr) (vc:Nat) (cs:Sl × Sl × Sl) (rows:List (List I3)) (L:List (Rec6 V4 × Value)) (j:Nat) (v:Value):Prop:=
 j≤L.length∧Blk wr X 61 [.slice va L.length vc,.map (some nb)]∧SpcD wr w.heap.size nb (.slice va L.length vc) cs (mvsOf rows (fullS rows)) L L.length∧wr.ownsRow w.heap.size 9 1 v ((keysL (L.map (·.1))).take j).length (((keysL (L.map (·.1))).take j).map Value.string)∧Below w.heap.size w wr
theorem implAllStates_ok (a:Option Addr) (len cap:Nat) (rows:List (List I3)) (w:World) (hC:Codes w a len cap rows) (hV:VmShape w) (hc:codeF rows=0) :
  Calls Tryd.prog 10 #[.agg #[.slice a len cap]] w fun e w'=>KeysGot e w' w.heap.size (keysL (fullS rows)) 0∧Below w.heap.size w w':=by
 obtain ⟨hp,hf⟩:=code_parts hc
 obtain ⟨i1,hi8,hy0,hy1,hy2⟩:=info_parts info_str6
 obtain ⟨cs,hR⟩:=rows_of_codes6 hC hp
 have kS:=fun (W:World) (b:Below w.heap.size w W) (t:S4) (h:Vmem W t zeroV)=>spaceOf_yes a len cap rows t W (hC.below b) h (hV.below b) hp hf
 clear hc
 have fz:=(shape_fits9 zero_shape).1
 have kN:=implNewVm_is
 have bw:Below w.heap.size w (w.alloc (.cells #[.slice a len cap] 31)):=by go_grown
 have pP:Blk (w.alloc (.cells #[.slice a len cap] 31)) w.heap.size 31 [.slice a len cap]:=blkAt _ _ _ rfl
 go_enter Tryd.func10,Tryd.ntmps10
 go_wp2_with fail
 generalize w.alloc (.cells #[.slice a len cap] 31)=U at *
 go_cut [4,5] from 9 (fun s4 s5 W=>CutK w W cs rows (fullS rows) s4 s5)
 case first =>
  have hdr:Below U.heap.size U U.drew:=by go_grown
  refine wp_region_held_drew (S:=(fun w'=>w'.cell? ⟨w.heap.size,0,none⟩=some (.slice a len cap))) (by kernel_rfl) (by simpa using pP.cell 0) (fun hS0=>?_)
  refine tkm 0 10 (.agg #[.slice a len cap]) ?_
  have pP9:=pP.below hdr
  replace bw:=bel_trans bw hdr
  clear hdr
  generalize U.drew=V at *
  have bt:Below V.heap.size V V:=Below.refl _ _
  refine wpAnyH_ready (rs:=[1,6]) (by kernel_rfl) (by simp) ?_
  refine AllReadyH.cons (o:=⟨some 11,_,_,_,_,_⟩) rfl (fun K hK=>?_) (AllReadyH.cons (o:=⟨some 4,_,_,_,_,_⟩) rfl (fun K hK=>?_) AllReadyH.nil)
  ·go_simp
   refine (kN V).mono ?_
   rintro e V1 ⟨⟨⟨⟨t0a,t0n,t0c⟩,⟨t1a,t1n,t1c⟩,⟨t2a,t2n,t2c⟩,⟨t3a,t3n,t3c⟩⟩,rfl,hO⟩,hb1⟩
   have ut:S4.val ((t0a,t0n,t0c),(t1a,t1n,t1c),(t2a,t2n,t2c),(t3a,t3n,t3c))=.agg #[.slice t0a t0n t0c,.slice t1a t1n t1c,.slice t2a t2n t2c,.slice t3a t3n t3c]:=rfl
   rw [ut]
   have bt:=bel_trans bt hb1
   go_wp2_with fail
   refine hK.out _ _ (cells_kept bt _ _ hS0) (fun hS1=>?_)
   clear hK
   try simp only [Act.put,tka,tkb,tkc]
   refine wpAnyH_ready (rs:=[2,6]) (by kernel_rfl) (by simp) ?_
   refine AllReadyH.cons (o:=⟨some 12,_,_,_,_,_⟩) rfl (fun K hK=>?_) (AllReadyH.cons (o:=⟨some 4,_,_,_,_,_⟩) rfl (fun K hK=>?_) AllReadyH.nil)
   ·have kx:=kS V1 (bel_trans bw bt) ((t0a,t0n,t0c),(t1a,t1n,t1c),(t2a,t2n,t2c),(t3a,t3n,t3c)) (hO.mem fz)
    rw [ut] at kx
    go_simp
    refine kx.mono ?_
    rintro e V2 ⟨va9,nb,cs',L,rfl,sp,hLF,hR',hb2⟩
    obtain rfl:=(hR.below (bel_trans bw bt)).uniq hR'
    have hBv:w.heap.size≤V1.heap.size:=Nat.le_trans bw.size bt.size
    obtain ⟨va8,vn8,vc8,hva⟩:=own_slice6 sp.row
    have bt:=bel_trans bt hb2
    go_wp2_with fail
    refine hK.out _ _ (cells_kept bt _ _ hS0) (fun hS2=>?_)
    clear hK kx
    try simp only [Act.put,tka,tkb,tkc]
    refine tkm 3 9 (.tuple #[.agg #[va9,.map (some nb)],.int .i64 0]) ?_
    refine tkm 4 13 (.agg #[va9,.map (some nb)]) ?_
    refine tkm 5 14 (.int .i64 0) ?_
    refine tkr 6 4 (fun K hK=>?_)
    have hb3:Below V2.heap.size V2 (V2.alloc (.cells #[.slice none 0 0,.map none] 61)):=by go_grown
    have pX:Blk (V2.alloc (.cells #[.slice none 0 0,.map none] 61)) V2.heap.size 61 [.slice none 0 0,.map none]:=blkAt _ _ _ rfl
    have hXB:w.heap.size≤V2.heap.size:=Nat.le_trans bw.size bt.size
    replace sp:=sp.below hb3
    have bt:=bel_trans bt hb3
    go_simp
    refine hK.out _ _ (cells_kept bt _ _ hS0) (fun hS3=>?_)
    clear hK
    generalize (V2.alloc (.cells #[.slice none 0 0,.map none] 61))=V3 at *
    obtain ⟨X,hX⟩:∃ X,X=V2.heap.size:=⟨_,rfl⟩
    rw [← hX] at pX hXB ⊢
    clear hX
    try simp only [Act.put,tka,tkb,tkc]
    subst hva
    refine tkz 7 (fun K hK=>?_)
    refine step_store_blkD rfl 61 _ _ rfl X [.slice va8 vn8 vc8,.map (some nb)] rfl rfl pX (by kernel_rfl) rfl rfl ?_
    intro V9 pX9 g9
    have bz:=(bel_trans bw bt).grown g9 (bel_trans bw bt).size (fun q e=>by cases e;exact hXB)
    replace sp:=sp.grown g9 pX (by decide) (by decide)
    have hXP:X≠w.heap.size:=blk_ne pX (pP9.below bt) (by decide)
    have c9:=cells_kept bt _ _ hS0
    refine hK.out _ _ (cell_grownB g9 c9 (by simp;omega)) (fun hS4=>?_)
    clear hK
    try simp only [Act.put,tka,tkb,tkc]
    refine tkm 8 5 (.int .i64 0) ?_
    refine wpAnyH_done (by kernel_rfl) ?_ _
    go_wp2_with fail
    go_meet
    case rel=>exact CutK.mk9 (va:=.slice none 0 0) rfl rfl pX9.out sp hLF hXB hBv bz
   ·have hb3:Below V1.heap.size V1 (V1.alloc (.cells #[.slice none 0 0,.map none] 61)):=by go_grown
    have pX:Blk (V1.alloc (.cells #[.slice none 0 0,.map none] 61)) V1.heap.size 61 [.slice none 0 0,.map none]:=blkAt _ _ _ rfl
    have hXB:w.heap.size≤V1.heap.size:=Nat.le_trans bw.size bt.size
    replace hO:=hO.below hb3
    have bt:=bel_trans bt hb3
    go_simp
    refine hK.out _ _ (cells_kept bt _ _ hS0) (fun hS3=>?_)
    clear hK
    generalize (V1.alloc (.cells #[.slice none 0 0,.map none] 61))=V2 at *
    obtain ⟨X,hX⟩:∃ X,X=V1.heap.size:=⟨_,rfl⟩
    rw [← hX] at pX hXB ⊢
    clear hX
    try simp only [Act.put,tka,tkb,tkc]
    refine tkr 2 12 (fun K hK=>?_)
    have kx:=kS V2 (bel_trans bw bt) ((t0a,t0n,t0c),(t1a,t1n,t1c),(t2a,t2n,t2c),(t3a,t3n,t3c)) (hO.mem fz)
    rw [ut] at kx
    go_simp
    refine kx.mono ?_
    rintro e V3 ⟨va9,nb,cs',L,rfl,sp,hLF,hR',hb2⟩
    obtain rfl:=(hR.below (bel_trans bw bt)).uniq hR'
    have hBv:w.heap.size≤V2.heap.size:=Nat.le_trans bw.size bt.size
    obtain ⟨va8,vn8,vc8,hva⟩:=own_slice6 sp.row
    replace pX:=pX.below hb2
    have bt:=bel_trans bt hb2
    go_wp2_with fail
    refine hK.out _ _ (cells_kept bt _ _ hS0) (fun hS2=>?_)
    clear hK kx
    try simp only [Act.put,tka,tkb,tkc]
    refine tkm 3 9 (.tuple #[.agg #[va9,.map (some nb)],.int .i64 0]) ?_
    refine tkm 4 13 (.agg #[va9,.map (some nb)]) ?_
    refine tkm 5 14 (.int .i64 0) ?_
    subst hva
    refine tkz 7 (fun K hK=>?_)
    refine step_store_blkD rfl 61 _ _ rfl X [.slice va8 vn8 vc8,.map (some nb)] rfl rfl pX (by kernel_rfl) rfl rfl ?_
    intro V9 pX9 g9
    have bz:=(bel_trans bw bt).grown g9 (bel_trans bw bt).size (fun q e=>by cases e;exact hXB)
    replace sp:=sp.grown g9 pX (by decide) (by decide)
    have hXP:X≠w.heap.size:=blk_ne pX (pP9.below bt) (by decide)
    have c9:=cells_kept bt _ _ hS0
    refine hK.out _ _ (cell_grownB g9 c9 (by simp;omega)) (fun hS4=>?_)
    clear hK
    try simp only [Act.put,tka,tkb,tkc]
    refine tkm 8 5 (.int .i64 0) ?_
    refine wpAnyH_done (by kernel_rfl) ?_ _
    go_wp2_with fail
    go_meet
    case rel=>exact CutK.mk9 (va:=.slice none 0 0) rfl rfl pX9.out sp hLF hXB hBv bz
  ·have hb3:Below V.heap.size V (V.alloc (.cells #[.slice none 0 0,.map none] 61)):=by go_grown
   have pX:Blk (V.alloc (.cells #[.slice none 0 0,.map none] 61)) V.heap.size 61 [.slice none 0 0,.map none]:=blkAt _ _ _ rfl
   have hXB:w.heap.size≤V.heap.size:=Nat.le_trans bw.size bt.size
   have bt:=bel_trans bt hb3
   go_simp
   refine hK.out _ _ (cells_kept bt _ _ hS0) (fun hS3=>?_)
   clear hK
   generalize (V.alloc (.cells #[.slice none 0 0,.map none] 61))=V1 at *
   obtain ⟨X,hX⟩:∃ X,X=V.heap.size:=⟨_,rfl⟩
   rw [← hX] at pX hXB ⊢
   clear hX
   try simp only [Act.put,tka,tkb,tkc]
   refine tkr 1 11 (fun K hK=>?_)
   go_simp
   refine (kN V1).mono ?_
   rintro e V2 ⟨⟨⟨⟨t0a,t0n,t0c⟩,⟨t1a,t1n,t1c⟩,⟨t2a,t2n,t2c⟩,⟨t3a,t3n,t3c⟩⟩,rfl,hO⟩,hb1⟩
   have ut:S4.val ((t0a,t0n,t0c),(t1a,t1n,t1c),(t2a,t2n,t2c),(t3a,t3n,t3c))=.agg #[.slice t0a t0n t0c,.slice t1a t1n t1c,.slice t2a t2n t2c,.slice t3a t3n t3c]:=rfl
   rw [ut]
   have bt:=bel_trans bt hb1
   go_wp2_with fail
   refine hK.out _ _ (cells_kept bt _ _ hS0) (fun hS1=>?_)
   clear hK
   try simp only [Act.put,tka,tkb,tkc]
   replace pX:=pX.below hb1
   refine tkr 2 12 (fun K hK=>?_)
   have kx:=kS V2 (bel_trans bw bt) ((t0a,t0n,t0c),(t1a,t1n,t1c),(t2a,t2n,t2c),(t3a,t3n,t3c)) (hO.mem fz)
   rw [ut] at kx
   go_simp
   refine kx.mono ?_
   rintro e V3 ⟨va9,nb,cs',L,rfl,sp,hLF,hR',hb2⟩
   obtain rfl:=(hR.below (bel_trans bw bt)).uniq hR'
   have hBv:w.heap.size≤V2.heap.size:=Nat.le_trans bw.size bt.size
   obtain ⟨va8,vn8,vc8,hva⟩:=own_slice6 sp.row
   replace pX:=pX.below hb2
   have bt:=bel_trans bt hb2
   go_wp2_with fail
   refine hK.out _ _ (cells_kept bt _ _ hS0) (fun hS2=>?_)
   clear hK kx
   try simp only [Act.put,tka,tkb,tkc]
   refine tkm 3 9 (.tuple #[.agg #[va9,.map (some nb)],.int .i64 0]) ?_
   refine tkm 4 13 (.agg #[va9,.map (some nb)]) ?_
   refine tkm 5 14 (.int .i64 0) ?_
   subst hva
   refine tkz 7 (fun K hK=>?_)
   refine step_store_blkD rfl 61 _ _ rfl X [.slice va8 vn8 vc8,.map (some nb)] rfl rfl pX (by kernel_rfl) rfl rfl ?_
   intro V9 pX9 g9
   have bz:=(bel_trans bw bt).grown g9 (bel_trans bw bt).size (fun q e=>by cases e;exact hXB)
   replace sp:=sp.grown g9 pX (by decide) (by decide)
   have hXP:X≠w.heap.size:=blk_ne pX (pP9.below bt) (by decide)
   have c9:=cells_kept bt _ _ hS0
   refine hK.out _ _ (cell_grownB g9 c9 (by simp;omega)) (fun hS4=>?_)
   clear hK
   try simp only [Act.put,tka,tkb,tkc]
   refine tkm 8 5 (.int .i64 0) ?_
   refine wpAnyH_done (by kernel_rfl) ?_ _
   go_wp2_with fail
   go_meet
   case rel=>exact CutK.mk9 (va:=.slice none 0 0) rfl rfl pX9.out sp hLF hXB hBv bz
 obtain ⟨X,va,vc,nb,L,rfl,rfl,pX,sp,hLF,hXB,bz⟩:=hcut
 clear kS kN bw pP fz
 have cX0:wc.cell? ⟨X,0,none⟩=some (.slice va L.length vc):=by simpa using pX.cell 0
 have hl2:L.length≤2000:=by
  have e:(L.map (·.1)).length=L.length:=by simp
  rw [hLF] at e
  omega
 have st:OnK w wc X nb va vc cs rows L 0 (.slice none 0 0):=⟨Nat.zero_le _,pX,sp,World.ownsRow_nil _ _ _ _,bz⟩
 have HLF:Hid (L.map (·.1)=fullS rows):=hLF
 clear hLF pX sp bz
 go_wp2_with fail
 go_loopw [6,21] (fun s6 s21 wr=>∃ j:Nat,s21=.int .i64 j∧OnK w wr X nb va vc cs rows L j s6) (fun _ s21 _=>L.length - (intOf s21).toNat)
 case atStart=>exact ⟨0,rfl,st⟩
 case round =>
  clear st cX0
  obtain ⟨j,rfl,hj,pX,sp,q,bw⟩:=hrel
  by_cases hlt:j<L.length
  ·obtain ⟨r,mv,hr⟩:∃ r mv,L[j]?=some (r,mv):=⟨L[j].1,L[j].2,by rw [List.getElem?_eq_getElem hlt]⟩
   obtain ⟨g,c,e9,hg,hrg⟩:=sp.at9 hr
   have hmv:=sp.mvone hr
   cases e9
   have hlt3:(j:Int)<(L.length:Int):=by omega
   have hj0:(0:Int)≤(j:Int):=by omega
   have hKe:(keysL (L.map (·.1))).take (j+1)=(keysL (L.map (·.1))).take j++[keyT r.1]:=by
    rw [List.take_add_one]
    unfold keysL
    rw [List.getElem?_map,List.getElem?_map,hr]
    rfl
   have hkl:((keysL (L.map (·.1))).take j).length≤2000:=by have:=List.length_take_le j (keysL (L.map (·.1)));omega
   have HKe:Hid ((keysL (L.map (·.1))).take (j+1)=(keysL (L.map (·.1))).take j++[keyT r.1]):=hKe
   clear hKe hr
   obtain ⟨ks,hks⟩:∃ ks,ks=(keysL (L.map (·.1))).take j:=⟨_,rfl⟩
   rw [← hks] at q hkl HKe
   clear hks
   have pN:=Blk.new wr 77 [.string ⟨#[]⟩,.slice none 0 0,.int .i64 0,.int .i64 0,.int .i64 0,.slice none 0 0,.int .i64 0,.int .i64 0,.int .i64 0,.slice none 0 0,.int .i64 0,.int .i64 0,.int .i64 0,.int .i64 0,.int .i64 0,.int .i64 0,.int .i64 0,.int .i64 0,.int .i64 0,.int .i64 0,.int .i64 0,.slice none 0 0]
   have hbN:Below wr.heap.size wr (wr.alloc (.cells #[.string ⟨#[]⟩,.slice none 0 0,.int .i64 0,.int .i64 0,.int .i64 0,.slice none 0 0,.int .i64 0,.int .i64 0,.int .i64 0,.slice none 0 0,.int .i64 0,.int .i64 0,.int .i64 0,.int .i64 0,.int .i64 0,.int .i64 0,.int .i64 0,.int .i64 0,.int .i64 0,.int .i64 0,.int .i64 0,.slice none 0 0] 77)):=by go_grown
   go_wp2_with (first | refine wpList_load_mid rfl 77 _ rfl g (j*22) rfl (rcC cs r mv) _ hrg Tryd.underlying77 rfl (by kernel_rfl) ?_ | refine wpList_store_blk rfl 77 _ _ rfl wr.heap.size (rcC cs r mv) rfl rfl pN (by kernel_rfl) rfl (rcC_one cs r hmv) ?_)
   intro w3 p3 g3
   have pE:=p3.out
   have b3:Below wr.heap.size wr w3:=hbN.grown g3 hbN.size (fun k e=>by cases e;exact Nat.le_refl _)
   have cE:w3.cell? ⟨wr.heap.size,0,none⟩=some (.string (keyT r.1)):=by rw [pE.cell];exact keyT_at
   replace pX:=pX.below b3
   replace sp:=sp.below b3
   replace q:=owns_below q b3
   replace bw:=bel_trans bw b3
   clear p3 g3 hbN pN b3 hrg pE
   generalize wr.heap.size=E at *
   generalize keyT r.1=key at *
   go_wp2_with (at_builtin;refine wpList_append_own_at _ rfl _ _ 26 rfl w.heap.size 9 i1 (.string ⟨#[]⟩) 1 16 Tryd.underlying26 hi8 hy0 hy1 hy2 rfl (by decide) _ _ _ rfl (q.alloc _) ⟨w3.heap.size,0,none⟩ 1 1 [.string key] rfl rfl (cell_one_new _ _ _) (one_str6 _) ?c3 ?c4 ?c5 ?_)
   case c3=>unfold maxLen;omega
   case c4=>omega
   case c5=>have:=bw.size;simp;omega
   intro v6 w4 q6 gr _ at6
   have ha:Below w3.heap.size w3 (w3.alloc (.cells #[.string key] 9)):=by go_grown
   have sp4:=(sp.below ha).strgrown (q.alloc _) gr
   have pX4:=(pX.below ha).kept gr (own_ne_blk9 (q.alloc _) (pX.below ha) (by decide))
   have bw4:=(bel_trans bw ha).grown gr (bel_trans bw ha).size (fun k e=>(own_lt3 (q.alloc (.cells #[.string key] 9)) e).1)
   have q7:w4.ownsRow w.heap.size 9 1 v6 ((keysL (L.map (·.1))).take (j+1)).length (((keysL (L.map (·.1))).take (j+1)).map Value.string):=by rw [HKe.out];exact row_str6 q6
   have st9:OnK w w4 X nb (some ⟨g,0,none⟩) vc cs rows L (j+1) v6:=⟨by omega,pX4,sp4,q7,bw4⟩
   clear sp4 pX4 bw4 q7 q6 gr at6 ha sp pX bw q cE HKe
   go_wp2
   go_roundw
   case rel=>exact ⟨j+1,by go_num,st9⟩
   case measure=>simp [intOf];omega
  ·have hlt3:¬ (j:Int)<(L.length:Int):=by omega
   obtain rfl:j=L.length:=by omega
   obtain ⟨ka,kn,kc,rfl⟩:=own_slice6 q
   have HG:Hid (KeysGot (.returned (.tuple #[.slice ka kn kc,.int .i64 0])) wr w.heap.size (keysL (fullS rows)) 0):=by
    rw [← HLF.out]
    rw [List.take_of_length_le (by rw [keysL_len];simp)] at q
    exact ⟨_,rfl,q⟩
   clear q sp pX
   go_wp2
   refine bodyPost_ret (by simp [results,Tryd.results10,go_sem];try rfl) rfl ?_
   exact ⟨HG.out,bw⟩
end Go.Proofs.YtfpopbbmnbehiaaDoor
