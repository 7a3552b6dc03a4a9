/-
  Joined: AstI, AstS, VmLaid, IsrI, KeyA, Schd, SchD, WitB, FrP, FulC.
-/
import Derived.Deep.CutRange
import Derived.Test.YtdojjmkpelgcaaaGreatDoorRows
import Derived.ProofKit
import Derived.OpenShut
import Derived.LaidMore
import Derived.MakeChecks
import Derived.Stop.LaidErr
import Derived.Test.YtdojjmkpelgcaaaGreatDoorA06
import Derived.Test.YtdojjmkpelgcaaaGreatDoorA26
import Derived.Test.YtdojjmkpelgcaaaGreatDoorA42

namespace Go.Proofs.YtdojjmkpelgcaaaGreatDoor
set_option maxRecDepth 100000
set_option maxHeartbeats 16000000
open Go.RowKit
set_option linter.unusedVariables false
set_option linter.unusedSimpArgs false
def CutF (w W:World) (c:Int) (s4 s5:Value):Prop:=∃ X,s4=.pointer (some ⟨X,0,none⟩)∧s5=.int .i64 c∧Below w.heap.size w W
def CutK (w W:World) (cs:Sl × Sl × Sl) (rows:List (List I3)) (F:List (Rec6 V4)) (s4 s5:Value):Prop:=
 ∃ X va vc nb L,s4=.pointer (some ⟨X,0,none⟩)∧s5=.int .i64 0∧Blk W X 111 [.slice va L.length vc,.map (some nb)]∧SpcD W w.heap.size nb (.slice va L.length vc) cs (mvsOf rows F) L L.length∧L.map (·.1)=F∧w.heap.size≤X∧Below w.heap.size w W
theorem SpcD.lower {w:World} {B B' nb d:Nat} {vs:Value} {cs:Sl × Sl × Sl} {M:V4→List I4} {L:List (Rec6 V4 × Value)} (h:SpcD w B nb vs cs M L d) (hB:B'≤B):SpcD w B' nb vs cs M L d:=
 ⟨own_lower h.row hB,h.map,fun i r mv h1 h2=>own_lower (h.mvs i r mv h1 h2) hB,h.nil,Nat.le_trans hB h.low⟩
theorem CutK.mk9 {w W:World} {cs:Sl × Sl × Sl} {rows:List (List I3)} {F:List (Rec6 V4)} {s4 s5 va vs:Value} {X nb B:Nat} {L:List (Rec6 V4 × Value)} (h4:s4=.pointer (some ⟨X,0,none⟩)) (h5:s5=.int .i64 0) (hX:Blk W X 111 [vs,.map (some nb)]) (sp:SpcD W B nb vs cs (mvsOf rows F) L L.length) (hL:L.map (·.1)=F) (hBX:w.heap.size≤X) (hB:w.heap.size≤B) (b:Below w.heap.size w W):CutK w W cs rows F s4 s5:=by
 obtain ⟨va,vn,vc,rfl⟩:=own_slice6 sp.row
 obtain rfl:vn=L.length:=by
  rcases sp.row.2 with ⟨h1,h2⟩ | ⟨gq,cq,cur,h1,_⟩
  ·cases h1;exact h2.symm
  ·cases h1;rfl
 exact ⟨X,va,vc,nb,L,h4,h5,hX,sp.lower hB,hL,hBX,b⟩

def KeysGot (e:Ending) (w:World) (B:Nat) (ts:List ByteArray) (c:Int):Prop:=∃ v,e=.returned (.tuple #[v,.int .i64 c])∧w.ownsRow B 9 1 v ts.length (ts.map Value.string)
def codeF (rows:List (List I3)):Int:=if progOk rows then (if (fullS rows).length≤2000 then 0 else 15) else 1
theorem spaceOf_not (a:Option Addr) (len cap:Nat) (rows:List (List I3)) (s:S4) (w:World) (hC:Codes w a len cap rows) (h:Vmem w s zeroV) (hV:VmShape w) (hc:codeF rows≠0) :
  Calls Tryz.prog 64 #[.agg #[.slice a len cap],s.val] w fun e w'=>e=.returned (.tuple #[.agg #[.slice none 0 0,.map none],.int .i64 (codeF rows)])∧Below w.heap.size w w':=by
 unfold codeF at hc ⊢
 cases hp:progOk rows
 ·exact spaceOf_bad a len cap rows s zeroV w hC h hV (by rw [hp];rfl)
 ·rw [hp] at hc
  by_cases hf:(fullS rows).length≤2000
  ·rw [if_pos rfl,if_pos hf] at hc
   exact absurd rfl hc
  ·rw [if_pos rfl,if_neg hf]
   refine (spaceOf_is a len cap rows s w hC h hV hp).mono fun e w' h=>?_
   rw [if_neg hf] at h
   exact h
theorem spaceOf_yes (a:Option Addr) (len cap:Nat) (rows:List (List I3)) (s:S4) (w:World) (hC:Codes w a len cap rows) (h:Vmem w s zeroV) (hV:VmShape w) (hp:progOk rows=true) (hf:(fullS rows).length≤2000) :
  Calls Tryz.prog 64 #[.agg #[.slice a len cap],s.val] w fun e w'=>SpcGot e w w' a rows (fullS rows):=by
 refine (spaceOf_is a len cap rows s w hC h hV hp).mono fun e w' h=>?_
 rw [if_pos hf] at h
 exact h
theorem code_parts {rows:List (List I3)} (h:codeF rows=0):progOk rows=true∧(fullS rows).length≤2000:=by
 unfold codeF at h
 cases hp:progOk rows
 ·rw [hp] at h;simp at h
 ·rw [hp] at h
  by_cases hf:(fullS rows).length≤2000
  ·exact ⟨rfl,hf⟩
  ·rw [if_pos rfl,if_neg hf] at h
   simp at h
theorem rcC_one (cs:Sl × Sl × Sl) (r:Rec6 V4) {mv:Value} (h:mv.oneCell'=true):(rcC cs r mv).all (·.oneCell')=true:=by
 unfold rcC
 rw [List.all_cons,List.all_append,mach_one]
 simp only [List.all_cons,List.all_nil,h,Bool.and_true,Bool.and_self]
 rfl
theorem SpcD.mvone {w:World} {B nb:Nat} {vs:Value} {cs:Sl × Sl × Sl} {M:V4→List I4} {L:List (Rec6 V4 × Value)} (h:SpcD w B nb vs cs M L L.length) {j:Nat} {r:Rec6 V4} {mv:Value} (hr:L[j]?=some (r,mv)):mv.oneCell'=true:=by
 obtain ⟨a,k,c,rfl⟩:=own_slice6 (h.mvs j r mv (List.getElem?_eq_some_iff.1 hr).1 hr)
 rfl
theorem SpcD.strgrown {W W':World} {B B' nb d n e s:Nat} {vs v:Value} {cs:Sl × Sl × Sl} {M:V4→List I4} {L:List (Rec6 V4 × Value)} {xs:List Value} (h:SpcD W B nb vs cs M L d) (ho:W.ownsRow B' e s v n xs) (gr:W.grownBy W' v.ownBlock) (h1:116≠e:=by decide) (h2:198≠e:=by decide):SpcD W' B nb vs cs M L d:=by
 obtain ⟨D,hm,hn⟩:=h.map
 exact ⟨h.row.kept gr (Ap3.types h.row ho h1).or,⟨D,hm.kept gr (fun e=>map_own hm ho e.symm),hn⟩,fun i r mv' hi hr=>(h.mvs i r mv' hi hr).kept gr (Ap3.types (h.mvs i r mv' hi hr) ho h2).or,h.nil,h.low⟩
theorem keyT_at {cs:Sl × Sl × Sl} {r:Rec6 V4} {mv:Value}:(rcC cs r mv)[0]?=some (.string (keyT r.1)):=rfl

theorem implAllStates_not (a:Option Addr) (len cap:Nat) (rows:List (List I3)) (w:World) (hC:Codes w a len cap rows) (hV:VmShape w) (hc:codeF rows≠0) :
  Calls Tryz.prog 22 #[.agg #[.slice a len cap]] w fun e w'=>KeysGot e w' w.heap.size [] (codeF rows)∧Below w.heap.size w w':=by
 have kS:=fun (W:World) (b:Below w.heap.size w W) (t:S4) (h:Vmem W t zeroV)=>spaceOf_not a len cap rows t W (hC.below b) h (hV.below b) hc
 generalize codeF rows=c at *
 have hcn:(c != 0)=true:=by simpa using hc
 have fz:=(shape_fits9 zero_shape).1
 have kN:=implNewVm_is
 have bw:Below w.heap.size w (w.alloc (.cells #[.slice a len cap] 25)):=by go_grown
 have pP:Blk (w.alloc (.cells #[.slice a len cap] 25)) w.heap.size 25 [.slice a len cap]:=blkAt _ _ _ rfl
 go_enter Tryz.func22,Tryz.ntmps22
 go_wp2_with fail
 generalize w.alloc (.cells #[.slice a len cap] 25)=U at *
 go_cut [4,5] from 9 (fun s4 s5 W=>CutF w W c s4 s5)
 case first =>
  have hdr:Below U.heap.size U U.drew:=by go_grown
  refine wp_region_held_drew (S:=(fun w'=>w'.cell? ⟨w.heap.size,0,none⟩=some (.slice a len cap))) (by kernel_rfl) (by simpa using pP.cell 0) (fun hS0=>?_)
  refine tkm 0 10 (.agg #[.slice a len cap]) ?_
  have pP9:=pP.below hdr
  replace bw:=bel_trans bw hdr
  clear hdr
  generalize U.drew=V at *
  have bt:Below V.heap.size V V:=Below.refl _ _
  refine wpAnyH_ready (rs:=[1,6]) (by kernel_rfl) (by simp) ?_
  refine AllReadyH.cons (o:=⟨some 11,_,_,_,_,_⟩) rfl (fun K hK=>?_) (AllReadyH.cons (o:=⟨some 4,_,_,_,_,_⟩) rfl (fun K hK=>?_) AllReadyH.nil)
  ·go_simp
   refine (kN V).mono ?_
   rintro e V1 ⟨⟨⟨⟨t0a,t0n,t0c⟩,⟨t1a,t1n,t1c⟩,⟨t2a,t2n,t2c⟩,⟨t3a,t3n,t3c⟩⟩,rfl,hO⟩,hb1⟩
   have ut:S4.val ((t0a,t0n,t0c),(t1a,t1n,t1c),(t2a,t2n,t2c),(t3a,t3n,t3c))=.agg #[.slice t0a t0n t0c,.slice t1a t1n t1c,.slice t2a t2n t2c,.slice t3a t3n t3c]:=rfl
   rw [ut]
   have bt:=bel_trans bt hb1
   go_wp2_with fail
   refine hK.out _ _ (cells_kept bt _ _ hS0) (fun hS1=>?_)
   clear hK
   try simp only [Act.put,tka,tkb,tkc]
   refine wpAnyH_ready (rs:=[2,6]) (by kernel_rfl) (by simp) ?_
   refine AllReadyH.cons (o:=⟨some 12,_,_,_,_,_⟩) rfl (fun K hK=>?_) (AllReadyH.cons (o:=⟨some 4,_,_,_,_,_⟩) rfl (fun K hK=>?_) AllReadyH.nil)
   ·have kx:=kS V1 (bel_trans bw bt) ((t0a,t0n,t0c),(t1a,t1n,t1c),(t2a,t2n,t2c),(t3a,t3n,t3c)) (hO.mem fz)
    rw [ut] at kx
    go_simp
    refine kx.mono ?_
    rintro e V2 ⟨rfl,hb2⟩
    have bt:=bel_trans bt hb2
    go_wp2_with fail
    refine hK.out _ _ (cells_kept bt _ _ hS0) (fun hS2=>?_)
    clear hK kx
    try simp only [Act.put,tka,tkb,tkc]
    refine tkm 3 9 (.tuple #[.agg #[.slice none 0 0,.map none],.int .i64 c]) ?_
    refine tkm 4 13 (.agg #[.slice none 0 0,.map none]) ?_
    refine tkm 5 14 (.int .i64 c) ?_
    refine tkr 6 4 (fun K hK=>?_)
    have hb3:Below V2.heap.size V2 (V2.alloc (.cells #[.slice none 0 0,.map none] 111)):=by go_grown
    have pX:Blk (V2.alloc (.cells #[.slice none 0 0,.map none] 111)) V2.heap.size 111 [.slice none 0 0,.map none]:=blkAt _ _ _ rfl
    have hXB:w.heap.size≤V2.heap.size:=Nat.le_trans bw.size bt.size
    have bt:=bel_trans bt hb3
    go_simp
    refine hK.out _ _ (cells_kept bt _ _ hS0) (fun hS3=>?_)
    clear hK
    generalize (V2.alloc (.cells #[.slice none 0 0,.map none] 111))=V3 at *
    obtain ⟨X,hX⟩:∃ X,X=V2.heap.size:=⟨_,rfl⟩
    rw [← hX] at pX hXB ⊢
    clear hX
    try simp only [Act.put,tka,tkb,tkc]
    refine tkz 7 (fun K hK=>?_)
    refine step_store_blkD rfl 111 _ _ rfl X [.slice none 0 0,.map none] rfl rfl pX (by kernel_rfl) rfl rfl ?_
    intro V9 pX9 g9
    have bz:=(bel_trans bw bt).grown g9 (bel_trans bw bt).size (fun q e=>by cases e;exact hXB)
    have hXP:X≠w.heap.size:=blk_ne pX (pP9.below bt) (by decide)
    have c9:=cells_kept bt _ _ hS0
    refine hK.out _ _ (cell_grownB g9 c9 (by simp;omega)) (fun hS4=>?_)
    clear hK
    try simp only [Act.put,tka,tkb,tkc]
    refine tkm 8 5 (.int .i64 c) ?_
    refine wpAnyH_done (by kernel_rfl) ?_ _
    go_wp2_with fail
    go_meet
    case rel=>exact ⟨X,rfl,rfl,bz⟩
   ·have hb3:Below V1.heap.size V1 (V1.alloc (.cells #[.slice none 0 0,.map none] 111)):=by go_grown
    have pX:Blk (V1.alloc (.cells #[.slice none 0 0,.map none] 111)) V1.heap.size 111 [.slice none 0 0,.map none]:=blkAt _ _ _ rfl
    have hXB:w.heap.size≤V1.heap.size:=Nat.le_trans bw.size bt.size
    replace hO:=hO.below hb3
    have bt:=bel_trans bt hb3
    go_simp
    refine hK.out _ _ (cells_kept bt _ _ hS0) (fun hS3=>?_)
    clear hK
    generalize (V1.alloc (.cells #[.slice none 0 0,.map none] 111))=V2 at *
    obtain ⟨X,hX⟩:∃ X,X=V1.heap.size:=⟨_,rfl⟩
    rw [← hX] at pX hXB ⊢
    clear hX
    try simp only [Act.put,tka,tkb,tkc]
    refine tkr 2 12 (fun K hK=>?_)
    have kx:=kS V2 (bel_trans bw bt) ((t0a,t0n,t0c),(t1a,t1n,t1c),(t2a,t2n,t2c),(t3a,t3n,t3c)) (hO.mem fz)
    rw [ut] at kx
    go_simp
    refine kx.mono ?_
    rintro e V3 ⟨rfl,hb2⟩
    replace pX:=pX.below hb2
    have bt:=bel_trans bt hb2
    go_wp2_with fail
    refine hK.out _ _ (cells_kept bt _ _ hS0) (fun hS2=>?_)
    clear hK kx
    try simp only [Act.put,tka,tkb,tkc]
    refine tkm 3 9 (.tuple #[.agg #[.slice none 0 0,.map none],.int .i64 c]) ?_
    refine tkm 4 13 (.agg #[.slice none 0 0,.map none]) ?_
    refine tkm 5 14 (.int .i64 c) ?_
    refine tkz 7 (fun K hK=>?_)
    refine step_store_blkD rfl 111 _ _ rfl X [.slice none 0 0,.map none] rfl rfl pX (by kernel_rfl) rfl rfl ?_
    intro V9 pX9 g9
    have bz:=(bel_trans bw bt).grown g9 (bel_trans bw bt).size (fun q e=>by cases e;exact hXB)
    have hXP:X≠w.heap.size:=blk_ne pX (pP9.below bt) (by decide)
    have c9:=cells_kept bt _ _ hS0
    refine hK.out _ _ (cell_grownB g9 c9 (by simp;omega)) (fun hS4=>?_)
    clear hK
    try simp only [Act.put,tka,tkb,tkc]
    refine tkm 8 5 (.int .i64 c) ?_
    refine wpAnyH_done (by kernel_rfl) ?_ _
    go_wp2_with fail
    go_meet
    case rel=>exact ⟨X,rfl,rfl,bz⟩
  ·have hb3:Below V.heap.size V (V.alloc (.cells #[.slice none 0 0,.map none] 111)):=by go_grown
   have pX:Blk (V.alloc (.cells #[.slice none 0 0,.map none] 111)) V.heap.size 111 [.slice none 0 0,.map none]:=blkAt _ _ _ rfl
   have hXB:w.heap.size≤V.heap.size:=Nat.le_trans bw.size bt.size
   have bt:=bel_trans bt hb3
   go_simp
   refine hK.out _ _ (cells_kept bt _ _ hS0) (fun hS3=>?_)
   clear hK
   generalize (V.alloc (.cells #[.slice none 0 0,.map none] 111))=V1 at *
   obtain ⟨X,hX⟩:∃ X,X=V.heap.size:=⟨_,rfl⟩
   rw [← hX] at pX hXB ⊢
   clear hX
   try simp only [Act.put,tka,tkb,tkc]
   refine tkr 1 11 (fun K hK=>?_)
   go_simp
   refine (kN V1).mono ?_
   rintro e V2 ⟨⟨⟨⟨t0a,t0n,t0c⟩,⟨t1a,t1n,t1c⟩,⟨t2a,t2n,t2c⟩,⟨t3a,t3n,t3c⟩⟩,rfl,hO⟩,hb1⟩
   have ut:S4.val ((t0a,t0n,t0c),(t1a,t1n,t1c),(t2a,t2n,t2c),(t3a,t3n,t3c))=.agg #[.slice t0a t0n t0c,.slice t1a t1n t1c,.slice t2a t2n t2c,.slice t3a t3n t3c]:=rfl
   rw [ut]
   have bt:=bel_trans bt hb1
   go_wp2_with fail
   refine hK.out _ _ (cells_kept bt _ _ hS0) (fun hS1=>?_)
   clear hK
   try simp only [Act.put,tka,tkb,tkc]
   replace pX:=pX.below hb1
   refine tkr 2 12 (fun K hK=>?_)
   have kx:=kS V2 (bel_trans bw bt) ((t0a,t0n,t0c),(t1a,t1n,t1c),(t2a,t2n,t2c),(t3a,t3n,t3c)) (hO.mem fz)
   rw [ut] at kx
   go_simp
   refine kx.mono ?_
   rintro e V3 ⟨rfl,hb2⟩
   replace pX:=pX.below hb2
   have bt:=bel_trans bt hb2
   go_wp2_with fail
   refine hK.out _ _ (cells_kept bt _ _ hS0) (fun hS2=>?_)
   clear hK kx
   try simp only [Act.put,tka,tkb,tkc]
   refine tkm 3 9 (.tuple #[.agg #[.slice none 0 0,.map none],.int .i64 c]) ?_
   refine tkm 4 13 (.agg #[.slice none 0 0,.map none]) ?_
   refine tkm 5 14 (.int .i64 c) ?_
   refine tkz 7 (fun K hK=>?_)
   refine step_store_blkD rfl 111 _ _ rfl X [.slice none 0 0,.map none] rfl rfl pX (by kernel_rfl) rfl rfl ?_
   intro V9 pX9 g9
   have bz:=(bel_trans bw bt).grown g9 (bel_trans bw bt).size (fun q e=>by cases e;exact hXB)
   have hXP:X≠w.heap.size:=blk_ne pX (pP9.below bt) (by decide)
   have c9:=cells_kept bt _ _ hS0
   refine hK.out _ _ (cell_grownB g9 c9 (by simp;omega)) (fun hS4=>?_)
   clear hK
   try simp only [Act.put,tka,tkb,tkc]
   refine tkm 8 5 (.int .i64 c) ?_
   refine wpAnyH_done (by kernel_rfl) ?_ _
   go_wp2_with fail
   go_meet
   case rel=>exact ⟨X,rfl,rfl,bz⟩
 obtain ⟨X,rfl,rfl,bz⟩:=hcut
 clear kS kN bw pP fz
 have HK:Hid (∀ W,KeysGot (.returned (.tuple #[.slice none 0 0,.int .i64 c])) W w.heap.size [] c):=fun W=>⟨_,rfl,World.ownsRow_nil _ _ _ _⟩
 go_wp2
 refine bodyPost_ret (by simp [results,Tryz.results22,go_sem];try rfl) rfl ?_
 exact ⟨HK.out _,bz⟩

def OnK (w wr:World) (X nb:Nat) (va:Option Addr) (vc:Nat) (cs:Sl × Sl × Sl) (rows:List (List I3)) (L:List (Rec6 V4 × Value)) (j:Nat) (v:Value):Prop:=
 j≤L.length∧Blk wr X 111 [.slice va L.length vc,.map (some nb)]∧SpcD wr w.heap.size nb (.slice va L.length vc) cs (mvsOf rows (fullS rows)) L L.length∧wr.ownsRow w.heap.size 9 1 v ((keysL (L.map (·.1))).take j).length (((keysL (L.map (·.1))).take j).map Value.string)∧Below w.heap.size w wr
theorem implAllStates_ok (a:Option Addr) (len cap:Nat) (rows:List (List I3)) (w:World) (hC:Codes w a len cap rows) (hV:VmShape w) (hc:codeF rows=0) :
  Calls Tryz.prog 22 #[.agg #[.slice a len cap]] w fun e w'=>KeysGot e w' w.heap.size (keysL (fullS rows)) 0∧Below w.heap.size w w':=by
 obtain ⟨hp,hf⟩:=code_parts hc
 obtain ⟨i1,hi8,hy0,hy1,hy2⟩:=info_parts info_str6
 obtain ⟨cs,hR⟩:=rows_of_codes6 hC hp
 have kS:=fun (W:World) (b:Below w.heap.size w W) (t:S4) (h:Vmem W t zeroV)=>spaceOf_yes a len cap rows t W (hC.below b) h (hV.below b) hp hf
 clear hc
 have fz:=(shape_fits9 zero_shape).1
 have kN:=implNewVm_is
 have bw:Below w.heap.size w (w.alloc (.cells #[.slice a len cap] 25)):=by go_grown
 have pP:Blk (w.alloc (.cells #[.slice a len cap] 25)) w.heap.size 25 [.slice a len cap]:=blkAt _ _ _ rfl
 go_enter Tryz.func22,Tryz.ntmps22
 go_wp2_with fail
 generalize w.alloc (.cells #[.slice a len cap] 25)=U at *
 go_cut [4,5] from 9 (fun s4 s5 W=>CutK w W cs rows (fullS rows) s4 s5)
 case first =>
  have hdr:Below U.heap.size U U.drew:=by go_grown
  refine wp_region_held_drew (S:=(fun w'=>w'.cell? ⟨w.heap.size,0,none⟩=some (.slice a len cap))) (by kernel_rfl) (by simpa using pP.cell 0) (fun hS0=>?_)
  refine tkm 0 10 (.agg #[.slice a len cap]) ?_
  have pP9:=pP.below hdr
  replace bw:=bel_trans bw hdr
  clear hdr
  generalize U.drew=V at *
  have bt:Below V.heap.size V V:=Below.refl _ _
  refine wpAnyH_ready (rs:=[1,6]) (by kernel_rfl) (by simp) ?_
  refine AllReadyH.cons (o:=⟨some 11,_,_,_,_,_⟩) rfl (fun K hK=>?_) (AllReadyH.cons (o:=⟨some 4,_,_,_,_,_⟩) rfl (fun K hK=>?_) AllReadyH.nil)
  ·go_simp
   refine (kN V).mono ?_
   rintro e V1 ⟨⟨⟨⟨t0a,t0n,t0c⟩,⟨t1a,t1n,t1c⟩,⟨t2a,t2n,t2c⟩,⟨t3a,t3n,t3c⟩⟩,rfl,hO⟩,hb1⟩
   have ut:S4.val ((t0a,t0n,t0c),(t1a,t1n,t1c),(t2a,t2n,t2c),(t3a,t3n,t3c))=.agg #[.slice t0a t0n t0c,.slice t1a t1n t1c,.slice t2a t2n t2c,.slice t3a t3n t3c]:=rfl
   rw [ut]
   have bt:=bel_trans bt hb1
   go_wp2_with fail
   refine hK.out _ _ (cells_kept bt _ _ hS0) (fun hS1=>?_)
   clear hK
   try simp only [Act.put,tka,tkb,tkc]
   refine wpAnyH_ready (rs:=[2,6]) (by kernel_rfl) (by simp) ?_
   refine AllReadyH.cons (o:=⟨some 12,_,_,_,_,_⟩) rfl (fun K hK=>?_) (AllReadyH.cons (o:=⟨some 4,_,_,_,_,_⟩) rfl (fun K hK=>?_) AllReadyH.nil)
   ·have kx:=kS V1 (bel_trans bw bt) ((t0a,t0n,t0c),(t1a,t1n,t1c),(t2a,t2n,t2c),(t3a,t3n,t3c)) (hO.mem fz)
    rw [ut] at kx
    go_simp
    refine kx.mono ?_
    rintro e V2 ⟨va9,nb,cs',L,rfl,sp,hLF,hR',hb2⟩
    obtain rfl:=(hR.below (bel_trans bw bt)).uniq hR'
    have hBv:w.heap.size≤V1.heap.size:=Nat.le_trans bw.size bt.size
    obtain ⟨va8,vn8,vc8,hva⟩:=own_slice6 sp.row
    have bt:=bel_trans bt hb2
    go_wp2_with fail
    refine hK.out _ _ (cells_kept bt _ _ hS0) (fun hS2=>?_)
    clear hK kx
    try simp only [Act.put,tka,tkb,tkc]
    refine tkm 3 9 (.tuple #[.agg #[va9,.map (some nb)],.int .i64 0]) ?_
    refine tkm 4 13 (.agg #[va9,.map (some nb)]) ?_
    refine tkm 5 14 (.int .i64 0) ?_
    refine tkr 6 4 (fun K hK=>?_)
    have hb3:Below V2.heap.size V2 (V2.alloc (.cells #[.slice none 0 0,.map none] 111)):=by go_grown
    have pX:Blk (V2.alloc (.cells #[.slice none 0 0,.map none] 111)) V2.heap.size 111 [.slice none 0 0,.map none]:=blkAt _ _ _ rfl
    have hXB:w.heap.size≤V2.heap.size:=Nat.le_trans bw.size bt.size
    replace sp:=sp.below hb3
    have bt:=bel_trans bt hb3
    go_simp
    refine hK.out _ _ (cells_kept bt _ _ hS0) (fun hS3=>?_)
    clear hK
    generalize (V2.alloc (.cells #[.slice none 0 0,.map none] 111))=V3 at *
    obtain ⟨X,hX⟩:∃ X,X=V2.heap.size:=⟨_,rfl⟩
    rw [← hX] at pX hXB ⊢
    clear hX
    try simp only [Act.put,tka,tkb,tkc]
    subst hva
    refine tkz 7 (fun K hK=>?_)
    refine step_store_blkD rfl 111 _ _ rfl X [.slice va8 vn8 vc8,.map (some nb)] rfl rfl pX (by kernel_rfl) rfl rfl ?_
    intro V9 pX9 g9
    have bz:=(bel_trans bw bt).grown g9 (bel_trans bw bt).size (fun q e=>by cases e;exact hXB)
    replace sp:=sp.grown g9 pX (by decide) (by decide)
    have hXP:X≠w.heap.size:=blk_ne pX (pP9.below bt) (by decide)
    have c9:=cells_kept bt _ _ hS0
    refine hK.out _ _ (cell_grownB g9 c9 (by simp;omega)) (fun hS4=>?_)
    clear hK
    try simp only [Act.put,tka,tkb,tkc]
    refine tkm 8 5 (.int .i64 0) ?_
    refine wpAnyH_done (by kernel_rfl) ?_ _
    go_wp2_with fail
    go_meet
    case rel=>exact CutK.mk9 (va:=.slice none 0 0) rfl rfl pX9.out sp hLF hXB hBv bz
   ·have hb3:Below V1.heap.size V1 (V1.alloc (.cells #[.slice none 0 0,.map none] 111)):=by go_grown
    have pX:Blk (V1.alloc (.cells #[.slice none 0 0,.map none] 111)) V1.heap.size 111 [.slice none 0 0,.map none]:=blkAt _ _ _ rfl
    have hXB:w.heap.size≤V1.heap.size:=Nat.le_trans bw.size bt.size
    replace hO:=hO.below hb3
    have bt:=bel_trans bt hb3
    go_simp
    refine hK.out _ _ (cells_kept bt _ _ hS0) (fun hS3=>?_)
    clear hK
    generalize (V1.alloc (.cells #[.slice none 0 0,.map none] 111))=V2 at *
    obtain ⟨X,hX⟩:∃ X,X=V1.heap.size:=⟨_,rfl⟩
    rw [← hX] at pX hXB ⊢
    clear hX
    try simp only [Act.put,tka,tkb,tkc]
    refine tkr 2 12 (fun K hK=>?_)
    have kx:=kS V2 (bel_trans bw bt) ((t0a,t0n,t0c),(t1a,t1n,t1c),(t2a,t2n,t2c),(t3a,t3n,t3c)) (hO.mem fz)
    rw [ut] at kx
    go_simp
    refine kx.mono ?_
    rintro e V3 ⟨va9,nb,cs',L,rfl,sp,hLF,hR',hb2⟩
    obtain rfl:=(hR.below (bel_trans bw bt)).uniq hR'
    have hBv:w.heap.size≤V2.heap.size:=Nat.le_trans bw.size bt.size
    obtain ⟨va8,vn8,vc8,hva⟩:=own_slice6 sp.row
    replace pX:=pX.below hb2
    have bt:=bel_trans bt hb2
    go_wp2_with fail
    refine hK.out _ _ (cells_kept bt _ _ hS0) (fun hS2=>?_)
    clear hK kx
    try simp only [Act.put,tka,tkb,tkc]
    refine tkm 3 9 (.tuple #[.agg #[va9,.map (some nb)],.int .i64 0]) ?_
    refine tkm 4 13 (.agg #[va9,.map (some nb)]) ?_
    refine tkm 5 14 (.int .i64 0) ?_
    subst hva
    refine tkz 7 (fun K hK=>?_)
    refine step_store_blkD rfl 111 _ _ rfl X [.slice va8 vn8 vc8,.map (some nb)] rfl rfl pX (by kernel_rfl) rfl rfl ?_
    intro V9 pX9 g9
    have bz:=(bel_trans bw bt).grown g9 (bel_trans bw bt).size (fun q e=>by cases e;exact hXB)
    replace sp:=sp.grown g9 pX (by decide) (by decide)
    have hXP:X≠w.heap.size:=blk_ne pX (pP9.below bt) (by decide)
    have c9:=cells_kept bt _ _ hS0
    refine hK.out _ _ (cell_grownB g9 c9 (by simp;omega)) (fun hS4=>?_)
    clear hK
    try simp only [Act.put,tka,tkb,tkc]
    refine tkm 8 5 (.int .i64 0) ?_
    refine wpAnyH_done (by kernel_rfl) ?_ _
    go_wp2_with fail
    go_meet
    case rel=>exact CutK.mk9 (va:=.slice none 0 0) rfl rfl pX9.out sp hLF hXB hBv bz
  ·have hb3:Below V.heap.size V (V.alloc (.cells #[.slice none 0 0,.map none] 111)):=by go_grown
   have pX:Blk (V.alloc (.cells #[.slice none 0 0,.map none] 111)) V.heap.size 111 [.slice none 0 0,.map none]:=blkAt _ _ _ rfl
   have hXB:w.heap.size≤V.heap.size:=Nat.le_trans bw.size bt.size
   have bt:=bel_trans bt hb3
   go_simp
   refine hK.out _ _ (cells_kept bt _ _ hS0) (fun hS3=>?_)
   clear hK
   generalize (V.alloc (.cells #[.slice none 0 0,.map none] 111))=V1 at *
   obtain ⟨X,hX⟩:∃ X,X=V.heap.size:=⟨_,rfl⟩
   rw [← hX] at pX hXB ⊢
   clear hX
   try simp only [Act.put,tka,tkb,tkc]
   refine tkr 1 11 (fun K hK=>?_)
   go_simp
   refine (kN V1).mono ?_
   rintro e V2 ⟨⟨⟨⟨t0a,t0n,t0c⟩,⟨t1a,t1n,t1c⟩,⟨t2a,t2n,t2c⟩,⟨t3a,t3n,t3c⟩⟩,rfl,hO⟩,hb1⟩
   have ut:S4.val ((t0a,t0n,t0c),(t1a,t1n,t1c),(t2a,t2n,t2c),(t3a,t3n,t3c))=.agg #[.slice t0a t0n t0c,.slice t1a t1n t1c,.slice t2a t2n t2c,.slice t3a t3n t3c]:=rfl
   rw [ut]
   have bt:=bel_trans bt hb1
   go_wp2_with fail
   refine hK.out _ _ (cells_kept bt _ _ hS0) (fun hS1=>?_)
   clear hK
   try simp only [Act.put,tka,tkb,tkc]
   replace pX:=pX.below hb1
   refine tkr 2 12 (fun K hK=>?_)
   have kx:=kS V2 (bel_trans bw bt) ((t0a,t0n,t0c),(t1a,t1n,t1c),(t2a,t2n,t2c),(t3a,t3n,t3c)) (hO.mem fz)
   rw [ut] at kx
   go_simp
   refine kx.mono ?_
   rintro e V3 ⟨va9,nb,cs',L,rfl,sp,hLF,hR',hb2⟩
   obtain rfl:=(hR.below (bel_trans bw bt)).uniq hR'
   have hBv:w.heap.size≤V2.heap.size:=Nat.le_trans bw.size bt.size
   obtain ⟨va8,vn8,vc8,hva⟩:=own_slice6 sp.row
   replace pX:=pX.below hb2
   have bt:=bel_trans bt hb2
   go_wp2_with fail
   refine hK.out _ _ (cells_kept bt _ _ hS0) (fun hS2=>?_)
   clear hK kx
   try simp only [Act.put,tka,tkb,tkc]
   refine tkm 3 9 (.tuple #[.agg #[va9,.map (some nb)],.int .i64 0]) ?_
   refine tkm 4 13 (.agg #[va9,.map (some nb)]) ?_
   refine tkm 5 14 (.int .i64 0) ?_
   subst hva
   refine tkz 7 (fun K hK=>?_)
   refine step_store_blkD rfl 111 _ _ rfl X [.slice va8 vn8 vc8,.map (some nb)] rfl rfl pX (by kernel_rfl) rfl rfl ?_
   intro V9 pX9 g9
   have bz:=(bel_trans bw bt).grown g9 (bel_trans bw bt).size (fun q e=>by cases e;exact hXB)
   replace sp:=sp.grown g9 pX (by decide) (by decide)
   have hXP:X≠w.heap.size:=blk_ne pX (pP9.below bt) (by decide)
   have c9:=cells_kept bt _ _ hS0
   refine hK.out _ _ (cell_grownB g9 c9 (by simp;omega)) (fun hS4=>?_)
   clear hK
   try simp only [Act.put,tka,tkb,tkc]
   refine tkm 8 5 (.int .i64 0) ?_
   refine wpAnyH_done (by kernel_rfl) ?_ _
   go_wp2_with fail
   go_meet
   case rel=>exact CutK.mk9 (va:=.slice none 0 0) rfl rfl pX9.out sp hLF hXB hBv bz
 obtain ⟨X,va,vc,nb,L,rfl,rfl,pX,sp,hLF,hXB,bz⟩:=hcut
 clear kS kN bw pP fz
 have cX0:wc.cell? ⟨X,0,none⟩=some (.slice va L.length vc):=by simpa using pX.cell 0
 have hl2:L.length≤2000:=by
  have e:(L.map (·.1)).length=L.length:=by simp
  rw [hLF] at e
  omega
 have st:OnK w wc X nb va vc cs rows L 0 (.slice none 0 0):=⟨Nat.zero_le _,pX,sp,World.ownsRow_nil _ _ _ _,bz⟩
 have HLF:Hid (L.map (·.1)=fullS rows):=hLF
 clear hLF pX sp bz
 go_wp2_with fail
 go_loopw [6,21] (fun s6 s21 wr=>∃ j:Nat,s21=.int .i64 j∧OnK w wr X nb va vc cs rows L j s6) (fun _ s21 _=>L.length - (intOf s21).toNat)
 case atStart=>exact ⟨0,rfl,st⟩
 case round =>
  clear st cX0
  obtain ⟨j,rfl,hj,pX,sp,q,bw⟩:=hrel
  by_cases hlt:j<L.length
  ·obtain ⟨r,mv,hr⟩:∃ r mv,L[j]?=some (r,mv):=⟨L[j].1,L[j].2,by rw [List.getElem?_eq_getElem hlt]⟩
   obtain ⟨g,c,e9,hg,hrg⟩:=sp.at9 hr
   have hmv:=sp.mvone hr
   cases e9
   have hlt3:(j:Int)<(L.length:Int):=by omega
   have hj0:(0:Int)≤(j:Int):=by omega
   have hKe:(keysL (L.map (·.1))).take (j+1)=(keysL (L.map (·.1))).take j++[keyT r.1]:=by
    rw [List.take_add_one]
    unfold keysL
    rw [List.getElem?_map,List.getElem?_map,hr]
    rfl
   have hkl:((keysL (L.map (·.1))).take j).length≤2000:=by have:=List.length_take_le j (keysL (L.map (·.1)));omega
   have HKe:Hid ((keysL (L.map (·.1))).take (j+1)=(keysL (L.map (·.1))).take j++[keyT r.1]):=hKe
   clear hKe hr
   obtain ⟨ks,hks⟩:∃ ks,ks=(keysL (L.map (·.1))).take j:=⟨_,rfl⟩
   rw [← hks] at q hkl HKe
   clear hks
   have pN:=Blk.new wr 116 [.string ⟨#[]⟩,.slice none 0 0,.int .i64 0,.int .i64 0,.int .i64 0,.slice none 0 0,.int .i64 0,.int .i64 0,.int .i64 0,.slice none 0 0,.int .i64 0,.int .i64 0,.int .i64 0,.int .i64 0,.int .i64 0,.int .i64 0,.int .i64 0,.int .i64 0,.int .i64 0,.int .i64 0,.int .i64 0,.slice none 0 0]
   have hbN:Below wr.heap.size wr (wr.alloc (.cells #[.string ⟨#[]⟩,.slice none 0 0,.int .i64 0,.int .i64 0,.int .i64 0,.slice none 0 0,.int .i64 0,.int .i64 0,.int .i64 0,.slice none 0 0,.int .i64 0,.int .i64 0,.int .i64 0,.int .i64 0,.int .i64 0,.int .i64 0,.int .i64 0,.int .i64 0,.int .i64 0,.int .i64 0,.int .i64 0,.slice none 0 0] 116)):=by go_grown
   go_wp2_with (first | refine wpList_load_mid rfl 116 _ rfl g (j*22) rfl (rcC cs r mv) _ hrg Tryz.underlying116 rfl (by kernel_rfl) ?_ | refine wpList_store_blk rfl 116 _ _ rfl wr.heap.size (rcC cs r mv) rfl rfl pN (by kernel_rfl) rfl (rcC_one cs r hmv) ?_)
   intro w3 p3 g3
   have pE:=p3.out
   have b3:Below wr.heap.size wr w3:=hbN.grown g3 hbN.size (fun k e=>by cases e;exact Nat.le_refl _)
   have cE:w3.cell? ⟨wr.heap.size,0,none⟩=some (.string (keyT r.1)):=by rw [pE.cell];exact keyT_at
   replace pX:=pX.below b3
   replace sp:=sp.below b3
   replace q:=owns_below q b3
   replace bw:=bel_trans bw b3
   clear p3 g3 hbN pN b3 hrg pE
   generalize wr.heap.size=E at *
   generalize keyT r.1=key at *
   go_wp2_with (at_builtin;refine wpList_append_own_at _ rfl _ _ 47 rfl w.heap.size 9 i1 (.string ⟨#[]⟩) 1 16 Tryz.underlying47 hi8 hy0 hy1 hy2 rfl (by decide) _ _ _ rfl (q.alloc _) ⟨w3.heap.size,0,none⟩ 1 1 [.string key] rfl rfl (cell_one_new _ _ _) (one_str6 _) ?c3 ?c4 ?c5 ?_)
   case c3=>unfold maxLen;omega
   case c4=>omega
   case c5=>have:=bw.size;simp;omega
   intro v6 w4 q6 gr _ at6
   have ha:Below w3.heap.size w3 (w3.alloc (.cells #[.string key] 9)):=by go_grown
   have sp4:=(sp.below ha).strgrown (q.alloc _) gr
   have pX4:=(pX.below ha).kept gr (own_ne_blk9 (q.alloc _) (pX.below ha) (by decide))
   have bw4:=(bel_trans bw ha).grown gr (bel_trans bw ha).size (fun k e=>(own_lt3 (q.alloc (.cells #[.string key] 9)) e).1)
   have q7:w4.ownsRow w.heap.size 9 1 v6 ((keysL (L.map (·.1))).take (j+1)).length (((keysL (L.map (·.1))).take (j+1)).map Value.string):=by rw [HKe.out];exact row_str6 q6
   have st9:OnK w w4 X nb (some ⟨g,0,none⟩) vc cs rows L (j+1) v6:=⟨by omega,pX4,sp4,q7,bw4⟩
   clear sp4 pX4 bw4 q7 q6 gr at6 ha sp pX bw q cE HKe
   go_wp2
   go_roundw
   case rel=>exact ⟨j+1,by go_num,st9⟩
   case measure=>simp [intOf];omega
  ·have hlt3:¬ (j:Int)<(L.length:Int):=by omega
   obtain rfl:j=L.length:=by omega
   obtain ⟨ka,kn,kc,rfl⟩:=own_slice6 q
   have HG:Hid (KeysGot (.returned (.tuple #[.slice ka kn kc,.int .i64 0])) wr w.heap.size (keysL (fullS rows)) 0):=by
    rw [← HLF.out]
    rw [List.take_of_length_le (by rw [keysL_len];simp)] at q
    exact ⟨_,rfl,q⟩
   clear q sp pX
   go_wp2
   refine bodyPost_ret (by simp [results,Tryz.results22,go_sem];try rfl) rfl ?_
   exact ⟨HG.out,bw⟩


def keysO (rows:List (List I3)):List ByteArray:=if codeF rows=0 then keysL (fullS rows) else []
theorem own_emptyS (W:World) (B:Nat) (hB:B≤W.heap.size):(W.alloc (.cells #[] 9)).ownsRow B 9 1 (.slice (some ⟨W.heap.size,0,none⟩) 0 0) 0 []:=own_emptyB W 9 1 B hB

theorem specAllStates_is (a:Option Addr) (len cap:Nat) (rows:List (List I3)) (w:World) (hC:Codes w a len cap rows) :
  Calls Tryz.prog 23 #[.agg #[.slice a len cap]] w fun e w'=>KeysGot e w' w.heap.size (keysO rows) (codeF rows)∧Below w.heap.size w w':=by
 have kO:=fun (W:World) (b:Below w.heap.size w W)=>specProgramOK_is a len cap rows W (hC.below b)
 have bw:Below w.heap.size w (w.alloc (.cells #[.slice a len cap] 25)):=by go_grown
 have pP:Blk (w.alloc (.cells #[.slice a len cap] 25)) w.heap.size 25 [.slice a len cap]:=blkAt _ _ _ rfl
 go_enter Tryz.func23,Tryz.ntmps23
 go_wp2_with fail
 generalize (w.alloc (.cells #[.slice a len cap] 25))=U at *
 have kOx:=kO U bw
 clear kO
 go_wp2_with (refine wpList_load_blk rfl 25 _ rfl w.heap.size rfl pP _ Tryz.underlying25 rfl (by kernel_rfl) ?_)
 refine kOx.mono ?_
 rintro e w1 ⟨rfl,hb⟩
 replace bw:=bel_trans bw hb
 replace pP:=pP.below hb
 clear hb kOx
 have hbs:=bw.size
 cases hp:progOk rows
 ·have HG:Hid (KeysGot (.returned (.tuple #[.slice (some ⟨w1.heap.size,0,none⟩) 0 0,.int .i64 1])) (w1.alloc (.cells #[] 9)) w.heap.size (keysO rows) (codeF rows)):=by
   have e1:codeF rows=1:=by unfold codeF;rw [hp];rfl
   have e2:keysO rows=[]:=by unfold keysO;rw [e1];rfl
   rw [e1,e2]
   exact ⟨_,rfl,own_emptyS w1 _ hbs⟩
  have b2:Below w.heap.size w (w1.alloc (.cells #[] 9)):=bel_trans bw (by go_grown)
  go_wp2
  refine bodyPost_ret (by simp [results,Tryz.results23,go_sem];try rfl) rfl ?_
  exact ⟨HG.out,b2⟩
 ·obtain ⟨hl3,cs,hR⟩:=hC.rowsAt hp
  subst hl3
  have kS:=l06States_is (cap:=cap) (hR.below bw) hp
  go_wp2_with (refine wpList_load_blk rfl 25 _ rfl w.heap.size rfl pP _ Tryz.underlying25 rfl (by kernel_rfl) ?_)
  refine kS.mono ?_
  rintro e w2 ⟨⟨v1,v2,v3,ts,fs,bs,rfl,hT,hF⟩,hb⟩
  have hbB:=bw.size
  replace bw:=bel_trans bw hb
  clear hb kS
  by_cases hf:(fullS rows).length≤2000
  ·obtain ⟨rfl,_,_⟩:=hF hf
   have hd:decide ((fullS rows).length≤2000)=true:=decide_eq_true hf
   obtain ⟨ka,kn,kc,rfl⟩:=own_slice6 hT.ks
   have HG:Hid (KeysGot (.returned (.tuple #[.slice ka kn kc,.int .i64 0])) w2 w.heap.size (keysO rows) (codeF rows)):=by
    have e1:codeF rows=0:=by unfold codeF;rw [hp,if_pos rfl,if_pos hf]
    have e2:keysO rows=keysL (fullS rows):=by unfold keysO;rw [if_pos e1]
    rw [e1,e2]
    exact ⟨_,rfl,own_lower hT.ks hbB⟩
   clear hT hF hf
   go_wp2
   refine bodyPost_ret (by simp [results,Tryz.results23,go_sem];try rfl) rfl ?_
   exact ⟨HG.out,bw⟩
  ·have hd:decide ((fullS rows).length≤2000)=false:=decide_eq_false hf
   have HG:Hid (KeysGot (.returned (.tuple #[.slice (some ⟨w2.heap.size,0,none⟩) 0 0,.int .i64 15])) (w2.alloc (.cells #[] 9)) w.heap.size (keysO rows) (codeF rows)):=by
    have e1:codeF rows=15:=by unfold codeF;rw [hp,if_pos rfl,if_neg hf]
    have e2:keysO rows=[]:=by unfold keysO;rw [e1];rfl
    rw [e1,e2]
    exact ⟨_,rfl,own_emptyS w2 _ bw.size⟩
   have b2:Below w.heap.size w (w2.alloc (.cells #[] 9)):=bel_trans bw (by go_grown)
   clear hT hF hf
   go_wp2
   refine bodyPost_ret (by simp [results,Tryz.results23,go_sem];try rfl) rfl ?_
   exact ⟨HG.out,b2⟩
theorem implAllStates_is (a:Option Addr) (len cap:Nat) (rows:List (List I3)) (w:World) (hC:Codes w a len cap rows) (hV:VmShape w) :
  Calls Tryz.prog 22 #[.agg #[.slice a len cap]] w fun e w'=>KeysGot e w' w.heap.size (keysO rows) (codeF rows)∧Below w.heap.size w w':=by
 unfold keysO
 by_cases h:codeF rows=0
 ·rw [if_pos h,h]
  exact implAllStates_ok a len cap rows w hC hV h
 ·rw [if_neg h]
  exact implAllStates_not a len cap rows w hC hV h

open Go.RowKit Go.ChangeShapes

theorem gVmShape:Tryz.prog.globalNamed "loop.example/g00632/impl.vmShape"=some 0:=by kernel_rfl
theorem tVmShape:(Tryz.prog.globals[0]?).map (·.type)=some 173:=by kernel_rfl

section
variable {H : Type} {enc : TypeId × Value → H} {w : World} {base : Nat} {spare : Nat → Bool} {held : Bool}
theorem part_cells {fuel:Nat} {cs:List Value} {a b:Int} {p:List MemPlace} (h:DataW.trod enc Tryz.prog w base spare held fuel 172 cs=some (.agg [.lit (.int .i64 a),.lit (.int .i64 b)],p)):cs=[.int .i64 a,.int .i64 b]:=by
 obtain ⟨y0,y1,n,hx,hl,h0,h1⟩:=trod_struct2 Tryz.underlying172 h
 have hl2:cs.length=2:=hl.trans (by kernel_rfl)
 have hk:Tryz.prog.cellsOf 3=1:=by kernel_rfl
 match cs,hl2 with
 | [c0,c1],_ =>
  simp only [hk] at h0 h1
  obtain ⟨z0,e0,hy0,_⟩:=DataW.trod_int Tryz.underlying3 h0
  obtain ⟨z1,e1,hy1,_⟩:=DataW.trod_int Tryz.underlying3 h1
  simp at e0 e1
  subst hy0 hy1 e0 e1
  simp at hx
  simp [hx]
theorem shape_cells {fuel:Nat} {cs:List Value} {p:List MemPlace} (h:DataW.trod enc Tryz.prog w base spare held fuel 173 cs=some (Rows.laid_loop_example_g00632_impl_vmShape,p)):cs=[3,6,4,9,2,3,6,9].map (Value.int .i64):=by
 obtain ⟨xs,m,_,hx,hl,hn,hi⟩:=DataW.trod_array Tryz.underlying173 h
 have hk:Tryz.prog.cellsOf 172=2:=by kernel_rfl
 have hl8:cs.length=8:=hl.trans (by kernel_rfl)
 rw [hk] at hi
 match xs,hn with
 | [⟨x0,p0⟩,⟨x1,p1⟩,⟨x2,p2⟩,⟨x3,p3⟩],_ =>
  unfold Rows.laid_loop_example_g00632_impl_vmShape at hx
  simp at hx
  obtain ⟨⟨rfl,rfl,rfl,rfl⟩,_⟩:=hx
  match cs,hl8 with
  | [c0,c1,c2,c3,c4,c5,c6,c7],_ =>
   have g0:=part_cells (hi 0 (by decide))
   have g1:=part_cells (hi 1 (by decide))
   have g2:=part_cells (hi 2 (by decide))
   have g3:=part_cells (hi 3 (by decide))
   simp at g0 g1 g2 g3
   simp [g0,g1,g2,g3]
end

theorem vmShape_of_laid {W:World} {p:List (String × DataW Unit)} (hp:p=[("loop.example/g00632/impl.vmShape",Rows.laid_loop_example_g00632_impl_vmShape)]) (h:laidMetH Tryz.prog p W):VmShape W:=by
 subst hp
 rw [MakeChecks.laidMetH_plain _ _ _ (by kernel_rfl)] at h
 obtain ⟨ps,⟨g0,t0,cs0,f0,p0,q0,hg0,ht0,hv0,hd0,_,_⟩,_,_⟩:=h
 obtain rfl:=Option.some.inj (gVmShape.symm.trans hg0)
 obtain rfl:=Option.some.inj (tVmShape.symm.trans ht0)
 have hcs:=shape_cells hd0
 unfold World.var? at hv0
 simp only [gVmShape,Option.bind_some] at hv0
 cases hh:W.heap[0]? with
 | none=>rw [hh] at hv0;cases hv0
 | some o =>
  rw [hh] at hv0
  cases o with
  | cells cs t fr =>
   simp only [Option.some.injEq] at hv0
   subst hv0
   intro i v hi
   rw [← hcs] at hi
   simp only [World.cell?,hh]
   simpa using hi
  | _=>cases hv0


def inK (rows:List (List I3)) (s:ByteArray):Bool:=decide (0≤findT (keysL (fullS rows)) s (keysL (fullS rows)).length)
theorem inK_iff (rows:List (List I3)) (s:ByteArray):inK rows s=true↔s ∈ keysL (fullS rows):=by
 unfold inK
 rw [decide_eq_true_iff,findT_iff _ (Nat.le_refl _),List.take_length]
def reachV (rows:List (List I3)) (s:ByteArray):Bool:=if 65536<s.size then false else if codeF rows=0 then inK rows s else false
def reachC (rows:List (List I3)) (s:ByteArray):Int:=if 65536<s.size then 2 else codeF rows

theorem implIsReached_long (a:Option Addr) (len cap:Nat) (s:ByteArray) (w:World) (hs:65536<s.size) :
  Calls Tryz.prog 30 #[.agg #[.slice a len cap],.string s] w fun e w'=>e=.returned (.tuple #[.bool false,.int .i64 2])∧Below w.heap.size w w':=by
 have bw:Below w.heap.size w (w.alloc (.cells #[.slice a len cap] 25)):=by go_grown
 have h9:(65536:Int)<(s.size:Int):=by omega
 go_enter Tryz.func30,Tryz.ntmps30
 go_wp2
 refine bodyPost_ret (by simp [results,Tryz.results30,go_sem];try rfl) rfl ?_
 exact ⟨rfl,bw⟩

theorem implIsReached_not (a:Option Addr) (len cap:Nat) (rows:List (List I3)) (s:ByteArray) (w:World) (hC:Codes w a len cap rows) (hV:VmShape w) (hs:¬ 65536<s.size) (hc:codeF rows≠0) :
  Calls Tryz.prog 30 #[.agg #[.slice a len cap],.string s] w fun e w'=>e=.returned (.tuple #[.bool false,.int .i64 (codeF rows)])∧Below w.heap.size w w':=by
 have kS:=fun (W:World) (b:Below w.heap.size w W) (t:S4) (h:Vmem W t zeroV)=>spaceOf_not a len cap rows t W (hC.below b) h (hV.below b) hc
 generalize codeF rows=c at *
 have hcn:(c != 0)=true:=by simpa using hc
 have h9:¬ (65536:Int)<(s.size:Int):=by omega
 have fz:=(shape_fits9 zero_shape).1
 have kN:=implNewVm_is
 have bw:Below w.heap.size w (w.alloc (.cells #[.slice a len cap] 25)):=by go_grown
 have pP:Blk (w.alloc (.cells #[.slice a len cap] 25)) w.heap.size 25 [.slice a len cap]:=blkAt _ _ _ rfl
 go_enter Tryz.func30,Tryz.ntmps30
 go_wp2_with fail
 generalize (w.alloc (.cells #[.slice a len cap] 25))=U at *
 go_cut [6,7] from 13 (fun s4 s5 W=>CutF w W c s4 s5)
 case first =>
  have hdr:Below U.heap.size U U.drew:=by go_grown
  refine wp_region_held_drew (S:=(fun w'=>w'.cell? ⟨w.heap.size,0,none⟩=some (.slice a len cap))) (by kernel_rfl) (by simpa using pP.cell 0) (fun hS0=>?_)
  refine tkm 0 14 (.agg #[.slice a len cap]) ?_
  have pP9:=pP.below hdr
  replace bw:=bel_trans bw hdr
  clear hdr
  generalize U.drew=V at *
  have bt:Below V.heap.size V V:=Below.refl _ _
  refine wpAnyH_ready (rs:=[1,6]) (by kernel_rfl) (by simp) ?_
  refine AllReadyH.cons (o:=⟨some 15,_,_,_,_,_⟩) rfl (fun K hK=>?_) (AllReadyH.cons (o:=⟨some 6,_,_,_,_,_⟩) rfl (fun K hK=>?_) AllReadyH.nil)
  ·go_simp
   refine (kN V).mono ?_
   rintro e V1 ⟨⟨⟨⟨t0a,t0n,t0c⟩,⟨t1a,t1n,t1c⟩,⟨t2a,t2n,t2c⟩,⟨t3a,t3n,t3c⟩⟩,rfl,hO⟩,hb1⟩
   have ut:S4.val ((t0a,t0n,t0c),(t1a,t1n,t1c),(t2a,t2n,t2c),(t3a,t3n,t3c))=.agg #[.slice t0a t0n t0c,.slice t1a t1n t1c,.slice t2a t2n t2c,.slice t3a t3n t3c]:=rfl
   rw [ut]
   have bt:=bel_trans bt hb1
   go_wp2_with fail
   refine hK.out _ _ (cells_kept bt _ _ hS0) (fun hS1=>?_)
   clear hK
   try simp only [Act.put,tka,tkb,tkc]
   refine wpAnyH_ready (rs:=[2,6]) (by kernel_rfl) (by simp) ?_
   refine AllReadyH.cons (o:=⟨some 16,_,_,_,_,_⟩) rfl (fun K hK=>?_) (AllReadyH.cons (o:=⟨some 6,_,_,_,_,_⟩) rfl (fun K hK=>?_) AllReadyH.nil)
   ·have kx:=kS V1 (bel_trans bw bt) ((t0a,t0n,t0c),(t1a,t1n,t1c),(t2a,t2n,t2c),(t3a,t3n,t3c)) (hO.mem fz)
    rw [ut] at kx
    go_simp
    refine kx.mono ?_
    rintro e V2 ⟨rfl,hb2⟩
    have bt:=bel_trans bt hb2
    go_wp2_with fail
    refine hK.out _ _ (cells_kept bt _ _ hS0) (fun hS2=>?_)
    clear hK kx
    try simp only [Act.put,tka,tkb,tkc]
    refine tkm 3 13 (.tuple #[.agg #[.slice none 0 0,.map none],.int .i64 c]) ?_
    refine tkm 4 17 (.agg #[.slice none 0 0,.map none]) ?_
    refine tkm 5 18 (.int .i64 c) ?_
    refine tkr 6 6 (fun K hK=>?_)
    have hb3:Below V2.heap.size V2 (V2.alloc (.cells #[.slice none 0 0,.map none] 111)):=by go_grown
    have pX:Blk (V2.alloc (.cells #[.slice none 0 0,.map none] 111)) V2.heap.size 111 [.slice none 0 0,.map none]:=blkAt _ _ _ rfl
    have hXB:w.heap.size≤V2.heap.size:=Nat.le_trans bw.size bt.size
    have bt:=bel_trans bt hb3
    go_simp
    refine hK.out _ _ (cells_kept bt _ _ hS0) (fun hS3=>?_)
    clear hK
    generalize (V2.alloc (.cells #[.slice none 0 0,.map none] 111))=V3 at *
    obtain ⟨X,hX⟩:∃ X,X=V2.heap.size:=⟨_,rfl⟩
    rw [← hX] at pX hXB ⊢
    clear hX
    try simp only [Act.put,tka,tkb,tkc]
    refine tkz 7 (fun K hK=>?_)
    refine step_store_blkD rfl 111 _ _ rfl X [.slice none 0 0,.map none] rfl rfl pX (by kernel_rfl) rfl rfl ?_
    intro V9 pX9 g9
    have bz:=(bel_trans bw bt).grown g9 (bel_trans bw bt).size (fun q e=>by cases e;exact hXB)
    have hXP:X≠w.heap.size:=blk_ne pX (pP9.below bt) (by decide)
    have c9:=cells_kept bt _ _ hS0
    refine hK.out _ _ (cell_grownB g9 c9 (by simp;omega)) (fun hS4=>?_)
    clear hK
    try simp only [Act.put,tka,tkb,tkc]
    refine tkm 8 7 (.int .i64 c) ?_
    refine wpAnyH_done (by kernel_rfl) ?_ _
    go_wp2_with fail
    go_meet
    case rel=>exact ⟨X,rfl,rfl,bz⟩
   ·have hb3:Below V1.heap.size V1 (V1.alloc (.cells #[.slice none 0 0,.map none] 111)):=by go_grown
    have pX:Blk (V1.alloc (.cells #[.slice none 0 0,.map none] 111)) V1.heap.size 111 [.slice none 0 0,.map none]:=blkAt _ _ _ rfl
    have hXB:w.heap.size≤V1.heap.size:=Nat.le_trans bw.size bt.size
    replace hO:=hO.below hb3
    have bt:=bel_trans bt hb3
    go_simp
    refine hK.out _ _ (cells_kept bt _ _ hS0) (fun hS3=>?_)
    clear hK
    generalize (V1.alloc (.cells #[.slice none 0 0,.map none] 111))=V2 at *
    obtain ⟨X,hX⟩:∃ X,X=V1.heap.size:=⟨_,rfl⟩
    rw [← hX] at pX hXB ⊢
    clear hX
    try simp only [Act.put,tka,tkb,tkc]
    refine tkr 2 16 (fun K hK=>?_)
    have kx:=kS V2 (bel_trans bw bt) ((t0a,t0n,t0c),(t1a,t1n,t1c),(t2a,t2n,t2c),(t3a,t3n,t3c)) (hO.mem fz)
    rw [ut] at kx
    go_simp
    refine kx.mono ?_
    rintro e V3 ⟨rfl,hb2⟩
    replace pX:=pX.below hb2
    have bt:=bel_trans bt hb2
    go_wp2_with fail
    refine hK.out _ _ (cells_kept bt _ _ hS0) (fun hS2=>?_)
    clear hK kx
    try simp only [Act.put,tka,tkb,tkc]
    refine tkm 3 13 (.tuple #[.agg #[.slice none 0 0,.map none],.int .i64 c]) ?_
    refine tkm 4 17 (.agg #[.slice none 0 0,.map none]) ?_
    refine tkm 5 18 (.int .i64 c) ?_
    refine tkz 7 (fun K hK=>?_)
    refine step_store_blkD rfl 111 _ _ rfl X [.slice none 0 0,.map none] rfl rfl pX (by kernel_rfl) rfl rfl ?_
    intro V9 pX9 g9
    have bz:=(bel_trans bw bt).grown g9 (bel_trans bw bt).size (fun q e=>by cases e;exact hXB)
    have hXP:X≠w.heap.size:=blk_ne pX (pP9.below bt) (by decide)
    have c9:=cells_kept bt _ _ hS0
    refine hK.out _ _ (cell_grownB g9 c9 (by simp;omega)) (fun hS4=>?_)
    clear hK
    try simp only [Act.put,tka,tkb,tkc]
    refine tkm 8 7 (.int .i64 c) ?_
    refine wpAnyH_done (by kernel_rfl) ?_ _
    go_wp2_with fail
    go_meet
    case rel=>exact ⟨X,rfl,rfl,bz⟩
  ·have hb3:Below V.heap.size V (V.alloc (.cells #[.slice none 0 0,.map none] 111)):=by go_grown
   have pX:Blk (V.alloc (.cells #[.slice none 0 0,.map none] 111)) V.heap.size 111 [.slice none 0 0,.map none]:=blkAt _ _ _ rfl
   have hXB:w.heap.size≤V.heap.size:=Nat.le_trans bw.size bt.size
   have bt:=bel_trans bt hb3
   go_simp
   refine hK.out _ _ (cells_kept bt _ _ hS0) (fun hS3=>?_)
   clear hK
   generalize (V.alloc (.cells #[.slice none 0 0,.map none] 111))=V1 at *
   obtain ⟨X,hX⟩:∃ X,X=V.heap.size:=⟨_,rfl⟩
   rw [← hX] at pX hXB ⊢
   clear hX
   try simp only [Act.put,tka,tkb,tkc]
   refine tkr 1 15 (fun K hK=>?_)
   go_simp
   refine (kN V1).mono ?_
   rintro e V2 ⟨⟨⟨⟨t0a,t0n,t0c⟩,⟨t1a,t1n,t1c⟩,⟨t2a,t2n,t2c⟩,⟨t3a,t3n,t3c⟩⟩,rfl,hO⟩,hb1⟩
   have ut:S4.val ((t0a,t0n,t0c),(t1a,t1n,t1c),(t2a,t2n,t2c),(t3a,t3n,t3c))=.agg #[.slice t0a t0n t0c,.slice t1a t1n t1c,.slice t2a t2n t2c,.slice t3a t3n t3c]:=rfl
   rw [ut]
   have bt:=bel_trans bt hb1
   go_wp2_with fail
   refine hK.out _ _ (cells_kept bt _ _ hS0) (fun hS1=>?_)
   clear hK
   try simp only [Act.put,tka,tkb,tkc]
   replace pX:=pX.below hb1
   refine tkr 2 16 (fun K hK=>?_)
   have kx:=kS V2 (bel_trans bw bt) ((t0a,t0n,t0c),(t1a,t1n,t1c),(t2a,t2n,t2c),(t3a,t3n,t3c)) (hO.mem fz)
   rw [ut] at kx
   go_simp
   refine kx.mono ?_
   rintro e V3 ⟨rfl,hb2⟩
   replace pX:=pX.below hb2
   have bt:=bel_trans bt hb2
   go_wp2_with fail
   refine hK.out _ _ (cells_kept bt _ _ hS0) (fun hS2=>?_)
   clear hK kx
   try simp only [Act.put,tka,tkb,tkc]
   refine tkm 3 13 (.tuple #[.agg #[.slice none 0 0,.map none],.int .i64 c]) ?_
   refine tkm 4 17 (.agg #[.slice none 0 0,.map none]) ?_
   refine tkm 5 18 (.int .i64 c) ?_
   refine tkz 7 (fun K hK=>?_)
   refine step_store_blkD rfl 111 _ _ rfl X [.slice none 0 0,.map none] rfl rfl pX (by kernel_rfl) rfl rfl ?_
   intro V9 pX9 g9
   have bz:=(bel_trans bw bt).grown g9 (bel_trans bw bt).size (fun q e=>by cases e;exact hXB)
   have hXP:X≠w.heap.size:=blk_ne pX (pP9.below bt) (by decide)
   have c9:=cells_kept bt _ _ hS0
   refine hK.out _ _ (cell_grownB g9 c9 (by simp;omega)) (fun hS4=>?_)
   clear hK
   try simp only [Act.put,tka,tkb,tkc]
   refine tkm 8 7 (.int .i64 c) ?_
   refine wpAnyH_done (by kernel_rfl) ?_ _
   go_wp2_with fail
   go_meet
   case rel=>exact ⟨X,rfl,rfl,bz⟩
 obtain ⟨X,rfl,rfl,bz⟩:=hcut
 clear kS kN bw pP fz
 go_wp2
 refine bodyPost_ret (by simp [results,Tryz.results30,go_sem];try rfl) rfl ?_
 exact ⟨rfl,bz⟩

theorem implIsReached_ok (a:Option Addr) (len cap:Nat) (rows:List (List I3)) (s:ByteArray) (w:World) (hC:Codes w a len cap rows) (hV:VmShape w) (hs:¬ 65536<s.size) (hc:codeF rows=0) :
  Calls Tryz.prog 30 #[.agg #[.slice a len cap],.string s] w fun e w'=>e=.returned (.tuple #[.bool (inK rows s),.int .i64 0])∧Below w.heap.size w w':=by
 obtain ⟨hp,hf⟩:=code_parts hc
 obtain ⟨cs,hR⟩:=rows_of_codes6 hC hp
 have kS:=fun (W:World) (b:Below w.heap.size w W) (t:S4) (h:Vmem W t zeroV)=>spaceOf_yes a len cap rows t W (hC.below b) h (hV.below b) hp hf
 have h9:¬ (65536:Int)<(s.size:Int):=by omega
 have hkey:keyOf Tryz.prog 9 (.string s)=some (.string s.data.toList):=WideMaps.keyOf_string_mk Tryz.underlying9 (by unfold maxLen;omega)
 have hik:=inK_iff rows s
 have fz:=(shape_fits9 zero_shape).1
 have kN:=implNewVm_is
 have bw:Below w.heap.size w (w.alloc (.cells #[.slice a len cap] 25)):=by go_grown
 have pP:Blk (w.alloc (.cells #[.slice a len cap] 25)) w.heap.size 25 [.slice a len cap]:=blkAt _ _ _ rfl
 clear hc
 go_enter Tryz.func30,Tryz.ntmps30
 go_wp2_with fail
 generalize (w.alloc (.cells #[.slice a len cap] 25))=U at *
 go_cut [6,7] from 13 (fun s4 s5 W=>CutK w W cs rows (fullS rows) s4 s5)
 case first =>
  have hdr:Below U.heap.size U U.drew:=by go_grown
  refine wp_region_held_drew (S:=(fun w'=>w'.cell? ⟨w.heap.size,0,none⟩=some (.slice a len cap))) (by kernel_rfl) (by simpa using pP.cell 0) (fun hS0=>?_)
  refine tkm 0 14 (.agg #[.slice a len cap]) ?_
  have pP9:=pP.below hdr
  replace bw:=bel_trans bw hdr
  clear hdr
  generalize U.drew=V at *
  have bt:Below V.heap.size V V:=Below.refl _ _
  refine wpAnyH_ready (rs:=[1,6]) (by kernel_rfl) (by simp) ?_
  refine AllReadyH.cons (o:=⟨some 15,_,_,_,_,_⟩) rfl (fun K hK=>?_) (AllReadyH.cons (o:=⟨some 6,_,_,_,_,_⟩) rfl (fun K hK=>?_) AllReadyH.nil)
  ·go_simp
   refine (kN V).mono ?_
   rintro e V1 ⟨⟨⟨⟨t0a,t0n,t0c⟩,⟨t1a,t1n,t1c⟩,⟨t2a,t2n,t2c⟩,⟨t3a,t3n,t3c⟩⟩,rfl,hO⟩,hb1⟩
   have ut:S4.val ((t0a,t0n,t0c),(t1a,t1n,t1c),(t2a,t2n,t2c),(t3a,t3n,t3c))=.agg #[.slice t0a t0n t0c,.slice t1a t1n t1c,.slice t2a t2n t2c,.slice t3a t3n t3c]:=rfl
   rw [ut]
   have bt:=bel_trans bt hb1
   go_wp2_with fail
   refine hK.out _ _ (cells_kept bt _ _ hS0) (fun hS1=>?_)
   clear hK
   try simp only [Act.put,tka,tkb,tkc]
   refine wpAnyH_ready (rs:=[2,6]) (by kernel_rfl) (by simp) ?_
   refine AllReadyH.cons (o:=⟨some 16,_,_,_,_,_⟩) rfl (fun K hK=>?_) (AllReadyH.cons (o:=⟨some 6,_,_,_,_,_⟩) rfl (fun K hK=>?_) AllReadyH.nil)
   ·have kx:=kS V1 (bel_trans bw bt) ((t0a,t0n,t0c),(t1a,t1n,t1c),(t2a,t2n,t2c),(t3a,t3n,t3c)) (hO.mem fz)
    rw [ut] at kx
    go_simp
    refine kx.mono ?_
    rintro e V2 ⟨va9,nb,cs',L,rfl,sp,hLF,hR',hb2⟩
    obtain rfl:=(hR.below (bel_trans bw bt)).uniq hR'
    have hBv:w.heap.size≤V1.heap.size:=Nat.le_trans bw.size bt.size
    obtain ⟨va8,vn8,vc8,hva⟩:=own_slice6 sp.row
    have bt:=bel_trans bt hb2
    go_wp2_with fail
    refine hK.out _ _ (cells_kept bt _ _ hS0) (fun hS2=>?_)
    clear hK kx
    try simp only [Act.put,tka,tkb,tkc]
    refine tkm 3 13 (.tuple #[.agg #[va9,.map (some nb)],.int .i64 0]) ?_
    refine tkm 4 17 (.agg #[va9,.map (some nb)]) ?_
    refine tkm 5 18 (.int .i64 0) ?_
    refine tkr 6 6 (fun K hK=>?_)
    have hb3:Below V2.heap.size V2 (V2.alloc (.cells #[.slice none 0 0,.map none] 111)):=by go_grown
    have pX:Blk (V2.alloc (.cells #[.slice none 0 0,.map none] 111)) V2.heap.size 111 [.slice none 0 0,.map none]:=blkAt _ _ _ rfl
    have hXB:w.heap.size≤V2.heap.size:=Nat.le_trans bw.size bt.size
    replace sp:=sp.below hb3
    have bt:=bel_trans bt hb3
    go_simp
    refine hK.out _ _ (cells_kept bt _ _ hS0) (fun hS3=>?_)
    clear hK
    generalize (V2.alloc (.cells #[.slice none 0 0,.map none] 111))=V3 at *
    obtain ⟨X,hX⟩:∃ X,X=V2.heap.size:=⟨_,rfl⟩
    rw [← hX] at pX hXB ⊢
    clear hX
    try simp only [Act.put,tka,tkb,tkc]
    subst hva
    refine tkz 7 (fun K hK=>?_)
    refine step_store_blkD rfl 111 _ _ rfl X [.slice va8 vn8 vc8,.map (some nb)] rfl rfl pX (by kernel_rfl) rfl rfl ?_
    intro V9 pX9 g9
    have bz:=(bel_trans bw bt).grown g9 (bel_trans bw bt).size (fun q e=>by cases e;exact hXB)
    replace sp:=sp.grown g9 pX (by decide) (by decide)
    have hXP:X≠w.heap.size:=blk_ne pX (pP9.below bt) (by decide)
    have c9:=cells_kept bt _ _ hS0
    refine hK.out _ _ (cell_grownB g9 c9 (by simp;omega)) (fun hS4=>?_)
    clear hK
    try simp only [Act.put,tka,tkb,tkc]
    refine tkm 8 7 (.int .i64 0) ?_
    refine wpAnyH_done (by kernel_rfl) ?_ _
    go_wp2_with fail
    go_meet
    case rel=>exact CutK.mk9 (va:=.slice none 0 0) rfl rfl pX9.out sp hLF hXB hBv bz
   ·have hb3:Below V1.heap.size V1 (V1.alloc (.cells #[.slice none 0 0,.map none] 111)):=by go_grown
    have pX:Blk (V1.alloc (.cells #[.slice none 0 0,.map none] 111)) V1.heap.size 111 [.slice none 0 0,.map none]:=blkAt _ _ _ rfl
    have hXB:w.heap.size≤V1.heap.size:=Nat.le_trans bw.size bt.size
    replace hO:=hO.below hb3
    have bt:=bel_trans bt hb3
    go_simp
    refine hK.out _ _ (cells_kept bt _ _ hS0) (fun hS3=>?_)
    clear hK
    generalize (V1.alloc (.cells #[.slice none 0 0,.map none] 111))=V2 at *
    obtain ⟨X,hX⟩:∃ X,X=V1.heap.size:=⟨_,rfl⟩
    rw [← hX] at pX hXB ⊢
    clear hX
    try simp only [Act.put,tka,tkb,tkc]
    refine tkr 2 16 (fun K hK=>?_)
    have kx:=kS V2 (bel_trans bw bt) ((t0a,t0n,t0c),(t1a,t1n,t1c),(t2a,t2n,t2c),(t3a,t3n,t3c)) (hO.mem fz)
    rw [ut] at kx
    go_simp
    refine kx.mono ?_
    rintro e V3 ⟨va9,nb,cs',L,rfl,sp,hLF,hR',hb2⟩
    obtain rfl:=(hR.below (bel_trans bw bt)).uniq hR'
    have hBv:w.heap.size≤V2.heap.size:=Nat.le_trans bw.size bt.size
    obtain ⟨va8,vn8,vc8,hva⟩:=own_slice6 sp.row
    replace pX:=pX.below hb2
    have bt:=bel_trans bt hb2
    go_wp2_with fail
    refine hK.out _ _ (cells_kept bt _ _ hS0) (fun hS2=>?_)
    clear hK kx
    try simp only [Act.put,tka,tkb,tkc]
    refine tkm 3 13 (.tuple #[.agg #[va9,.map (some nb)],.int .i64 0]) ?_
    refine tkm 4 17 (.agg #[va9,.map (some nb)]) ?_
    refine tkm 5 18 (.int .i64 0) ?_
    subst hva
    refine tkz 7 (fun K hK=>?_)
    refine step_store_blkD rfl 111 _ _ rfl X [.slice va8 vn8 vc8,.map (some nb)] rfl rfl pX (by kernel_rfl) rfl rfl ?_
    intro V9 pX9 g9
    have bz:=(bel_trans bw bt).grown g9 (bel_trans bw bt).size (fun q e=>by cases e;exact hXB)
    replace sp:=sp.grown g9 pX (by decide) (by decide)
    have hXP:X≠w.heap.size:=blk_ne pX (pP9.below bt) (by decide)
    have c9:=cells_kept bt _ _ hS0
    refine hK.out _ _ (cell_grownB g9 c9 (by simp;omega)) (fun hS4=>?_)
    clear hK
    try simp only [Act.put,tka,tkb,tkc]
    refine tkm 8 7 (.int .i64 0) ?_
    refine wpAnyH_done (by kernel_rfl) ?_ _
    go_wp2_with fail
    go_meet
    case rel=>exact CutK.mk9 (va:=.slice none 0 0) rfl rfl pX9.out sp hLF hXB hBv bz
  ·have hb3:Below V.heap.size V (V.alloc (.cells #[.slice none 0 0,.map none] 111)):=by go_grown
   have pX:Blk (V.alloc (.cells #[.slice none 0 0,.map none] 111)) V.heap.size 111 [.slice none 0 0,.map none]:=blkAt _ _ _ rfl
   have hXB:w.heap.size≤V.heap.size:=Nat.le_trans bw.size bt.size
   have bt:=bel_trans bt hb3
   go_simp
   refine hK.out _ _ (cells_kept bt _ _ hS0) (fun hS3=>?_)
   clear hK
   generalize (V.alloc (.cells #[.slice none 0 0,.map none] 111))=V1 at *
   obtain ⟨X,hX⟩:∃ X,X=V.heap.size:=⟨_,rfl⟩
   rw [← hX] at pX hXB ⊢
   clear hX
   try simp only [Act.put,tka,tkb,tkc]
   refine tkr 1 15 (fun K hK=>?_)
   go_simp
   refine (kN V1).mono ?_
   rintro e V2 ⟨⟨⟨⟨t0a,t0n,t0c⟩,⟨t1a,t1n,t1c⟩,⟨t2a,t2n,t2c⟩,⟨t3a,t3n,t3c⟩⟩,rfl,hO⟩,hb1⟩
   have ut:S4.val ((t0a,t0n,t0c),(t1a,t1n,t1c),(t2a,t2n,t2c),(t3a,t3n,t3c))=.agg #[.slice t0a t0n t0c,.slice t1a t1n t1c,.slice t2a t2n t2c,.slice t3a t3n t3c]:=rfl
   rw [ut]
   have bt:=bel_trans bt hb1
   go_wp2_with fail
   refine hK.out _ _ (cells_kept bt _ _ hS0) (fun hS1=>?_)
   clear hK
   try simp only [Act.put,tka,tkb,tkc]
   replace pX:=pX.below hb1
   refine tkr 2 16 (fun K hK=>?_)
   have kx:=kS V2 (bel_trans bw bt) ((t0a,t0n,t0c),(t1a,t1n,t1c),(t2a,t2n,t2c),(t3a,t3n,t3c)) (hO.mem fz)
   rw [ut] at kx
   go_simp
   refine kx.mono ?_
   rintro e V3 ⟨va9,nb,cs',L,rfl,sp,hLF,hR',hb2⟩
   obtain rfl:=(hR.below (bel_trans bw bt)).uniq hR'
   have hBv:w.heap.size≤V2.heap.size:=Nat.le_trans bw.size bt.size
   obtain ⟨va8,vn8,vc8,hva⟩:=own_slice6 sp.row
   replace pX:=pX.below hb2
   have bt:=bel_trans bt hb2
   go_wp2_with fail
   refine hK.out _ _ (cells_kept bt _ _ hS0) (fun hS2=>?_)
   clear hK kx
   try simp only [Act.put,tka,tkb,tkc]
   refine tkm 3 13 (.tuple #[.agg #[va9,.map (some nb)],.int .i64 0]) ?_
   refine tkm 4 17 (.agg #[va9,.map (some nb)]) ?_
   refine tkm 5 18 (.int .i64 0) ?_
   subst hva
   refine tkz 7 (fun K hK=>?_)
   refine step_store_blkD rfl 111 _ _ rfl X [.slice va8 vn8 vc8,.map (some nb)] rfl rfl pX (by kernel_rfl) rfl rfl ?_
   intro V9 pX9 g9
   have bz:=(bel_trans bw bt).grown g9 (bel_trans bw bt).size (fun q e=>by cases e;exact hXB)
   replace sp:=sp.grown g9 pX (by decide) (by decide)
   have hXP:X≠w.heap.size:=blk_ne pX (pP9.below bt) (by decide)
   have c9:=cells_kept bt _ _ hS0
   refine hK.out _ _ (cell_grownB g9 c9 (by simp;omega)) (fun hS4=>?_)
   clear hK
   try simp only [Act.put,tka,tkb,tkc]
   refine tkm 8 7 (.int .i64 0) ?_
   refine wpAnyH_done (by kernel_rfl) ?_ _
   go_wp2_with fail
   go_meet
   case rel=>exact CutK.mk9 (va:=.slice none 0 0) rfl rfl pX9.out sp hLF hXB hBv bz
 obtain ⟨X,va,vc,nb,L,rfl,rfl,pX,sp,hLF,hXB,bz⟩:=hcut
 clear kS kN bw pP fz
 have cX1:wc.cell? ⟨X,1,none⟩=some (.map (some nb)):=by simpa using pX.cell 1
 obtain ⟨D,hm,hN⟩:=sp.map
 have hhas:Maps.has D (.string s.data.toList)=inK rows s:=by
  rw [Bool.eq_iff_iff,hN.has s,hLF,hik]
 clear hN hik hLF sp pX hXB
 obtain ⟨b,hb9⟩:∃ b,b=inK rows s:=⟨_,rfl⟩
 rw [← hb9] at hhas
 have HB:Hid (b=inK rows s):=hb9
 clear hb9
 go_wp2_with (at_lookup;refine wpList_lookup_own_ok_int _ rfl _ _ 109 rfl 9 3 .i64 law_str6 Tryz.underlying109 Tryz.underlying3 (zero_int6 _) nb L.length D rfl hm _ _ rfl hkey ?_;intro c hat hwc)
 clear hat hwc
 refine bodyPost_ret (by simp [results,Tryz.results30,go_sem];try rfl) rfl ?_
 exact ⟨by rw [HB.out],bz⟩

theorem implIsReached_is (a:Option Addr) (len cap:Nat) (rows:List (List I3)) (s:ByteArray) (w:World) (hC:Codes w a len cap rows) (hV:VmShape w) :
  Calls Tryz.prog 30 #[.agg #[.slice a len cap],.string s] w fun e w'=>e=.returned (.tuple #[.bool (reachV rows s),.int .i64 (reachC rows s)])∧Below w.heap.size w w':=by
 unfold reachV reachC
 by_cases hs:65536<s.size
 ·rw [if_pos hs,if_pos hs]
  exact implIsReached_long a len cap s w hs
 ·rw [if_neg hs,if_neg hs]
  by_cases h:codeF rows=0
  ·rw [if_pos h,h]
   exact implIsReached_ok a len cap rows s w hC hV hs h
  ·rw [if_neg h]
   exact implIsReached_not a len cap rows s w hC hV hs h


def keyA (m:V4):ByteArray:=if shapeOk m then keyT m else ByteArray.empty
def keyC (m:V4):Int:=if shapeOk m then 0 else 1
theorem implKeyOf_is (s:S4) (m:V4) (w:World) (h:Vmem w s m) (hV:VmShape w) :
  Calls Tryz.prog 29 #[s.val] w fun e w'=>e=.returned (.tuple #[.string (keyA m),.int .i64 (keyC m)])∧Below w.heap.size w w':=by
 unfold keyA keyC
 cases hok:shapeOk m
 ·exact implKeyOf_bad s m w h hok hV
 ·exact implKeyOf_ok s m w h hok hV


def goesTo (rows:List (List I3)) (ks:List Int) (m:V4):Prop:=(runI rows zeroV [] ks).2.2=0∧(runI rows zeroV [] ks).1=m
theorem runI_snoc (rows:List (List I3)) (k:Int):∀ (ks:List Int) (m:V4) (fs:List I3),(runI rows m fs ks).2.2=0→runI rows m fs (ks++[k])=runI rows (runI rows m fs ks).1 (runI rows m fs ks).2.1 [k]
 | [],m,fs,_=>rfl
 | j::ks,m,fs,h=>by
  by_cases hz:haltM rows m j=0
  ·have e1:∀ l,runI rows m fs (j::l)=runI rows (goM rows m j).1 (fs++ownM rows m j) l:=fun l=>by
    show (if haltM rows m j=0 then _ else _)=_
    rw [if_pos hz]
   rw [e1] at h
   rw [List.cons_append,e1,e1]
   exact runI_snoc rows k ks _ _ h
  ·have e1:runI rows m fs (j::ks)=(m,fs,haltM rows m j):=by
    show (if haltM rows m j=0 then _ else _)=_
    rw [if_neg hz]
   rw [e1] at h
   exact absurd h hz
theorem goesTo.snoc {rows:List (List I3)} {ks:List Int} {m:V4} {k:Nat} (h:goesTo rows ks m) (hk:k<3) (hc:canM rows m k=true):goesTo rows (ks++[(k:Int)]) (stepM m (insM rows m k) k).1:=by
 have hz:haltM rows m (k:Int)=0:=by
  have hd:=(can_parts hc).1
  unfold haltM
  rw [if_pos (by omega),Int.toNat_natCast]
  simp [hd,hc]
 have e:=runI_snoc rows (k:Int) ks zeroV [] h.1
 rw [h.2] at e
 have e2:runI rows m (runI rows zeroV [] ks).2.1 [(k:Int)]=((goM rows m k).1,(runI rows zeroV [] ks).2.1++ownM rows m k,0):=by
  show (if haltM rows m k=0 then _ else _)=_
  rw [if_pos hz]
  rfl
 rw [e2] at e
 unfold goesTo
 rw [e,goM_nat]
 exact ⟨rfl,rfl⟩
theorem own_apart_ne {w:World} {B e s n g t:Nat} {v:Value} {xs cs:List Value} (h:w.ownsRow B e s v n xs) (hB:Blk w g t cs) (he:e≠t):v.ownBlock≠some g:=own_ne_blk h hB he
theorem below_growS {p:Nat} {w w':World} {r:Option Nat} (h:w.grownBy w' r) (hr:∀ k,r=some k→p≤k) (hp:p≤w.heap.size):Below p w w':=⟨h.os,h.tape,h.output,h.size,fun k hk=>h.block k (by omega) (fun e=>by have:=hr k e.symm;omega)⟩
theorem own_kept_ltS {w w':World} {b N e s n:Nat} {v:Value} {xs:List Value} {r:Option Nat} (h:w.ownsRow b e s v n xs) (hg:w.grownBy w' r) (hr:∀ j,r=some j→j<N) (hN:N≤b):w'.ownsRow b e s v n xs:=by
 refine h.kept hg ?_
 cases hv:v.ownBlock with
 | none=>exact .inl rfl
 | some j=>exact .inr fun e=>by have h1:=(h.lt j hv).1;have h2:=hr j e.symm;omega
theorem OwnV.kept_ltS {w w':World} {B b N:Nat} {t:S4} {m:V4} {r:Option Nat} (h:OwnV w b t m) (hg:w.grownBy w' r) (hr:∀ j,r=some j→j<N) (hB:B≤b) (hN:N≤b):OwnV w' B t m:=
 ⟨⟨own_lowerB (own_kept_ltS h.1.1 hg hr hN) hB,own_lowerB (own_kept_ltS h.1.2.1 hg hr hN) hB,own_lowerB (own_kept_ltS h.1.2.2.1 hg hr hN) hB,own_lowerB (own_kept_ltS h.1.2.2.2 hg hr hN) hB⟩,h.2⟩
def OnSch (w wr:World) (p:Nat) (cd:Value) (a:Option Addr) (n cap T X5:Nat) (aP:Option Addr) (capP:Nat) (rows:List (List I3)) (t:S4) (m:V4) (v:Value) (ks:List Int):Prop:=
 Src wr p cd T∧Code wr p a n cap∧p<wr.heap.size∧Went p w wr∧Blk wr w.heap.size 25 [.slice aP 3 capP]∧Blk wr X5 33 (vmC t)∧OwnV wr (w.heap.size+1) t m∧Hid (shapeOk m=true)∧wr.ownsRow (w.heap.size+1) 3 1 v ks.length (ks.map (Value.int .i64))∧Hid (goesTo rows ks m)∧w.heap.size<X5∧∃ g c,v=.slice (some ⟨g,0,none⟩) ks.length c
def SchdGot (e:Ending) (w:World) (B:Nat) (rows:List (List I3)):Prop:=∃ (v:Value) (ks:List Int) (m:V4),(∃ g c,v=.slice (some ⟨g,0,none⟩) ks.length c)∧e=.returned v∧w.ownsRow B 3 1 v ks.length (ks.map (Value.int .i64))∧ks.length≤14∧goesTo rows ks m

theorem schedule_any (p T:Nat) (a:Option Addr) (n cap:Nat) (aP:Option Addr) (capP:Nat) (rows:List (List I3)) (w:World) (hS:Src w p (.slice a n cap) T) (hC:Code w p a n cap) (hT:T≤800000) (hok:progOk rows=true)
  (hPr:∀ W,Below p w W→Codes W aP 3 capP rows) :
  Calls Tryz.prog 50 #[.pointer (some ⟨p,0,none⟩),.agg #[.slice aP 3 capP]] w fun e w'=>SchdGot e w' w.heap.size rows∧Below p w w':=by
 obtain ⟨i0,hi9,hz0,hz1,hz2⟩:=info_parts info_int
 have hpw:p<w.heap.size:=hS.lt
 have HOK:Hid (progOk rows=true):=hok
 clear hok
 have hW1:Went p w (w.alloc (.cells #[.slice aP 3 capP] 25)):=(Went.refl p w).alloc _
 have pP:Blk (w.alloc (.cells #[.slice aP 3 capP] 25)) w.heap.size 25 [.slice aP 3 capP]:=blkAt _ _ _ rfl
 have hS1:=hS.alloc (.cells #[.slice aP 3 capP] 25)
 have hC1:=hC.below (hW1.below (Nat.le_of_lt hpw))
 have hsz:(w.alloc (.cells #[.slice aP 3 capP] 25)).heap.size=w.heap.size+1:=by simp
 go_enter Tryz.func50,Tryz.ntmps50
 go_wp2_with fail
 generalize (w.alloc (.cells #[.slice aP 3 capP] 25))=W1 at *
 refine (specNewVm_is W1).mono ?_
 rintro e w2 ⟨⟨t0,rfl,hO⟩,hb⟩
 obtain ⟨⟨a0,n0,k0⟩,⟨a1,n1,k1⟩,⟨a2,n2,k2⟩,⟨a3,n3,k3⟩⟩:=t0
 have uA:S4.val ((a0,n0,k0),(a1,n1,k1),(a2,n2,k2),(a3,n3,k3))=.agg #[.slice a0 n0 k0,.slice a1 n1 k1,.slice a2 n2 k2,.slice a3 n3 k3]:=rfl
 rw [uA]
 rw [hsz] at hO
 have hp1:p<W1.heap.size:=by omega
 have hW2:=hW1.trans (Went.of_below hb)
 have pP2:=pP.below hb
 have hS2:=hS1.belowD hb
 have hC2:=hC1.below (hb.mono (Nat.le_of_lt hp1))
 have hp2:p<w2.heap.size:=Nat.lt_of_lt_of_le hp1 hb.size
 have hw2:w.heap.size<w2.heap.size:=pP2.lt
 clear hb hW1 pP hS1 hC1 hp1 uA hsz
 have bA:Below w2.heap.size w2 ((w2.alloc (.cells #[.slice a0 n0 k0,.slice a1 n1 k1,.slice a2 n2 k2,.slice a3 n3 k3] 33)).alloc (.cells #[] 3)):=by go_grown
 have pX:Blk ((w2.alloc (.cells #[.slice a0 n0 k0,.slice a1 n1 k1,.slice a2 n2 k2,.slice a3 n3 k3] 33)).alloc (.cells #[] 3)) w2.heap.size 33 [.slice a0 n0 k0,.slice a1 n1 k1,.slice a2 n2 k2,.slice a3 n3 k3]:=blkOld _ (blkAt _ _ _ rfl)
 have q:((w2.alloc (.cells #[.slice a0 n0 k0,.slice a1 n1 k1,.slice a2 n2 k2,.slice a3 n3 k3] 33)).alloc (.cells #[] 3)).ownsRow (w.heap.size+1) 3 1 (.slice (some ⟨w2.heap.size+1,0,none⟩) 0 0) 0 []:=by
  have h9:=own_emptyB (w2.alloc (.cells #[.slice a0 n0 k0,.slice a1 n1 k1,.slice a2 n2 k2,.slice a3 n3 k3] 33)) 3 1 (w.heap.size+1) (by simp;omega)
  simpa using h9
 have hWay:OnSch w ((w2.alloc (.cells #[.slice a0 n0 k0,.slice a1 n1 k1,.slice a2 n2 k2,.slice a3 n3 k3] 33)).alloc (.cells #[] 3)) p (.slice a n cap) a n cap T w2.heap.size aP capP rows ((a0,n0,k0),(a1,n1,k1),(a2,n2,k2),(a3,n3,k3)) zeroV (.slice (some ⟨w2.heap.size+1,0,none⟩) 0 0) []:=⟨hS2.belowD bA,hC2.below (bA.mono (Nat.le_of_lt hp2)),by simp;omega,hW2.trans (Went.of_below bA),pP2.below bA,pX,hO.below bA,zero_shape,q,⟨rfl,rfl⟩,hw2,_,_,rfl⟩
 clear bA pX hS2 hC2 hW2 pP2 hO q
 go_wp2_with fail
 generalize ((w2.alloc (.cells #[.slice a0 n0 k0,.slice a1 n1 k1,.slice a2 n2 k2,.slice a3 n3 k3] 33)).alloc (.cells #[] 3))=W3 at *
 generalize w2.heap.size+1=g0 at *
 generalize w2.heap.size=X5 at *
 obtain ⟨hSr,hCd,hpU,hWn,pP,pX,hO,HS,q,HG,hX5,_⟩:=hWay
 refine (next_any p T a n cap 14 W3 hSr hCd (by omega) (by omega)).mono ?_
 rintro e w4 ⟨⟨v,hv,rfl⟩,hSr4,hst⟩
 have hWay:OnSch w w4 p (.slice a n cap) a n cap (T+3) X5 aP capP rows ((a0,n0,k0),(a1,n1,k1),(a2,n2,k2),(a3,n3,k3)) zeroV (.slice (some ⟨g0,0,none⟩) 0 0) []:=⟨hSr4,hCd.went hst (Nat.le_of_lt hpU),Nat.lt_of_lt_of_le hpU hst.size,hWn.trans hst,pP.went hst (by omega),pX.went hst (by omega),hO.went hst (by omega),HS,owns_wn q hst (by omega),HG,hX5,_,_,rfl⟩
 have hv14:v≤14:=by omega
 clear hSr hCd hpU hWn pP pX hO HS hSr4 hst hv q HG
 go_wp2_with fail
 go_loopw [6,7] (fun so si wr=>∃ (i TT:Nat) (t:S4) (m:V4) (ks:List Int) (vo:Value),vo=so∧si=.int .i64 i∧i≤14∧TT≤T+3+(14 - i)*3∧ks.length+i≤14∧OnSch w wr p (.slice a n cap) a n cap TT X5 aP capP rows t m vo ks) (fun _ si _=>(intOf si).toNat)
 case atStart=>exact ⟨v,T+3,_,_,[],_,rfl,rfl,hv14,by omega,by simpa using hv14,hWay⟩
 case round =>
  clear hWay hv14
  obtain ⟨i,TT,t,m,ks,so,rfl,rfl,hi,hTT,hki,hSr,hCd,hpU,hWn,pP,pX,hO,HS,q,HG,hX5,hsm⟩:=hrel
  have HSM:Hid (∃ g c,so=.slice (some ⟨g,0,none⟩) ks.length c):=hsm
  clear hsm
  have hpX:p≠X5:=by omega
  obtain ⟨⟨a0,n0,k0⟩,⟨a1,n1,k1⟩,⟨a2,n2,k2⟩,⟨a3,n3,k3⟩⟩:=t
  unfold vmC at pX
  simp only at pX
  have HE:Hid (∀ W,Below wr.heap.size wr W→∀ v9:Value,v9=so→SchdGot (.returned v9) W w.heap.size rows∧Below p w W):=fun W b v9 e9=>⟨⟨v9,ks,m,by rw [e9];exact HSM.out,rfl,by rw [e9];exact own_lowerB (owns_below q b) (by omega),by omega,HG.out⟩,(hWn.trans (Went.of_below b)).below (Nat.le_of_lt hpw)⟩
  by_cases hi0:i=0
  ·subst hi0
   have hE:=HE.out wr (Below.refl _ _) _ rfl
   clear hSr hCd hWn hO HS pP HE q HG pX
   go_wp2_with fail
   go_ret
   exact hE
  ·have hip:(0:Int)<(i:Int):=by omega
   obtain ⟨_,cs,hR⟩:=(hPr wr (hWn.below (Nat.le_of_lt hpw))).rowsAt HOK.out
   have hM:=hO.mem (shape_fits9 HS.out).1
   have kE:=l03Enabled_is aP 3 capP rows _ m cs wr rfl hR hM HOK.out HS.out
   have uA:S4.val ((a0,n0,k0),(a1,n1,k1),(a2,n2,k2),(a3,n3,k3))=.agg #[.slice a0 n0 k0,.slice a1 n1 k1,.slice a2 n2 k2,.slice a3 n3 k3]:=rfl
   rw [uA] at kE
   clear uA hM hR
   go_wp2_with (first | refine wpList_load_blk rfl 25 _ rfl w.heap.size rfl pP _ Tryz.underlying25 rfl (by kernel_rfl) ?_ | refine wpList_load_blk rfl 33 _ rfl X5 rfl pX _ Tryz.underlying33 rfl (by kernel_rfl) ?_)
   refine kE.mono ?_
   rintro e w5 ⟨⟨⟨la,ll,lc⟩,rfl,hLi⟩,hb⟩
   clear kE
   have hl:(enabM rows m 3).length=ll:=hLi.ints.1
   by_cases hL0:ll=0
   ·subst hL0
    have hE:=HE.out w5 hb _ rfl
    clear hSr hCd hWn hO HS pP HE q HG pX hLi hl hb
    go_wp2_with fail
    go_ret
    exact hE
   have hwr:w.heap.size+1≤wr.heap.size:=pP.lt
   replace hSr:=hSr.belowD hb
   replace hCd:=hCd.below (hb.mono (Nat.le_of_lt hpU))
   replace hWn:=hWn.trans (Went.of_below hb)
   replace pP:=pP.below hb
   replace pX:=pX.below hb
   replace hO:=hO.below hb
   replace q:=owns_below q hb
   have hLi2:OwnI w5 (w.heap.size+1) (la,ll,lc) (enabM rows m 3):=own_lower hLi hwr
   replace hpU:p<w5.heap.size:=Nat.lt_of_lt_of_le hpU hb.size
   clear hb hLi HE hwr
   have hLz:((ll:Int) == 0)=false:=by simp;omega
   have hL3:ll≤3:=by rw [← hl];exact enabM_len rows m 3
   obtain ⟨lg,lc2,hsl,_,_⟩:=hLi2.some9 hl (by omega)
   cases hsl
   have HAT:Hid (∀ j,j<ll→∃ k:Nat,(enabM rows m 3).getD j 0=k∧k<3∧canM rows m k=true):=fun j hj=>enab_at (by omega)
   clear hl
   obtain ⟨es,hes⟩:∃ es,es=enabM rows m 3:=⟨_,rfl⟩
   rw [← hes] at HAT hLi2
   clear hes
   go_wp2_with fail
   refine (next_any p TT a n cap (ll:Int) w5 hSr hCd (by omega) (by omega)).mono ?_
   rintro e w6 ⟨⟨v,hv,rfl⟩,hSn,hst⟩
   have hvl:v<ll:=by omega
   have hvi:(v:Int)<(ll:Int):=by omega
   have hv0:(0:Int)≤(v:Int):=by omega
   obtain ⟨kk,hkk,hk3,hcan⟩:=HAT.out v hvl
   have HCN:Hid (canM rows m kk=true):=hcan
   replace hSr:=hSn
   replace hCd:=hCd.went hst (Nat.le_of_lt hpU)
   replace hpU:p<w6.heap.size:=Nat.lt_of_lt_of_le hpU hst.size
   replace hWn:=hWn.trans hst
   replace pP:=pP.went hst (by omega)
   replace pX:=pX.went hst (by omega)
   replace hO:=hO.went hst (by omega)
   replace q:=owns_wn q hst (by omega)
   replace hLi2:=hLi2.went hst (by omega)
   have hcv:=hLi2.at9 hvl
   rw [hkk] at hcv
   clear hst hSn hv hcan HAT hkk hLi2 hLz
   obtain ⟨_,cs,hR⟩:=(hPr w6 (hWn.below (Nat.le_of_lt hpw))).rowsAt HOK.out
   have hM:=hO.mem (shape_fits9 HS.out).1
   have hsh:=shape_step HOK.out HS.out hk3 (can_parts HCN.out).1
   have kT:=l03Step_is (cap:=capP) rfl hR hM HOK.out HS.out hk3 (can_parts HCN.out).1
   have HG2:Hid (goesTo rows (ks++[(kk:Int)]) (stepM m (insM rows m kk) kk).1):=HG.out.snoc hk3 HCN.out
   have uA:S4.val ((a0,n0,k0),(a1,n1,k1),(a2,n2,k2),(a3,n3,k3))=.agg #[.slice a0 n0 k0,.slice a1 n1 k1,.slice a2 n2 k2,.slice a3 n3 k3]:=rfl
   rw [uA] at kT
   generalize (stepM m (insM rows m kk) kk).1=mm at *
   generalize (stepM m (insM rows m kk) kk).2=fd at *
   have HS2:Hid (shapeOk mm=true):=hsh
   clear hM hR uA hsh HCN HG HS
   go_wp2_with (first | refine wpList_load_blk rfl 25 _ rfl w.heap.size rfl pP _ Tryz.underlying25 rfl (by kernel_rfl) ?_ | refine wpList_load_blk rfl 33 _ rfl X5 rfl pX _ Tryz.underlying33 rfl (by kernel_rfl) ?_)
   refine kT.mono ?_
   rintro e w7 ⟨⟨⟨⟨b0,m0,q0⟩,⟨b1,m1,q1⟩,⟨b2,m2,q2⟩,⟨b3,m3,q3⟩⟩,rfl,hO2⟩,hb⟩
   have uC:S4.val ((b0,m0,q0),(b1,m1,q1),(b2,m2,q2),(b3,m3,q3))=.agg #[.slice b0 m0 q0,.slice b1 m1 q1,.slice b2 m2 q2,.slice b3 m3 q3]:=rfl
   rw [uC]
   clear uC kT hcv
   have hN6:w.heap.size+1≤w6.heap.size:=pP.lt
   have hqlt:∀ j,so.ownBlock=some j→j<w6.heap.size:=fun j hj=>(q.lt j hj).2
   have bA:Below w7.heap.size w7 (w7.alloc (.cells #[.slice b0 m0 q0,.slice b1 m1 q1,.slice b2 m2 q2,.slice b3 m3 q3] 33)):=by go_grown
   have pY:Blk (w7.alloc (.cells #[.slice b0 m0 q0,.slice b1 m1 q1,.slice b2 m2 q2,.slice b3 m3 q3] 33)) w7.heap.size 33 [.slice b0 m0 q0,.slice b1 m1 q1,.slice b2 m2 q2,.slice b3 m3 q3]:=blkAt _ _ _ rfl
   have b67:=bel_trans hb bA
   replace hSr:=hSr.belowD b67
   replace hCd:=hCd.below (b67.mono (Nat.le_of_lt hpU))
   replace hWn:=hWn.trans (Went.of_below b67)
   replace pP:=pP.below b67
   replace pX:=pX.below b67
   replace q:=owns_below q b67
   replace hO2:=hO2.below bA
   replace hpU:p<(w7.alloc (.cells #[.slice b0 m0 q0,.slice b1 m1 q1,.slice b2 m2 q2,.slice b3 m3 q3] 33)).heap.size:=Nat.lt_of_lt_of_le hpU b67.size
   clear b67 bA hb hO
   go_wp2_with (first | refine wpList_load_blk rfl 33 _ rfl w7.heap.size rfl pY _ Tryz.underlying33 rfl (by kernel_rfl) ?_ | refine wpList_store_blk rfl 33 _ _ rfl X5 [.slice b0 m0 q0,.slice b1 m1 q1,.slice b2 m2 q2,.slice b3 m3 q3] rfl rfl pX (by kernel_rfl) rfl rfl ?_)
   intro w9 pX9 g9
   have hne2:X5≠w.heap.size:=by omega
   replace hSr:=hSr.grown g9 (fun k e=>by cases e;omega)
   replace hCd:=hCd.below (grown_below g9 (show p≤X5 by omega) (Nat.le_of_lt hpU))
   replace hpU:p<w9.heap.size:=Nat.lt_of_lt_of_le hpU g9.size
   replace hWn:=hWn.grown g9 (fun k e=>by cases e;omega)
   replace pP:=pP.kept g9 (fun e=>hne2 (by cases e;rfl))
   replace hO2:=hO2.kept9 g9 pX (by decide)
   replace q:=q.kept g9 (own_apart_blk q pX (by decide))
   have pX:=pX9.out
   clear g9 pX9 pY
   have hln:ks.length≤14:=by omega
   have ha:Below w9.heap.size w9 (w9.alloc (.cells #[.int .i64 (kk:Int)] 3)):=by go_grown
   have hw9:w.heap.size+1≤w9.heap.size:=pP.lt
   go_wp2_with (at_builtin;refine wpList_append_own _ rfl _ _ 27 rfl (w.heap.size+1) 3 i0 (.int .i64 0) 1 8 Tryz.underlying27 hi9 hz0 hz1 hz2 rfl (by decide) _ _ _ rfl (q.alloc _) ⟨w9.heap.size,0,none⟩ 1 1 [.int .i64 (kk:Int)] rfl rfl (cell_one_new _ _ _) (by simp [Value.oneCell']) ?c3 ?c4 ?c5 ?_)
   case c3=>unfold maxLen;omega
   case c4=>omega
   case c5=>simp;omega
   intro v9 wn q9 g9 _
   have hne:∀ j,so.ownBlock=some j→w.heap.size+1≤j:=fun j hj=>(q.lt j hj).1
   have R:wn.ownsRow (w.heap.size+1) 3 1 v9 (ks++[(kk:Int)]).length ((ks++[(kk:Int)]).map (Value.int .i64)):=by
    rw [List.length_append,List.map_append]
    exact q9
   have hsm2:=own_someB R (by rw [List.length_append];simp)
   have hWay:OnSch w wn p (.slice a n cap) a n cap (TT+3) X5 aP capP rows ((b0,m0,q0),(b1,m1,q1),(b2,m2,q2),(b3,m3,q3)) mm v9 (ks++[(kk:Int)]):=⟨(hSr.belowD ha).grown g9 (fun k e=>by have:=hne k e;omega),(hCd.below (ha.mono (Nat.le_of_lt hpU))).below (below_growS g9 (fun k e=>by have:=hne k e;omega) (by have:=ha.size;omega)),Nat.lt_of_lt_of_le hpU (Nat.le_trans ha.size g9.size),(hWn.trans (Went.of_below ha)).grown g9 (fun k e=>by have:=hne k e;omega),(pP.below ha).kept g9 (fun e=>by have:=hne _ e;omega),(pX.below ha).kept g9 (fun e=>own_apart_ne q pX (by decide) e),OwnV.kept_ltS (hO2.below ha) g9 hqlt hN6 (Nat.le_refl _),HS2,R,HG2,hX5,hsm2⟩
   clear q9 g9 R hsm2 hSr hCd hpU hWn pP pX hO2 HS2 HG2 q ha hne hqlt
   go_wp2
   go_roundw
   case rel=>exact ⟨i - 1,TT+3,_,mm,ks++[(kk:Int)],_,rfl,by go_num,by omega,by omega,by rw [List.length_append];simp;omega,hWay⟩
   case measure=>simp [intOf];omega


theorem scheduleDrawn_any (a:Option Addr) (n cap:Nat) (zs:List Int) (aP:Option Addr) (capP:Nat) (rows:List (List I3)) (w:World) (hI:IsRow .u8 w a n cap zs) (hn:n≤1048576) (hP:Codes w aP 3 capP rows) (hok:progOk rows=true) :
  Calls Tryz.prog 10 #[.slice a n cap,.agg #[.slice aP 3 capP]] w fun e w'=>SchdGot e w' w.heap.size rows∧Below w.heap.size w w':=by
 have hCo:=code_of hI hn
 have bw:Below w.heap.size w (w.alloc (.cells #[.slice aP 3 capP] 25)):=by go_grown
 have pP:Blk (w.alloc (.cells #[.slice aP 3 capP] 25)) w.heap.size 25 [.slice aP 3 capP]:=blkAt _ _ _ rfl
 go_enter Tryz.func10,Tryz.ntmps10
 go_wp2_with fail
 have hX:w.heap.size<(w.alloc (.cells #[.slice aP 3 capP] 25)).heap.size:=pP.lt
 generalize (w.alloc (.cells #[.slice aP 3 capP] 25))=W1 at *
 have bw1:=bw
 have cP:W1.cell? ⟨w.heap.size,0,none⟩=some (.slice aP 3 capP):=pP.cell 0
 refine wp_region_held_drew (S:=(fun w'=>w'.cell? ⟨w.heap.size,0,none⟩=some (.slice aP 3 capP))) (by kernel_rfl) cP (fun hS0=>?_)
 refine tkm 0 5 (.slice a n cap) ?_
 refine tkm 2 7 (.agg #[.slice aP 3 capP]) ?_
 refine tkr 1 6 (fun K hK=>?_)
 go_simp
 refine (l00Source_any a n cap W1.drew hn).mono ?_
 rintro e w2 ⟨rfl,hS,hb⟩
 replace hS:Src w2 W1.heap.size (.slice a n cap) 0:=hS
 replace hb:Below W1.heap.size W1 w2:=⟨hb.os,hb.tape,hb.output,hb.size,hb.block⟩
 have hpl:W1.heap.size<w2.heap.size:=hS.lt
 have hCd:Code w2 W1.heap.size a n cap:=by
  obtain ⟨zs',q1,q2,q3,q4⟩:=hCo
  exact ⟨zs',q1.below (bel_trans bw hb),q2,q3,fun x hx h0=>by have:=q4 x hx h0;have:=bw.size;omega⟩
 replace bw:=bel_trans bw hb
 replace pP:=pP.below hb
 have hPr:∀ W,Below W1.heap.size w2 W→Codes W aP 3 capP rows:=fun W h=>(hP.below bw1).below (hb.trans h)
 have cP2:w2.cell? ⟨w.heap.size,0,none⟩=some (.slice aP 3 capP):=pP.cell 0
 go_wp2_with fail
 refine hK.out _ _ cP2 (fun hS1=>?_)
 clear hK
 try simp only [Act.put,tka,tkb,tkc]
 refine tkr 3 8 (fun K hK=>?_)
 go_simp
 refine (schedule_any W1.heap.size 0 a n cap aP capP rows w2 hS hCd (by omega) hok hPr).mono ?_
 rintro e w3 ⟨⟨v,ks,m,hsm,rfl,q,hl,hg⟩,hb3⟩
 have cP3:w3.cell? ⟨w.heap.size,0,none⟩=some (.slice aP 3 capP):=(pP.belowB hb3 (by omega)).cell 0
 have hw2:w.heap.size≤w2.heap.size:=bw.size
 replace bw:Below w.heap.size w w3:=bw.trans (hb3.mono (by omega))
 go_wp2_with fail
 refine hK.out _ _ cP3 (fun hS2=>?_)
 clear hK
 try simp only [Act.put,tka,tkb,tkc]
 refine tkm 4 4 v ?_
 refine wpAnyH_done (by kernel_rfl) ?_ _
 have hG:SchdGot (.returned v) w3 w.heap.size rows:=⟨v,ks,m,hsm,rfl,own_lowerB q hw2,hl,hg⟩
 clear hS hCd hPr pP hS0 hS1 hS2 cP2 cP3 q hsm
 go_wp2_with fail
 go_ret
 exact ⟨hG,bw⟩


theorem runF_ok (rows:List (List I3)) (ks:List Int):(∀ x ∈ runF rows ks,okB x=true)∧(runF rows ks).length≤5000:=by
 unfold runF
 split
 ·simp
 ·split
  ·rename_i h1 h2
   have a:=runI_ok h2 ks zeroV [] zero_shape (by simp)
   have b:=runI_len (rows:=rows) ks zeroV []
   have c:=mergeB_len (runI rows zeroV [] ks).2.1 (deadM rows (runI rows zeroV [] ks).1)
   have d:(deadM rows (runI rows zeroV [] ks).1).length≤1:=by unfold deadM;split<;>simp
   refine ⟨mergeB_ok a.2 (deadM_ok _ _),?_⟩
   simp at b
   omega
  ·simp


theorem goes_run {rows:List (List I3)} {ks:List Int} {m:V4} (hp:progOk rows=true) (h:goesTo rows ks m) (hl:ks.length≤14):runZ rows ks=m∧runC rows ks=0∧shapeOk m=true:=by
 obtain ⟨h1,h2⟩:=h
 have h9:¬ 4096<ks.length:=by omega
 unfold runZ runC
 simp only [if_neg h9,if_pos hp]
 refine ⟨h2,h1,?_⟩
 rw [← h2]
 exact (runI_ok hp ks zeroV [] zero_shape (by simp)).1
theorem halt_step {rows:List (List I3)} {m:V4} {k:Int} (hp:progOk rows=true) (hs:shapeOk m=true) (hz:haltM rows m k=0):stepZ rows m k=(goM rows m k).1∧stepC rows m k=0:=by
 obtain ⟨h0,h2,hd,hc⟩:=halt_can hz
 have hk3:(0:Int)≤k∧k<3:=by omega
 unfold stepZ stepC goM
 simp only [hp,hs,Bool.and_self,if_true,hk3,and_self,hd,hc]
theorem getD_memF {xs:List I3} {k:Nat} (hk:k<xs.length):xs.getD k (0,0,0) ∈ xs:=by
 simp only [List.getD,List.getElem?_eq_getElem hk,Option.getD_some]
 exact List.getElem_mem hk


def bugsI (rows:List (List I3)) (m:V4):List I3:=if stuckM rows m then [(14,0,0)] else (enabM rows m 3).flatMap (ownM rows m)
def localS (rows:List (List I3)) (m:V4):List I3:=(enabM rows m 3).foldl (fun out k=>mergeB out (foundM rows m k)) (deadM rows m)
theorem mem_fold {f:Int→List I3} {x:I3}:∀ (ks:List Int) (out:List I3),x ∈ ks.foldl (fun out k=>mergeB out (f k)) out↔x ∈ out∨∃ k ∈ ks,x ∈ f k
 | [],out=>by simp
 | k::ks,out=>by
  rw [List.foldl_cons,mem_fold ks,mem_mergeB]
  simp only [List.mem_cons,exists_eq_or_imp,or_assoc]
theorem mem_localS {rows:List (List I3)} {m:V4} {x:I3}:x ∈ localS rows m↔x ∈ deadM rows m∨∃ k ∈ enabM rows m 3,x ∈ foundM rows m k:=mem_fold _ _
theorem mem_foundM {rows:List (List I3)} {m:V4} {k:Int} {x:I3}:x ∈ foundM rows m k↔x ∈ ownM rows m k∨x ∈ deadM rows (goM rows m k).1:=by
 unfold foundM deadM
 split
 ·rw [mem_putB]
  simp
 ·simp
theorem mem_bugsI {rows:List (List I3)} {m:V4} {x:I3}:x ∈ bugsI rows m↔x ∈ deadM rows m∨∃ k ∈ enabM rows m 3,x ∈ ownM rows m k:=by
 unfold bugsI deadM
 by_cases hs:stuckM rows m=true
 ·rw [if_pos hs,if_pos hs]
  have he:enabM rows m 3=[]:=by
   unfold stuckM at hs
   simp at hs
   exact hs.1
  rw [he]
  simp
 ·rw [if_neg hs,if_neg hs]
  simp
def allI (rows:List (List I3)) (S:List (Rec6 V4)):List I3:=mergeB (S.flatMap fun r=>bugsI rows r.1) []
def allS (rows:List (List I3)) (S:List (Rec6 V4)):List I3:=S.foldl (fun out r=>mergeB out (localS rows r.1)) []
theorem mem_foldR {f:Rec6 V4→List I3} {x:I3}:∀ (S:List (Rec6 V4)) (out:List I3),x ∈ S.foldl (fun out r=>mergeB out (f r)) out↔x ∈ out∨∃ r ∈ S,x ∈ f r
 | [],out=>by simp
 | r::S,out=>by
  rw [List.foldl_cons,mem_foldR S,mem_mergeB]
  simp only [List.mem_cons,exists_eq_or_imp,or_assoc]
theorem rises_foldR {f:Rec6 V4→List I3}:∀ (S:List (Rec6 V4)) (out:List I3),Rises out→Rises (S.foldl (fun out r=>mergeB out (f r)) out)
 | [],out,h=>h
 | r::S,out,h=>rises_foldR S _ (mergeB_rises _ _)
theorem mem_allI {rows:List (List I3)} {S:List (Rec6 V4)} {x:I3}:x ∈ allI rows S↔∃ r ∈ S,x ∈ bugsI rows r.1:=by
 unfold allI
 rw [mem_mergeB]
 simp
theorem all_same {rows:List (List I3)} (h:(fullS rows).length≤2000):allS rows (fullS rows)=allI rows (fullS rows):=by
 refine (rises_foldR _ _ List.Pairwise.nil).same (mergeB_rises _ _) (fun x=>?_)
 show x ∈ allS rows (fullS rows)↔x ∈ allI rows (fullS rows)
 rw [mem_allI]
 unfold allS
 rw [mem_foldR]
 constructor
 ·rintro (hx | ⟨r,hr,hx⟩)
  ·simp at hx
  ·rcases mem_localS.1 hx with hx | ⟨k,hk,hx⟩
   ·exact ⟨r,hr,mem_bugsI.2 (.inl hx)⟩
   ·rcases mem_foundM.1 hx with hx | hx
    ·exact ⟨r,hr,mem_bugsI.2 (.inr ⟨k,hk,hx⟩)⟩
    ·have hc:=fullS_closed h r hr (k,(goM rows r.1 k).1) (List.mem_map.2 ⟨k,hk,rfl⟩)
     obtain ⟨q,hq,e⟩:=List.mem_map.1 hc
     refine ⟨q,hq,mem_bugsI.2 (.inl ?_)⟩
     have e':q.1=(goM rows r.1 k).1:=e
     rw [e']
     exact hx
 ·rintro ⟨r,hr,hx⟩
  refine .inr ⟨r,hr,mem_localS.2 ?_⟩
  rcases mem_bugsI.1 hx with hx | ⟨k,hk,hx⟩
  ·exact .inl hx
  ·exact .inr ⟨k,hk,mem_foundM.2 (.inl hx)⟩
end Go.Proofs.YtdojjmkpelgcaaaGreatDoor
