/-
  Joined: ClsI, RwI, ClsL, PutI.
-/
import Derived.Test.YtjgffnlmjmibgaaDoorN46

namespace Go.Proofs.YtjgffnlmjmibgaaDoor
set_option maxRecDepth 100000
set_option maxHeartbeats 16000000
open Go.RowKit
set_option linter.unusedVariables false
set_option linter.unusedSimpArgs false

def CutOc (u W:World) (cs:Sl × Sl × Sl) (s4 s5:Value):Prop:=∃ X,s4=.pointer (some ⟨X,0,none⟩)∧s5=.int .i64 0∧Blk W X 69 (machCells cs.1.val cs.2.1.val cs.2.2.val zeroV)∧u.heap.size≤X∧Below u.heap.size u W
theorem sum_le3 {B:Nat}:∀ (xs:List Nat),(∀ x ∈ xs,x≤B)→xs.sum≤xs.length*B
 | [],_=>by simp
 | x::xs,h=>by
  have h1:=h x (List.mem_cons_self ..)
  have h2:=sum_le3 xs (fun y hy=>h y (List.mem_cons_of_mem _ hy))
  rw [List.sum_cons,List.length_cons,Nat.succ_mul]
  omega
theorem rn_len {rows:List (List I3)}:∀ (f:Nat) (m:V4),(rnF rows (f+1) m).length≤3 ^ f
 | 0,m=>by
  rw [rnF]
  split
  ·simp
  ·have e:((enabM rows m 3).map fun k=>(rnF rows 0 (goM rows m k).1).map (k::·)).flatten=[]:=by
    rw [List.flatten_eq_nil_iff]
    intro l hl
    obtain ⟨k,_,rfl⟩:=List.mem_map.1 hl
    rfl
   rw [e]
   simp
 | f+1,m=>by
  rw [rnF]
  split
  ·exact Nat.one_le_pow _ _ (by decide)
  ·rw [List.length_flatten,List.map_map]
   have h:=sum_le3 (B:=3 ^ f) ((enabM rows m 3).map (List.length ∘ fun k=>(rnF rows (f+1) (goM rows m k).1).map (k::·))) (fun x hx=>by
    obtain ⟨k,_,rfl⟩:=List.mem_map.1 hx
    simp only [Function.comp_def,List.length_map]
    exact rn_len f _)
   rw [List.length_map] at h
   have h2:=Nat.mul_le_mul_right (3 ^ f) (enabM_len rows m 3)
   rw [Nat.pow_succ]
   omega
theorem step_load_blkD {P:Program} {ops:Array Oper} {o:Oper} {a:Act} {w:World} {K:Act→World→Prop} {Q:Exit→Act→World→Prop} {E:Prop} (hgd:o.guard=none) (ty:TypeId) (x:Operand) (ho:o.op=.load ty x) (g:Nat) (hx:a.eval x=.pointer (some ⟨g,0,none⟩)) {t:Nat} {cs:List Value} (hB:Blk w g t cs) (d:TypeDesc)
  (hu:P.underlying ty=some d) (hd:(match d with | .struct _ | .array _ _=>true | _=>false)=true) (hi:(P.info? ty).map (·.size)=some cs.length)
  (h:K (a.put o.dst (.agg cs.toArray)) w):if Region.wanted o (yielded ops a.tmps)=true then Oper.wp P o a w K Q else E:=by
 have hw:Region.wanted o (yielded ops a.tmps)=true:=by simp [Region.wanted,hgd]
 rw [if_pos hw]
 exact wp_load_row ty x ho g hx t cs.toArray (0,0) d hB hu hd (by simpa using hi) h

theorem eachRun_is {rows:List (List I3)} {wb w:World} {S0 Fb nb:Nat} {cs:Sl × Sl × Sl} (hp:progOk rows=true) (hI:∀ k,k<3→Instrs wb (slK cs k).1 (slK cs k).2.1 (slK cs k).2.2 (codeM rows k)) (b:Below wb.heap.size wb w) (hBn:wb.heap.size≤nb) (pS:Blk w S0 69 (machCells cs.1.val cs.2.1.val cs.2.2.val zeroV)) (fb:Blk w Fb 93 [.map (some nb)]) (mp:FmAt w nb []) :
  Calls Tryd.prog 51 #[.pointer (some ⟨S0,0,none⟩),.func (.func 52) #[] #[.pointer (some ⟨Fb,0,none⟩)]] w fun e w'=>e=.returned (.tuple #[])∧Blk w' Fb 93 [.map (some nb)]∧FmAt w' nb ((rnF rows 19 zeroV).map (nfG rows))∧Below wb.heap.size wb w':=by
 have hbs:=b.size
 have hBE:wb.heap.size≤w.heap.size+1:=by omega
 have hlen:(rnF rows 19 zeroV).length≤1200000000:=by
  have h1:(rnF rows 19 zeroV).length≤3 ^ 18:=rn_len (rows:=rows) 18 zeroV
  have h2:3 ^ 18=387420489:=by decide
  omega
 have kV:=each8_is (Tb:=w.heap.size) (Eb:=w.heap.size+1) (Vb:=w.heap.size+2) (Fb:=Fb) hp hI hBE hBn 19 zeroV [] [] zero_shape (by have:=left_18 hp zeroV;omega) ⟨rfl,rfl⟩ (by simp) (by simpa using hlen)
 clear hlen hI hp
 rw [show evsM rows zeroV []=[] from rfl] at kV
 have HE:Hid ([]++(rnF rows 19 zeroV).map (fun ks=>nfG rows ([]++ks))=(rnF rows 19 zeroV).map (nfG rows)):=by simp [Hid]
 rw [HE.out] at kV
 generalize (rnF rows 19 zeroV).map (nfG rows)=fs at *
 clear HE
 have gA:Below w.heap.size w (((w.alloc (.cells #[.func (.func 52) #[] #[.pointer (some ⟨Fb,0,none⟩)]] 99)).alloc (.cells #[.slice none 0 0] 95)).alloc (.cells #[.func (.func 91) #[] #[.pointer (some ⟨w.heap.size,0,none⟩),.pointer (some ⟨w.heap.size+1,0,none⟩),.pointer (some ⟨w.heap.size+2,0,none⟩)]] 151)):=by go_grown
 have hrn:Run8 (((w.alloc (.cells #[.func (.func 52) #[] #[.pointer (some ⟨Fb,0,none⟩)]] 99)).alloc (.cells #[.slice none 0 0] 95)).alloc (.cells #[.func (.func 91) #[] #[.pointer (some ⟨w.heap.size,0,none⟩),.pointer (some ⟨w.heap.size+1,0,none⟩),.pointer (some ⟨w.heap.size+2,0,none⟩)]] 151)) wb.heap.size w.heap.size (w.heap.size+1) (w.heap.size+2) Fb nb [] (.slice none 0 0) []:=⟨blkOld _ (blkOld _ (blkAt _ _ _ rfl)),blkOld _ (blkAt _ _ _ (by simp)),blkAt _ _ _ (by simp),fb.below gA,World.ownsRow_nil _ _ _ _,mp.below gA⟩
 have pS3:=pS.below gA
 have b3:=bel_trans b gA
 have hsf:∀ W:World,(store ⟨w.heap.size+2,0,none⟩ (.func (.func 91) #[] #[.pointer (some ⟨w.heap.size,0,none⟩),.pointer (some ⟨w.heap.size+1,0,none⟩),.pointer (some ⟨w.heap.size+2,0,none⟩)])).run Tryd.prog W=stored Tryd.prog W ⟨w.heap.size+2,0,none⟩ (.func (.func 91) #[] #[.pointer (some ⟨w.heap.size,0,none⟩),.pointer (some ⟨w.heap.size+1,0,none⟩),.pointer (some ⟨w.heap.size+2,0,none⟩)]) .plain:=fun W=>run_store _ _ _ _ _ rfl
 clear pS fb mp b gA
 go_enter Tryd.func51,Tryd.ntmps51
 go_wp2_with fail
 generalize (((w.alloc (.cells #[.func (.func 52) #[] #[.pointer (some ⟨Fb,0,none⟩)]] 99)).alloc (.cells #[.slice none 0 0] 95)).alloc (.cells #[.func (.func 91) #[] #[.pointer (some ⟨w.heap.size,0,none⟩),.pointer (some ⟨w.heap.size+1,0,none⟩),.pointer (some ⟨w.heap.size+2,0,none⟩)]] 151))=u2 at *
 clear hsf
 have hdr:Below u2.heap.size u2 u2.drew:=by go_grown
 refine wp_region_held_drew (S:=(fun w'=>w'.cell? ⟨w.heap.size+2,0,none⟩=some (.func (.func 91) #[] #[.pointer (some ⟨w.heap.size,0,none⟩),.pointer (some ⟨w.heap.size+1,0,none⟩),.pointer (some ⟨w.heap.size+2,0,none⟩)]))) (by kernel_rfl) (by simpa using hrn.vb.cell 0) (fun hS0=>?_)
 refine tkm 0 7 (.func (.func 91) #[] #[.pointer (some ⟨w.heap.size,0,none⟩),.pointer (some ⟨w.heap.size+1,0,none⟩),.pointer (some ⟨w.heap.size+2,0,none⟩)]) ?_
 refine tkm 1 8 (.pointer (some ⟨S0,0,none⟩)) ?_
 refine tkm 2 9 (.pointer (some ⟨S0,0,none⟩)) ?_
 replace hrn:=hrn.below hdr
 replace pS3:=pS3.below hdr
 replace b3:=bel_trans b3 hdr
 clear hdr
 generalize u2.drew=D0 at *
 refine tkr 3 10 (fun K hK=>?_)
 refine step_load_blkD rfl 69 _ rfl S0 rfl pS3 _ Tryd.underlying69 rfl (by kernel_rfl) ?_
 refine hK.out _ _ hS0 (fun hS1=>?_)
 clear hK hS1
 try simp only [Act.put,tka,tkb,tkc]
 refine tkr 4 11 (fun K hK=>?_)
 have kVx:=kV D0 _ b3 hrn
 clear kV
 go_simp
 refine kVx.mono ?_
 rintro e D1 ⟨rfl,ev,hr2,mv,kp⟩
 have b4:Below wb.heap.size wb D1:=b3.trans (kp.below hBE hBn (fun q hq=>by simp [Value.ownBlock] at hq) b3.size)
 have hS2:D1.cell? ⟨w.heap.size+2,0,none⟩=some (.func (.func 91) #[] #[.pointer (some ⟨w.heap.size,0,none⟩),.pointer (some ⟨w.heap.size+1,0,none⟩),.pointer (some ⟨w.heap.size+2,0,none⟩)]):=by simpa using hr2.vb.cell 0
 go_wp2_with fail
 refine hK.out _ _ hS2 (fun hS3=>?_)
 clear hK hS3
 try simp only [Act.put,tka,tkb,tkc]
 refine wpAnyH_done (by kernel_rfl) ?_ _
 have HG:=hr2.fb
 have HM:=hr2.mp
 clear hr2 mv kp kVx hrn pS3 b3 hS0 hS2
 go_wp2
 go_end0
 exact ⟨rfl,HG,HM,b4⟩
noncomputable def clsC (rows:List (List I3)):Int:=if codeF rows=0 then (if cntM rows zeroV≤5000 then (if (clsG rows).length≤300 then 0 else 15) else 15) else codeF rows
noncomputable def clsV (rows:List (List I3)):Int:=if clsC rows=0 then ((clsG rows).length:Int) else 0
theorem FmAt.len9 {w:World} {nb:Nat} {fs:List (List Int)} (h:FmAt w nb fs) (ty:TypeId):(Builtin.len_ #[93] ty #[.map (some nb)]).run Tryd.prog w=.ok (.int .i64 ((fs.foldl ddG []).length:Int)) w:=by
 obtain ⟨D,hm,hf⟩:=h
 rw [← hf.siz]
 exact hm.len Tryd.underlying93 ty

theorem implClassesOf_ok (a:Option Addr) (len cap:Nat) (rows:List (List I3)) (w:World) (hC:Codes w a len cap rows) (hV:VmShape w) (hc:codeF rows=0) :
  Calls Tryd.prog 23 #[.agg #[.slice a len cap]] w fun e w'=>e=.returned (.tuple #[.int .i64 (clsV rows),.int .i64 (clsC rows)])∧Below w.heap.size w w':=by
 have kN:=implNewVm_is
 have fz:=(shape_fits9 zero_shape).1
 have bw:Below w.heap.size w (w.alloc (.cells #[.slice a len cap] 25)):=by go_grown
 have pP:Blk (w.alloc (.cells #[.slice a len cap] 25)) w.heap.size 25 [.slice a len cap]:=blkAt _ _ _ rfl
 have hmm:=@run_makeMap Tryd.prog
 have kC:=implCountRuns_ok a len cap rows _ (hC.below bw) (hV.below bw) hc
 have HC9:Hid (clsC rows=(if cntM rows zeroV≤5000 then (if (clsG rows).length≤300 then 0 else 15) else 15)):=by rw [Hid,clsC,if_pos hc]
 have HV9:Hid (clsV rows=if clsC rows=0 then ((clsG rows).length:Int) else 0):=rfl
 have hp:progOk rows=true:=(code_parts hc).1
 have HG9:Hid (((rnF rows 19 zeroV).map (nfG rows)).foldl ddG []=clsG rows):=rfl
 clear hc
 generalize clsC rows=rc at *
 generalize clsV rows=rv at *
 go_enter Tryd.func23,Tryd.ntmps23
 go_wp2_with fail
 generalize (w.alloc (.cells #[.slice a len cap] 25))=U0 at *
 go_wp2_with (refine wpList_load_blk rfl 25 _ rfl w.heap.size rfl pP _ Tryd.underlying25 rfl (by kernel_rfl) ?_)
 refine kC.mono ?_
 rintro e U ⟨rfl,hb⟩
 replace bw:=bel_trans bw hb
 replace pP:=pP.below hb
 clear hb kC
 by_cases h5:cntM rows zeroV≤5000
 ·replace HC9:Hid (rc=(if (clsG rows).length≤300 then 0 else 15)):=by rw [Hid,HC9.out,if_pos h5]
  have h5':¬ (5000<(cntM rows zeroV:Int)):=by omega
  generalize cntM rows zeroV=cn at *
  obtain ⟨hlen,cs,hR⟩:=hC.rowsAt hp
  clear hlen
  have kS:=fun (W:World) (b:Below U.heap.size U W) (t:S4) (h:Vmem W t zeroV)=>machineOf_ok a len cap rows t zeroV W (hC.below (bel_trans bw b)) h (hV.below (bel_trans bw b)) hp zero_shape
  replace hR:=hR.below bw
  clear hC hV
  go_wp2_with fail
  go_cut [6,7] from 9 (fun s6 s7 W=>CutOc U W cs s6 s7)
  case first =>
   have hdr:Below U.heap.size U U.drew:=by go_grown
   refine wp_region_held_drew (S:=(fun w'=>w'.cell? ⟨w.heap.size,0,none⟩=some (.slice a len cap))) (by kernel_rfl) (by simpa using pP.cell 0) (fun hS0=>?_)
   refine tkm 0 20 (.agg #[.slice a len cap]) ?_
   have pP9:=pP.below hdr
   have bw:=hdr
   clear hdr
   generalize U.drew=V at *
   have bt:Below V.heap.size V V:=Below.refl _ _
   refine wpAnyH_ready (rs:=[1,6]) (by kernel_rfl) (by simp) ?_
   refine AllReadyH.cons (o:=⟨some 21,_,_,_,_,_⟩) rfl (fun K hK=>?_) (AllReadyH.cons (o:=⟨some 6,_,_,_,_,_⟩) rfl (fun K hK=>?_) AllReadyH.nil)
   ·go_simp
    refine (kN V).mono ?_
    rintro e V1 ⟨⟨⟨⟨t0a,t0n,t0c⟩,⟨t1a,t1n,t1c⟩,⟨t2a,t2n,t2c⟩,⟨t3a,t3n,t3c⟩⟩,rfl,hO⟩,hb1⟩
    have ut:S4.val ((t0a,t0n,t0c),(t1a,t1n,t1c),(t2a,t2n,t2c),(t3a,t3n,t3c))=.agg #[.slice t0a t0n t0c,.slice t1a t1n t1c,.slice t2a t2n t2c,.slice t3a t3n t3c]:=rfl
    rw [ut]
    have bt:=bel_trans bt hb1
    go_wp2_with fail
    refine hK.out _ _ (cells_kept bt _ _ hS0) (fun hS1=>?_)
    clear hK
    try simp only [Act.put,tka,tkb,tkc]
    refine wpAnyH_ready (rs:=[2,6]) (by kernel_rfl) (by simp) ?_
    refine AllReadyH.cons (o:=⟨some 22,_,_,_,_,_⟩) rfl (fun K hK=>?_) (AllReadyH.cons (o:=⟨some 6,_,_,_,_,_⟩) rfl (fun K hK=>?_) AllReadyH.nil)
    ·have kx:=kS V1 (bel_trans bw bt) ((t0a,t0n,t0c),(t1a,t1n,t1c),(t2a,t2n,t2c),(t3a,t3n,t3c)) (hO.mem fz)
     rw [ut] at kx
     go_simp
     refine kx.mono ?_
     rintro e V2 ⟨⟨cs',rfl,hR'⟩,hb2⟩
     obtain rfl:=(hR.below (bel_trans bw bt)).uniq hR'
     have bt:=bel_trans bt hb2
     go_wp2_with fail
     refine hK.out _ _ (cells_kept bt _ _ hS0) (fun hS2=>?_)
     clear hK kx
     try simp only [Act.put,tka,tkb,tkc]
     refine tkm 3 19 (.tuple #[.agg (machCells cs.1.val cs.2.1.val cs.2.2.val zeroV).toArray,.int .i64 0]) ?_
     refine tkm 4 23 (.agg (machCells cs.1.val cs.2.1.val cs.2.2.val zeroV).toArray) ?_
     refine tkm 5 24 (.int .i64 0) ?_
     refine tkr 6 6 (fun K hK=>?_)
     have hb3:Below V2.heap.size V2 (V2.alloc (.cells #[.slice none 0 0,.int .i64 0,.int .i64 0,.int .i64 0,.slice none 0 0,.int .i64 0,.int .i64 0,.int .i64 0,.slice none 0 0,.int .i64 0,.int .i64 0,.int .i64 0,.int .i64 0,.int .i64 0,.int .i64 0,.int .i64 0,.int .i64 0,.int .i64 0] 69)):=by go_grown
     have pX:Blk (V2.alloc (.cells #[.slice none 0 0,.int .i64 0,.int .i64 0,.int .i64 0,.slice none 0 0,.int .i64 0,.int .i64 0,.int .i64 0,.slice none 0 0,.int .i64 0,.int .i64 0,.int .i64 0,.int .i64 0,.int .i64 0,.int .i64 0,.int .i64 0,.int .i64 0,.int .i64 0] 69)) V2.heap.size 69 [.slice none 0 0,.int .i64 0,.int .i64 0,.int .i64 0,.slice none 0 0,.int .i64 0,.int .i64 0,.int .i64 0,.slice none 0 0,.int .i64 0,.int .i64 0,.int .i64 0,.int .i64 0,.int .i64 0,.int .i64 0,.int .i64 0,.int .i64 0,.int .i64 0]:=blkAt _ _ _ rfl
     have hXB:U.heap.size≤V2.heap.size:=Nat.le_trans bw.size bt.size
     have bt:=bel_trans bt hb3
     go_simp
     refine hK.out _ _ (cells_kept bt _ _ hS0) (fun hS3=>?_)
     clear hK
     generalize (V2.alloc (.cells #[.slice none 0 0,.int .i64 0,.int .i64 0,.int .i64 0,.slice none 0 0,.int .i64 0,.int .i64 0,.int .i64 0,.slice none 0 0,.int .i64 0,.int .i64 0,.int .i64 0,.int .i64 0,.int .i64 0,.int .i64 0,.int .i64 0,.int .i64 0,.int .i64 0] 69))=V3 at *
     obtain ⟨X,hX⟩:∃ X,X=V2.heap.size:=⟨_,rfl⟩
     rw [← hX] at pX hXB ⊢
     clear hX
     try simp only [Act.put,tka,tkb,tkc]
     refine tkz 7 (fun K hK=>?_)
     refine step_store_blkD rfl 69 _ _ rfl X (machCells cs.1.val cs.2.1.val cs.2.2.val zeroV) rfl rfl pX (by kernel_rfl) rfl rfl ?_
     intro V9 pX9 g9
     have bz:=(bel_trans bw bt).grown g9 (bel_trans bw bt).size (fun q e=>by cases e;exact hXB)
     have hXP:X≠w.heap.size:=blk_ne pX (pP9.below bt) (by decide)
     have c9:=cells_kept bt _ _ hS0
     refine hK.out _ _ (cell_grownB g9 c9 (by simp;omega)) (fun hS4=>?_)
     clear hK
     try simp only [Act.put,tka,tkb,tkc]
     refine tkm 8 7 (.int .i64 0) ?_
     refine wpAnyH_done (by kernel_rfl) ?_ _
     go_wp2_with fail
     go_meet
     case rel=>exact ⟨X,rfl,rfl,pX9.out,hXB,bz⟩
    ·have hb3:Below V1.heap.size V1 (V1.alloc (.cells #[.slice none 0 0,.int .i64 0,.int .i64 0,.int .i64 0,.slice none 0 0,.int .i64 0,.int .i64 0,.int .i64 0,.slice none 0 0,.int .i64 0,.int .i64 0,.int .i64 0,.int .i64 0,.int .i64 0,.int .i64 0,.int .i64 0,.int .i64 0,.int .i64 0] 69)):=by go_grown
     have pX:Blk (V1.alloc (.cells #[.slice none 0 0,.int .i64 0,.int .i64 0,.int .i64 0,.slice none 0 0,.int .i64 0,.int .i64 0,.int .i64 0,.slice none 0 0,.int .i64 0,.int .i64 0,.int .i64 0,.int .i64 0,.int .i64 0,.int .i64 0,.int .i64 0,.int .i64 0,.int .i64 0] 69)) V1.heap.size 69 [.slice none 0 0,.int .i64 0,.int .i64 0,.int .i64 0,.slice none 0 0,.int .i64 0,.int .i64 0,.int .i64 0,.slice none 0 0,.int .i64 0,.int .i64 0,.int .i64 0,.int .i64 0,.int .i64 0,.int .i64 0,.int .i64 0,.int .i64 0,.int .i64 0]:=blkAt _ _ _ rfl
     have hXB:U.heap.size≤V1.heap.size:=Nat.le_trans bw.size bt.size
     replace hO:=hO.below hb3
     have bt:=bel_trans bt hb3
     go_simp
     refine hK.out _ _ (cells_kept bt _ _ hS0) (fun hS3=>?_)
     clear hK
     generalize (V1.alloc (.cells #[.slice none 0 0,.int .i64 0,.int .i64 0,.int .i64 0,.slice none 0 0,.int .i64 0,.int .i64 0,.int .i64 0,.slice none 0 0,.int .i64 0,.int .i64 0,.int .i64 0,.int .i64 0,.int .i64 0,.int .i64 0,.int .i64 0,.int .i64 0,.int .i64 0] 69))=V2 at *
     obtain ⟨X,hX⟩:∃ X,X=V1.heap.size:=⟨_,rfl⟩
     rw [← hX] at pX hXB ⊢
     clear hX
     try simp only [Act.put,tka,tkb,tkc]
     refine tkr 2 22 (fun K hK=>?_)
     have kx:=kS V2 (bel_trans bw bt) ((t0a,t0n,t0c),(t1a,t1n,t1c),(t2a,t2n,t2c),(t3a,t3n,t3c)) (hO.mem fz)
     rw [ut] at kx
     go_simp
     refine kx.mono ?_
     rintro e V3 ⟨⟨cs',rfl,hR'⟩,hb2⟩
     obtain rfl:=(hR.below (bel_trans bw bt)).uniq hR'
     replace pX:=pX.below hb2
     have bt:=bel_trans bt hb2
     go_wp2_with fail
     refine hK.out _ _ (cells_kept bt _ _ hS0) (fun hS2=>?_)
     clear hK kx
     try simp only [Act.put,tka,tkb,tkc]
     refine tkm 3 19 (.tuple #[.agg (machCells cs.1.val cs.2.1.val cs.2.2.val zeroV).toArray,.int .i64 0]) ?_
     refine tkm 4 23 (.agg (machCells cs.1.val cs.2.1.val cs.2.2.val zeroV).toArray) ?_
     refine tkm 5 24 (.int .i64 0) ?_
     refine tkz 7 (fun K hK=>?_)
     refine step_store_blkD rfl 69 _ _ rfl X (machCells cs.1.val cs.2.1.val cs.2.2.val zeroV) rfl rfl pX (by kernel_rfl) rfl rfl ?_
     intro V9 pX9 g9
     have bz:=(bel_trans bw bt).grown g9 (bel_trans bw bt).size (fun q e=>by cases e;exact hXB)
     have hXP:X≠w.heap.size:=blk_ne pX (pP9.below bt) (by decide)
     have c9:=cells_kept bt _ _ hS0
     refine hK.out _ _ (cell_grownB g9 c9 (by simp;omega)) (fun hS4=>?_)
     clear hK
     try simp only [Act.put,tka,tkb,tkc]
     refine tkm 8 7 (.int .i64 0) ?_
     refine wpAnyH_done (by kernel_rfl) ?_ _
     go_wp2_with fail
     go_meet
     case rel=>exact ⟨X,rfl,rfl,pX9.out,hXB,bz⟩
   ·have hb3:Below V.heap.size V (V.alloc (.cells #[.slice none 0 0,.int .i64 0,.int .i64 0,.int .i64 0,.slice none 0 0,.int .i64 0,.int .i64 0,.int .i64 0,.slice none 0 0,.int .i64 0,.int .i64 0,.int .i64 0,.int .i64 0,.int .i64 0,.int .i64 0,.int .i64 0,.int .i64 0,.int .i64 0] 69)):=by go_grown
    have pX:Blk (V.alloc (.cells #[.slice none 0 0,.int .i64 0,.int .i64 0,.int .i64 0,.slice none 0 0,.int .i64 0,.int .i64 0,.int .i64 0,.slice none 0 0,.int .i64 0,.int .i64 0,.int .i64 0,.int .i64 0,.int .i64 0,.int .i64 0,.int .i64 0,.int .i64 0,.int .i64 0] 69)) V.heap.size 69 [.slice none 0 0,.int .i64 0,.int .i64 0,.int .i64 0,.slice none 0 0,.int .i64 0,.int .i64 0,.int .i64 0,.slice none 0 0,.int .i64 0,.int .i64 0,.int .i64 0,.int .i64 0,.int .i64 0,.int .i64 0,.int .i64 0,.int .i64 0,.int .i64 0]:=blkAt _ _ _ rfl
    have hXB:U.heap.size≤V.heap.size:=Nat.le_trans bw.size bt.size
    have bt:=bel_trans bt hb3
    go_simp
    refine hK.out _ _ (cells_kept bt _ _ hS0) (fun hS3=>?_)
    clear hK
    generalize (V.alloc (.cells #[.slice none 0 0,.int .i64 0,.int .i64 0,.int .i64 0,.slice none 0 0,.int .i64 0,.int .i64 0,.int .i64 0,.slice none 0 0,.int .i64 0,.int .i64 0,.int .i64 0,.int .i64 0,.int .i64 0,.int .i64 0,.int .i64 0,.int .i64 0,.int .i64 0] 69))=V1 at *
    obtain ⟨X,hX⟩:∃ X,X=V.heap.size:=⟨_,rfl⟩
    rw [← hX] at pX hXB ⊢
    clear hX
    try simp only [Act.put,tka,tkb,tkc]
    refine tkr 1 21 (fun K hK=>?_)
    go_simp
    refine (kN V1).mono ?_
    rintro e V2 ⟨⟨⟨⟨t0a,t0n,t0c⟩,⟨t1a,t1n,t1c⟩,⟨t2a,t2n,t2c⟩,⟨t3a,t3n,t3c⟩⟩,rfl,hO⟩,hb1⟩
    have ut:S4.val ((t0a,t0n,t0c),(t1a,t1n,t1c),(t2a,t2n,t2c),(t3a,t3n,t3c))=.agg #[.slice t0a t0n t0c,.slice t1a t1n t1c,.slice t2a t2n t2c,.slice t3a t3n t3c]:=rfl
    rw [ut]
    have bt:=bel_trans bt hb1
    go_wp2_with fail
    refine hK.out _ _ (cells_kept bt _ _ hS0) (fun hS1=>?_)
    clear hK
    try simp only [Act.put,tka,tkb,tkc]
    replace pX:=pX.below hb1
    refine tkr 2 22 (fun K hK=>?_)
    have kx:=kS V2 (bel_trans bw bt) ((t0a,t0n,t0c),(t1a,t1n,t1c),(t2a,t2n,t2c),(t3a,t3n,t3c)) (hO.mem fz)
    rw [ut] at kx
    go_simp
    refine kx.mono ?_
    rintro e V3 ⟨⟨cs',rfl,hR'⟩,hb2⟩
    obtain rfl:=(hR.below (bel_trans bw bt)).uniq hR'
    replace pX:=pX.below hb2
    have bt:=bel_trans bt hb2
    go_wp2_with fail
    refine hK.out _ _ (cells_kept bt _ _ hS0) (fun hS2=>?_)
    clear hK kx
    try simp only [Act.put,tka,tkb,tkc]
    refine tkm 3 19 (.tuple #[.agg (machCells cs.1.val cs.2.1.val cs.2.2.val zeroV).toArray,.int .i64 0]) ?_
    refine tkm 4 23 (.agg (machCells cs.1.val cs.2.1.val cs.2.2.val zeroV).toArray) ?_
    refine tkm 5 24 (.int .i64 0) ?_
    refine tkz 7 (fun K hK=>?_)
    refine step_store_blkD rfl 69 _ _ rfl X (machCells cs.1.val cs.2.1.val cs.2.2.val zeroV) rfl rfl pX (by kernel_rfl) rfl rfl ?_
    intro V9 pX9 g9
    have bz:=(bel_trans bw bt).grown g9 (bel_trans bw bt).size (fun q e=>by cases e;exact hXB)
    have hXP:X≠w.heap.size:=blk_ne pX (pP9.below bt) (by decide)
    have c9:=cells_kept bt _ _ hS0
    refine hK.out _ _ (cell_grownB g9 c9 (by simp;omega)) (fun hS4=>?_)
    clear hK
    try simp only [Act.put,tka,tkb,tkc]
    refine tkm 8 7 (.int .i64 0) ?_
    refine wpAnyH_done (by kernel_rfl) ?_ _
    go_wp2_with fail
    go_meet
    case rel=>exact ⟨X,rfl,rfl,pX9.out,hXB,bz⟩
  obtain ⟨S0,rfl,rfl,pS,hUS,bz⟩:=hcut
  have hI:∀ k,k<3→Instrs wc (slK cs k).1 (slK cs k).2.1 (slK cs k).2.2 (codeM rows k):=fun k hk=>by obtain ⟨_,_,_,_,h9⟩:=hR.below bz;exact (h9 k hk).2
  replace bw:=bel_trans bw bz
  clear kS kN pP bz fz hR
  have bM:Below wc.heap.size wc (wc.alloc (.map #[] 0)):=⟨rfl,rfl,rfl,by simp,fun k hk=>Below.heap_alloc wc _ k hk⟩
  have bX:Below wc.heap.size wc ((wc.alloc (.map #[] 0)).alloc (.cells #[.map (some wc.heap.size)] 93)):=bel_trans bM ⟨rfl,rfl,rfl,by simp,fun k hk=>Below.heap_alloc _ _ k hk⟩
  have hm0:FmAt ((wc.alloc (.map #[] 0)).alloc (.cells #[.map (some wc.heap.size)] 93)) wc.heap.size []:=⟨.map [],(World.ownsMap_made (H:=Unit) wc Tryd.prog 9 (plainElem Tryd.prog 3)).alloc _,FmD.start⟩
  have fb:Blk ((wc.alloc (.map #[] 0)).alloc (.cells #[.map (some wc.heap.size)] 93)) (wc.heap.size+1) 93 [.map (some wc.heap.size)]:=blkAt _ _ _ (by simp)
  have kE:=eachRun_is hp hI bX (Nat.le_refl _) (pS.below bX) fb hm0
  clear hI hp bM hm0 fb pS
  go_wp2_with fail
  refine kE.mono ?_
  rintro e w3 ⟨rfl,fb3,mp3,b3⟩
  have bw3:Below w.heap.size w w3:=bel_trans bw b3
  have hln:=mp3.len9 3
  rw [HG9.out] at hln
  have cF:w3.cell? ⟨wc.heap.size+1,0,none⟩=some (.map (some wc.heap.size)):=by simpa using fb3.cell 0
  clear kE bX mp3 fb3 b3 bw HG9 hmm
  generalize (clsG rows).length=n9 at *
  by_cases h3:n9≤300
  ·have h3':¬ (300<(n9:Int)):=by omega
   have HF:Hid (rc=0∧rv=(n9:Int)):=by
    have e1:rc=0:=by rw [HC9.out,if_pos h3]
    exact ⟨e1,by rw [HV9.out,if_pos e1]⟩
   clear HC9 HV9
   go_wp2
   refine bodyPost_ret (by simp [results,Tryd.results23,go_sem];try rfl) rfl ?_
   exact ⟨by rw [HF.out.1,HF.out.2],bw3⟩
  ·have h3':300<(n9:Int):=by omega
   have HF:Hid (rc=15∧rv=0):=by
    have e1:rc=15:=by rw [HC9.out,if_neg h3]
    exact ⟨e1,by rw [HV9.out,e1];rfl⟩
   clear HC9 HV9
   go_wp2
   refine bodyPost_ret (by simp [results,Tryd.results23,go_sem];try rfl) rfl ?_
   exact ⟨by rw [HF.out.1,HF.out.2],bw3⟩
 ·have h5':5000<(cntM rows zeroV:Int):=by omega
  have HF:Hid (rc=15∧rv=0):=by
   have e1:rc=15:=by rw [HC9.out,if_neg h5]
   exact ⟨e1,by rw [HV9.out,e1];rfl⟩
  clear HC9 HV9
  go_wp2
  refine bodyPost_ret (by simp [results,Tryd.results23,go_sem];try rfl) rfl ?_
  exact ⟨by rw [HF.out.1,HF.out.2],bw⟩

theorem implClassesOf_not (a:Option Addr) (len cap:Nat) (rows:List (List I3)) (w:World) (hC:Codes w a len cap rows) (hV:VmShape w) (hc:codeF rows≠0) :
  Calls Tryd.prog 23 #[.agg #[.slice a len cap]] w fun e w'=>e=.returned (.tuple #[.int .i64 (clsV rows),.int .i64 (clsC rows)])∧Below w.heap.size w w':=by
 have bw:Below w.heap.size w (w.alloc (.cells #[.slice a len cap] 25)):=by go_grown
 have pP:Blk (w.alloc (.cells #[.slice a len cap] 25)) w.heap.size 25 [.slice a len cap]:=blkAt _ _ _ rfl
 have kC:=implCountRuns_not a len cap rows _ (hC.below bw) (hV.below bw) hc
 have e1:clsC rows=codeF rows:=by unfold clsC;rw [if_neg hc]
 have e2:clsV rows=0:=by unfold clsV;rw [e1,if_neg hc]
 rw [e1,e2]
 clear e1 e2
 generalize codeF rows=cf at *
 have hcn:(cf != 0)=true:=by simpa using hc
 go_enter Tryd.func23,Tryd.ntmps23
 go_wp2_with fail
 generalize (w.alloc (.cells #[.slice a len cap] 25))=U0 at *
 go_wp2_with (refine wpList_load_blk rfl 25 _ rfl w.heap.size rfl pP _ Tryd.underlying25 rfl (by kernel_rfl) ?_)
 refine kC.mono ?_
 rintro e U ⟨rfl,hb⟩
 replace bw:=bel_trans bw hb
 clear hb kC
 go_wp2
 refine bodyPost_ret (by simp [results,Tryd.results23,go_sem];try rfl) rfl ?_
 exact ⟨rfl,bw⟩
theorem implClassesOf_is (a:Option Addr) (len cap:Nat) (rows:List (List I3)) (w:World) (hC:Codes w a len cap rows) (hV:VmShape w) :
  Calls Tryd.prog 23 #[.agg #[.slice a len cap]] w fun e w'=>e=.returned (.tuple #[.int .i64 (clsV rows),.int .i64 (clsC rows)])∧Below w.heap.size w w':=by
 by_cases h:codeF rows=0
 ·exact implClassesOf_ok a len cap rows w hC hV h
 ·exact implClassesOf_not a len cap rows w hC hV h


def IsL (w:World) (v:Value) (xs:List Int):Prop:=∃ la ln lc,v=.slice la ln lc∧Ints .i64 w la ln lc xs
theorem IsL.below {w w':World} {v:Value} {xs:List Int} (h:IsL w v xs) (hb:Below w.heap.size w w'):IsL w' v xs:=by
 obtain ⟨la,ln,lc,rfl,hi⟩:=h
 exact ⟨la,ln,lc,rfl,hi.below hb⟩
def AllL (w:World) (vs:List Value) (xss:List (List Int)):Prop:=vs.length=xss.length∧∀ t,t<xss.length→IsL w (vs.getD t undef) (xss.getD t [])
theorem AllL.below {w w':World} {vs:List Value} {xss:List (List Int)} (h:AllL w vs xss) (hb:Below w.heap.size w w'):AllL w' vs xss:=⟨h.1,fun t ht=>(h.2 t ht).below hb⟩
theorem AllL.nil (w:World):AllL w [] []:=⟨rfl,fun t ht=>by simp at ht⟩
theorem AllL.snoc {w:World} {vs:List Value} {xss:List (List Int)} {v:Value} {xs:List Int} (h:AllL w vs xss) (hv:IsL w v xs):AllL w (vs++[v]) (xss++[xs]):=by
 refine ⟨by simp [h.1],fun t ht=>?_⟩
 by_cases h9:t<xss.length
 ·have e1:(vs++[v]).getD t undef=vs.getD t undef:=by simp [List.getD,List.getElem?_append_left (show t<vs.length by have:=h.1;omega)]
  have e2:(xss++[xs]).getD t []=xss.getD t []:=by simp [List.getD,List.getElem?_append_left h9]
  rw [e1,e2]
  exact h.2 t h9
 ·have e9:t=xss.length:=by simp at ht;omega
  subst e9
  have e1:(vs++[v]).getD xss.length undef=v:=by rw [← h.1];simp [List.getD]
  have e2:(xss++[xs]).getD xss.length []=xs:=by simp [List.getD]
  rw [e1,e2]
  exact hv
def RowsI (w:World) (a:Option Addr) (n c:Nat) (xss:List (List Int)):Prop:=
 xss.length=n∧n≤c∧c≤maxLen∧∃ vs,AllL w vs xss∧(n=0∨∃ b off,a=some ⟨b,off,none⟩∧b<w.heap.size∧∀ t,t<n→w.cell? ⟨b,off+t,none⟩=some (vs.getD t undef))
theorem RowsI.below {w w':World} {a:Option Addr} {n c:Nat} {xss:List (List Int)} (h:RowsI w a n c xss) (hb:Below w.heap.size w w'):RowsI w' a n c xss:=by
 obtain ⟨h1,h2,h3,vs,h4,h5⟩:=h
 refine ⟨h1,h2,h3,vs,h4.below hb,?_⟩
 rcases h5 with h5 | ⟨b,off,h6,h7,h8⟩
 ·exact .inl h5
 ·exact .inr ⟨b,off,h6,Nat.lt_of_lt_of_le h7 hb.size,fun t ht=>by rw [hb.cell (p:=⟨b,off+t,none⟩) h7];exact h8 t ht⟩
theorem RowsI.cell {w:World} {a:Option Addr} {n c:Nat} {xss:List (List Int)} (h:RowsI w a n c xss) {t:Nat} (ht:t<n):∃ b off la ln lc,a=some ⟨b,off,none⟩∧w.cell? ⟨b,off+t,none⟩=some (.slice la ln lc)∧Ints .i64 w la ln lc (xss.getD t []):=by
 obtain ⟨h1,h2,h3,vs,h4,h5⟩:=h
 rcases h5 with h5 | ⟨b,off,h6,h7,h8⟩
 ·omega
 ·obtain ⟨la,ln,lc,e,hi⟩:=h4.2 t (by omega)
  exact ⟨b,off,la,ln,lc,h6,by rw [h8 t ht,e],hi⟩
theorem RowsI.own {w:World} {B n c:Nat} {a:Option Addr} {vs:List Value} {xss:List (List Int)} (h:w.ownsRow B 27 1 (.slice a n c) n vs) (hl:xss.length=n) (hA:AllL w vs xss):RowsI w a n c xss:=by
 rcases h.2 with ⟨e,h0⟩ | ⟨b,cc,cur,e,h1,h2,h3,h4⟩
 ·cases e
  exact ⟨by omega,by omega,by unfold maxLen;omega,vs,hA,.inl (by omega)⟩
 ·cases e
  refine ⟨hl,by omega,by omega,vs,hA,.inr ⟨b,0,rfl,(h.lt b rfl).2,fun t ht=>?_⟩⟩
  rw [Nat.zero_add,h.cellAt t (by omega)]
  have hq:=hA.1
  simp [List.getD,show t<vs.length by omega]


theorem info_ints9:(Tryd.prog.info? 27).map (fun i=>(i.zero,i.size,i.bytes))=some (some (.slice none 0 0),1,24):=by kernel_rfl
def ClsGot (e:Ending) (w:World) (r:List (List Int) × Bool):Prop:=∃ rb ro rn rc,e=.returned (.tuple #[.slice (some ⟨rb,ro,none⟩) rn rc,.bool r.2])∧RowsI w (some ⟨rb,ro,none⟩) rn rc r.1
theorem RowsI.news {w:World} {b off n c:Nat} {xss:List (List Int)} (h:RowsI w (some ⟨b,off,none⟩) n c xss):∃ vs,AllL w vs xss∧vs.length=n∧(∀ j u,vs[j]?=some u→w.cell? ((⟨b,off,none⟩:Addr).add j)=some u)∧∀ u ∈ vs,u.oneCell'=true:=by
 obtain ⟨h1,h2,h3,vs,h4,h5⟩:=h
 have hv:=h4.1
 refine ⟨vs,h4,by omega,fun j u hj=>?_,fun u hu=>?_⟩
 ·have hl:=(List.getElem?_eq_some_iff.1 hj).1
  rcases h5 with h5 | ⟨b',off',h6,h7,h8⟩
  ·omega
  ·cases h6
   have h9:=h8 j (by omega)
   have e9:vs.getD j undef=u:=by simp [List.getD,hj]
   rw [e9] at h9
   by_cases e0:j=0
   ·subst e0;simpa [Addr.add] using h9
   ·simpa [Addr.add,e0] using h9
 ·obtain ⟨j,hj,rfl⟩:=List.getElem_of_mem hu
  obtain ⟨la,ln,lc,e,_⟩:=h4.2 j (by omega)
  have e9:vs.getD j undef=vs[j]:=by simp [List.getD,hj]
  rw [← e9,e]
  rfl

theorem classes_leaf {rows:List (List I3)} {cap:Nat} (hp:progOk rows=true) {m:V4} {ls:List Int} {out:List (List Int)} (hs:shapeOk m=true) (hz:(runI rows zeroV [] ls).2.2=0) (hll:ls.length≤60) (ho:out.length≤300) (hEm:enabM rows m 3=[]) (w:World) (a9:Option Addr) (cs:Sl × Sl × Sl) (s:S4) (la:Option Addr) (lc ob oo oc:Nat) (hR:RowsAt w a9 cs rows) (h:Vmem w s m) (hL:Ints .i64 w la ls.length lc ls) (hO:RowsI w (some ⟨ob,oo,none⟩) out.length oc out) :
  Calls Tryd.prog 47 #[.agg #[.slice a9 3 cap],s.val,.slice la ls.length lc,.slice (some ⟨ob,oo,none⟩) out.length oc] w fun e w'=>ClsGot e w' (addG (out,true) (nfG rows ls))∧Below w.heap.size w w':=by
 obtain ⟨⟨t0a,t0n,t0c⟩,⟨t1a,t1n,t1c⟩,⟨t2a,t2n,t2c⟩,⟨t3a,t3n,t3c⟩⟩:=s
 have ut:S4.val ((t0a,t0n,t0c),(t1a,t1n,t1c),(t2a,t2n,t2c),(t3a,t3n,t3c))=.agg #[.slice t0a t0n t0c,.slice t1a t1n t1c,.slice t2a t2n t2c,.slice t3a t3n t3c]:=rfl
 have kE:=fun (W:World) (b:Below w.heap.size w W)=>l03Enabled_is a9 3 cap rows ((t0a,t0n,t0c),(t1a,t1n,t1c),(t2a,t2n,t2c),(t3a,t3n,t3c)) m cs W rfl (hR.below b) (h.below b) hp hs
 rw [ut,hEm] at kE
 rw [ut]
 obtain ⟨i1,hi1,hy0,hy1,hy2⟩:=info_parts info_ints9
 have kV:=fun (W:World) (b:Below w.heap.size w W)=>l05Events_is (cap:=cap) (hR.below b) hp (hL.below b) (by omega)
 rw [hz,if_pos rfl] at kV
 have h3:=evsM_three ls zeroV [] hz
 have HEL:Hid ((evsM rows zeroV ls).length=ls.length):=evsM_len rows ls zeroV
 have kN:=fun (W:World) (ea:Option Addr) (n ec:Nat) (hn:n≤4096) (hEv:Evs W ea n (evsM rows zeroV ls))=>l05Normal_is ea n ec (evsM rows zeroV ls) W hEv hn h3
 have hfn:nfG rows ls=nrmE (evsM rows zeroV ls):=rfl
 rw [hfn]
 generalize nrmE (evsM rows zeroV ls)=fm at *
 generalize evsM rows zeroV ls=es at *
 clear hfn h3 hz hs hEm ut h hR hp
 have bw:Below w.heap.size w ((w.alloc (.cells #[.slice a9 3 cap] 25)).alloc (.cells #[.slice t0a t0n t0c,.slice t1a t1n t1c,.slice t2a t2n t2c,.slice t3a t3n t3c] 30)):=by go_grown
 have pP:Blk ((w.alloc (.cells #[.slice a9 3 cap] 25)).alloc (.cells #[.slice t0a t0n t0c,.slice t1a t1n t1c,.slice t2a t2n t2c,.slice t3a t3n t3c] 30)) w.heap.size 25 [.slice a9 3 cap]:=blkOld _ (blkAt _ _ _ rfl)
 have pS:Blk ((w.alloc (.cells #[.slice a9 3 cap] 25)).alloc (.cells #[.slice t0a t0n t0c,.slice t1a t1n t1c,.slice t2a t2n t2c,.slice t3a t3n t3c] 30)) (w.heap.size+1) 30 [.slice t0a t0n t0c,.slice t1a t1n t1c,.slice t2a t2n t2c,.slice t3a t3n t3c]:=blkAt _ _ _ (by simp)
 have kEx:=kE ((w.alloc (.cells #[.slice a9 3 cap] 25)).alloc (.cells #[.slice t0a t0n t0c,.slice t1a t1n t1c,.slice t2a t2n t2c,.slice t3a t3n t3c] 30)) bw
 go_enter Tryd.func47,Tryd.ntmps47
 go_wp2_with (first | refine wpList_load_blk rfl 25 _ rfl w.heap.size rfl pP _ Tryd.underlying25 rfl (by kernel_rfl) ?_ | refine wpList_load_blk rfl 30 _ rfl (w.heap.size+1) rfl pS _ Tryd.underlying30 rfl (by kernel_rfl) ?_)
 generalize ((w.alloc (.cells #[.slice a9 3 cap] 25)).alloc (.cells #[.slice t0a t0n t0c,.slice t1a t1n t1c,.slice t2a t2n t2c,.slice t3a t3n t3c] 30))=w1 at *
 refine kEx.mono ?_
 rintro e w2 ⟨⟨⟨ea,en,ec⟩,rfl,hE⟩,hb⟩
 have hLn:en=0:=by have:=hE.1;simp at this;omega
 subst hLn
 replace pP:=pP.below hb
 replace bw:=bel_trans bw hb
 clear hb kEx kE hE pS
 have kVx:=kV w2 bw
 go_wp2_with (first | refine wpList_load_blk rfl 25 _ rfl w.heap.size rfl pP _ Tryd.underlying25 rfl (by kernel_rfl) ?_)
 refine kVx.mono ?_
 rintro e w3 ⟨⟨v,rfl,q⟩,hb⟩
 obtain ⟨va,vc,rfl,hEv⟩:=evs_slice q
 replace bw:=bel_trans bw hb
 have kNx:=kN w3 va es.length vc (by rw [HEL.out];omega) hEv
 clear hb kVx kV kN q hEv pP
 go_wp2_with fail
 refine kNx.mono ?_
 rintro e w4 ⟨⟨v,rfl,q⟩,hb⟩
 obtain ⟨fa,fc,rfl,hF⟩:=lst_slice q
 replace bw:=bel_trans bw hb
 replace hO:=hO.below bw
 clear hb kNx q hL HEL
 have HX:Hid (∀ j,j<0→out.getD j []≠fm):=fun j hj=>absurd hj (Nat.not_lt_zero _)
 go_wp2_with fail
 go_loopw [14] (fun si wz=>∃ t:Nat,t≤out.length∧si=.int .i64 t∧Hid (∀ j,j<t→out.getD j []≠fm)∧Below w4.heap.size w4 wz) (fun si _=>out.length - (Go.RowKit.intOf si).toNat)
 case atStart=>exact ⟨0,by omega,rfl,HX,Below.refl _ _⟩
 case round =>
  clear HX
  obtain ⟨t,ht,rfl,HX,bz⟩:=hrel
  by_cases hlt:t<out.length
  ·obtain ⟨ob',oo',ra,rn,rc,e9,c0,hI⟩:=(hO.below bz).cell hlt
   cases e9
   have hlt':(t:Int)<(out.length:Int):=by omega
   have ht0:(0:Int)≤(t:Int):=by omega
   have kS:=l05Same_is ra rn rc (out.getD t []) fa fm.length fc fm wr hI (hF.below bz)
   by_cases hq:out.getD t []=fm
   ·have HA:Hid (addG (out,true) fm=(out,true)):=by
     have hm:fm ∈ out:=by
      rw [← hq]
      simp only [List.getD,List.getElem?_eq_getElem hlt,Option.getD_some]
      exact List.getElem_mem hlt
     rw [Hid];simp [addG,hm]
    rw [decide_eq_true hq] at kS
    have hO9:=hO.below bz
    clear hq hI
    go_wp2_with fail
    refine kS.mono ?_
    rintro e z1 ⟨rfl,d,rfl⟩
    have bb:Below w.heap.size w (wr.drewN d):=below_drewN (bel_trans bw bz) d
    have hO8:=hO9.below (below_drewN (Below.refl wr.heap.size wr) d)
    clear kS hO hO9 hF bz bw c0
    generalize wr.drewN d=z1 at *
    go_wp2
    go_ret2
    rw [HA.out]
    exact ⟨⟨ob,oo,out.length,oc,rfl,hO8⟩,bb⟩
   ·rw [decide_eq_false hq] at kS
    have HX2:Hid (∀ j,j<t+1→out.getD j []≠fm):=fun j hj=>by
     by_cases e:j=t
     ·rw [e];exact hq
     ·exact HX.out j (by omega)
    clear hq hI HX
    go_wp2_with fail
    refine kS.mono ?_
    rintro e z1 ⟨rfl,d,rfl⟩
    replace bz:=below_drewN bz d
    clear kS c0
    generalize wr.drewN d=z1 at *
    go_wp2
    go_roundw
    case rel=>exact ⟨t+1,by omega,by go_num,HX2,bz⟩
    case measure=>simp [Go.RowKit.intOf];omega
  ·obtain rfl:t=out.length:=by omega
   have HA:Hid (addG (out,true) fm=(out++[fm],decide (out.length<300))):=by
    have hm:fm ∉ out:=fun hm=>by
     obtain ⟨j,hj,e⟩:=List.getElem_of_mem hm
     exact HX.out j hj (by simp [List.getD,hj,e])
    rw [Hid];simp [addG,hm]
   replace hO:=hO.below bz
   replace hF:=hF.below bz
   replace bw:=bel_trans bw bz
   clear HX bz
   generalize wr=V0 at *
   obtain ⟨vs,hA,hvl,hnw,h1c⟩:=hO.news
   have q0:=empty8 V0 27 1 V0.heap.size (Nat.le_refl _)
   have ha:Below V0.heap.size V0 (V0.alloc (.cells #[] 27)):=by go_grown
   have hnw2:∀ j u,vs[j]?=some u→(V0.alloc (.cells #[] 27)).cell? ((⟨ob,oo,none⟩:Addr).add j)=some u:=fun j u hj=>cell8 ha (hnw j u hj)
   have hdd:decide ((out.length:Int)<300)=decide (out.length<300):=by
    by_cases h9:out.length<300
    ·rw [decide_eq_true h9,decide_eq_true (by omega)]
    ·rw [decide_eq_false h9,decide_eq_false (by omega)]
   have HDD:Hid (decide ((out.length:Int)<300)=decide (out.length<300)):=hdd
   clear hnw hO hdd
   go_wp2_with (at_builtin;refine wpList_append_own _ rfl _ _ 89 rfl V0.heap.size 27 i1 (.slice none 0 0) 1 24 Tryd.underlying89 hi1 hy0 hy1 hy2 rfl (by decide) _ _ _ rfl q0 ⟨ob,oo,none⟩ out.length oc vs rfl (by rw [hvl];omega) hnw2 h1c ?c3 ?c4 ?c5 ?_)
   case c3=>unfold maxLen;omega
   case c4=>omega
   case c5=>simp
   intro v3 w3 q3 g3 _
   have b3:Below V0.heap.size V0 w3:=ha.grown g3 ha.size (fun q e=>(q0.lt q e).1)
   have q4:w3.ownsRow V0.heap.size 27 1 v3 out.length vs:=by simpa using q3
   have hs3:=b3.size
   clear q3 g3 q0 ha hnw2 h1c
   generalize hfl:fm.length=fl at *
   go_wp2_with (at_builtin;refine wpList_append_own _ rfl _ _ 89 rfl V0.heap.size 27 i1 (.slice none 0 0) 1 24 Tryd.underlying89 hi1 hy0 hy1 hy2 rfl (by decide) _ _ _ rfl (q4.alloc _) ⟨w3.heap.size,0,none⟩ 1 1 [.slice fa fl fc] rfl rfl (cell_one_new _ _ _) (by simp [Value.oneCell']) ?c3 ?c4 ?c5 ?_)
   case c3=>unfold maxLen;omega
   case c4=>omega
   case c5=>simp;omega
   intro v5 w5 q5 g5 _
   have b5:Below V0.heap.size V0 w5:=(bel8 b3 (by go_grown:Below w3.heap.size w3 (w3.alloc (.cells #[.slice fa fl fc] 27)))).grown g5 (by simp;omega) (fun q e=>(q4.lt q e).1)
   obtain ⟨g,c,rfl⟩:=some8 q5 (by omega)
   have hR5:RowsI w5 (some ⟨g,0,none⟩) (out.length+1) c (out++[fm]):=RowsI.own q5 (by simp) ((hA.below b5).snoc ⟨fa,fl,fc,rfl,hF.below b5⟩)
   replace bw:=bel8 bw b5
   clear q5 g5 q4 b3 b5 hA
   go_wp2
   go_ret2
   rw [HA.out]
   exact ⟨⟨g,0,_,c,by simp only [HDD.out];rfl,hR5⟩,bw⟩


theorem lone8 {w:World} {G:Nat} {a:Value} (h0:w.cell? ⟨G,0,none⟩=some a):∀ j u,[a][j]?=some u→w.cell? ((⟨G,0,none⟩:Addr).add j)=some u:=by
 intro j u hj
 match j,hj with
 | 0,hj=>simp at hj;subst hj;simpa [Addr.add] using h0
 | (j+1),hj=>simp at hj
end Go.Proofs.YtjgffnlmjmibgaaDoor
