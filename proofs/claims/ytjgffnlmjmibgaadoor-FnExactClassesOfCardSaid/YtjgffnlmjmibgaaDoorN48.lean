/-
  Joined: ClsS, SizeB, VmLaid, CntS.
-/
import Derived.Test.YtjgffnlmjmibgaaDoorRows
import Derived.ProofKit
import Derived.OpenShut
import Derived.LaidMore
import Derived.MakeChecks
import Derived.Stop.LaidErr
import Derived.Test.YtjgffnlmjmibgaaDoorN06
import Derived.Test.YtjgffnlmjmibgaaDoorN47

namespace Go.Proofs.YtjgffnlmjmibgaaDoor
set_option maxRecDepth 100000
set_option maxHeartbeats 16000000
open Go.RowKit
set_option linter.unusedVariables false
set_option linter.unusedSimpArgs false

def ClC (rows:List (List I3)) (cap f:Nat):Prop:=∀ (m:V4) (ls:List Int) (out:List (List Int)),shapeOk m=true→leftN rows m<f→goesTo rows ls m→ls.length+f≤60→out.length≤300→∀ (w:World) (a9:Option Addr) (cs:Sl × Sl × Sl) (s:S4) (lb lo lc ob oo oc:Nat),RowsAt w a9 cs rows→Vmem w s m→Ints .i64 w (some ⟨lb,lo,none⟩) ls.length lc ls→RowsI w (some ⟨ob,oo,none⟩) out.length oc out →
  Calls Tryd.prog 47 #[.agg #[.slice a9 3 cap],s.val,.slice (some ⟨lb,lo,none⟩) ls.length lc,.slice (some ⟨ob,oo,none⟩) out.length oc] w fun e w'=>ClsGot e w' (gatF rows f m ls (out,true))∧Below w.heap.size w w'
theorem goes_step {rows:List (List I3)} {ls:List Int} {m:V4} {k:Int} (h:goesTo rows ls m) (hz:haltM rows m k=0):goesTo rows (ls++[k]) (goM rows m k).1:=by
 obtain ⟨h1,h2⟩:=h
 unfold goesTo
 rw [runI_snoc rows k ls zeroV [] h1,h2,runI_one,if_pos hz]
 exact ⟨rfl,rfl⟩
def CutX (V W:World) (z:V4) (s16:Value):Prop:=∃ (t:S4) (Y:Nat),s16=.pointer (some ⟨Y,0,none⟩)∧Blk W Y 30 [.slice t.1.1 t.1.2.1 t.1.2.2,.slice t.2.1.1 t.2.1.2.1 t.2.1.2.2,.slice t.2.2.1.1 t.2.2.1.2.1 t.2.2.1.2.2,.slice t.2.2.2.1 t.2.2.2.2.1 t.2.2.2.2.2]∧Vmem W t z∧Below V.heap.size V W
structure OnCl (rows:List (List I3)) (f:Nat) (m:V4) (ls:List Int) (R:List (List Int) × Bool) (w5 wr:World) (s3:Value) (i:Nat) (out:List (List Int)):Prop where
 eq:gatL rows f m ls ((enabM rows m 3).drop i) (out,true)=R
 ol:out.length≤300
 sn:∃ ob oo oc,s3=.slice (some ⟨ob,oo,none⟩) out.length oc∧RowsI wr (some ⟨ob,oo,none⟩) out.length oc out
 bl:Below w5.heap.size w5 wr
theorem gat_pair {rows:List (List I3)} {f:Nat} {m:V4} {ls:List Int} {out:List (List Int)} {r:List (List Int) × Bool} (h:gatF rows f m ls (out,true)=r) (ho:out.length≤300):r.1.length≤301∧(r.2=true→r.1.length≤300):=by
 subst h
 exact gat_room ho

theorem classes_step {rows:List (List I3)} {cap:Nat} (hp:progOk rows=true) {f:Nat} (ih:ClC rows cap f):ClC rows cap (f+1):=by
 intro m ls out hs hf hgo hlf hol w a9 cs s lb lo lc ob oo oc hR h hL hO
 by_cases hEm:enabM rows m 3=[]
 ·rw [gat_end hEm]
  exact classes_leaf hp hs hgo.1 (by omega) hol hEm w a9 cs s (some ⟨lb,lo,none⟩) lc ob oo oc hR h hL hO
 obtain ⟨i0,hi,hz0,hz1,hz2⟩:=info_parts info_int
 obtain ⟨⟨t0a,t0n,t0c⟩,⟨t1a,t1n,t1c⟩,⟨t2a,t2n,t2c⟩,⟨t3a,t3n,t3c⟩⟩:=s
 have ut:S4.val ((t0a,t0n,t0c),(t1a,t1n,t1c),(t2a,t2n,t2c),(t3a,t3n,t3c))=.agg #[.slice t0a t0n t0c,.slice t1a t1n t1c,.slice t2a t2n t2c,.slice t3a t3n t3c]:=rfl
 have kE:=fun (W:World) (b:Below w.heap.size w W)=>l03Enabled_is a9 3 cap rows ((t0a,t0n,t0c),(t1a,t1n,t1c),(t2a,t2n,t2c),(t3a,t3n,t3c)) m cs W rfl (hR.below b) (h.below b) hp hs
 rw [ut] at kE ⊢
 obtain ⟨R,hR0⟩:∃ R,R=gatF rows (f+1) m ls (out,true):=⟨_,rfl⟩
 rw [← hR0]
 rw [gat_go hEm] at hR0
 have HR:Hid (R=gatL rows f m ls (enabM rows m 3) (out,true)):=hR0
 clear hR0
 have bw:Below w.heap.size w ((w.alloc (.cells #[.slice a9 3 cap] 25)).alloc (.cells #[.slice t0a t0n t0c,.slice t1a t1n t1c,.slice t2a t2n t2c,.slice t3a t3n t3c] 30)):=by go_grown
 have pP:Blk ((w.alloc (.cells #[.slice a9 3 cap] 25)).alloc (.cells #[.slice t0a t0n t0c,.slice t1a t1n t1c,.slice t2a t2n t2c,.slice t3a t3n t3c] 30)) w.heap.size 25 [.slice a9 3 cap]:=blkOld _ (blkAt _ _ _ rfl)
 have pS:Blk ((w.alloc (.cells #[.slice a9 3 cap] 25)).alloc (.cells #[.slice t0a t0n t0c,.slice t1a t1n t1c,.slice t2a t2n t2c,.slice t3a t3n t3c] 30)) (w.heap.size+1) 30 [.slice t0a t0n t0c,.slice t1a t1n t1c,.slice t2a t2n t2c,.slice t3a t3n t3c]:=blkAt _ _ _ (by simp)
 go_enter Tryd.func47,Tryd.ntmps47
 go_wp2_with fail
 generalize ((w.alloc (.cells #[.slice a9 3 cap] 25)).alloc (.cells #[.slice t0a t0n t0c,.slice t1a t1n t1c,.slice t2a t2n t2c,.slice t3a t3n t3c] 30))=w0 at *
 have kEx:=kE w0 bw
 clear kE
 go_wp2_with (first | refine wpList_load_blk rfl 25 _ rfl w.heap.size rfl pP _ Tryd.underlying25 rfl (by kernel_rfl) ?_ | refine wpList_load_blk rfl 30 _ rfl (w.heap.size+1) rfl pS _ Tryd.underlying30 rfl (by kernel_rfl) ?_)
 refine kEx.mono ?_
 rintro e w7 ⟨⟨⟨ea,en,ec⟩,rfl,hE⟩,hb⟩
 have hLn:(enabM rows m 3).length=en:=by have:=hE.1;simpa using this
 have hn3:en≤3:=by rw [← hLn];exact enabM_len rows m 3
 have hen0:0<en:=by rw [← hLn];exact List.length_pos_iff.2 hEm
 have hen1:((en:Int) == 0)=false:=by simp;omega
 have hEI:=hE.ints
 replace bw:=bel_trans bw hb
 replace pP:=pP.below hb
 replace pS:=pS.below hb
 replace hL:=hL.below bw
 have st0:OnCl rows f m ls R w7 w7 (.slice (some ⟨ob,oo,none⟩) out.length oc) 0 out:=⟨by rw [HR.out];rfl,hol,⟨_,_,_,rfl,hO.below bw⟩,Below.refl _ _⟩
 clear hb kEx hE hO HR hol hEm
 have HLN:Hid ((enabM rows m 3).length=en):=hLn
 clear hLn
 go_wp2_with fail
 go_loopw [3,15] (fun s3 s15 wr=>∃ (i:Nat) (out:List (List Int)),s15=.int .i64 i∧i≤en∧OnCl rows f m ls R w7 wr s3 i out) (fun _ s15 _=>en - (Go.RowKit.intOf s15).toNat)
 case atStart=>exact ⟨0,_,rfl,Nat.zero_le _,st0⟩
 case round =>
  clear st0 out
  obtain ⟨i,out,rfl,hin,hOn⟩:=hrel
  obtain ⟨heq,hol,⟨xb,xo,xc,rfl,hO⟩,bl⟩:=hOn
  by_cases hlt:i<en
  ·have hlt3:(i:Int)<(en:Int):=by omega
   have hkj:(enabM rows m 3)[i]?=some ((enabM rows m 3).getD i 0):=by rw [List.getD,List.getElem?_eq_getElem (by rw [HLN.out];omega)];rfl
   have hz:=enab_halt (List.mem_of_getElem? hkj)
   obtain ⟨h0k,h2k,hd,_⟩:=halt_can hz
   obtain ⟨k,hk⟩:∃ k:Nat,(enabM rows m 3).getD i 0=(k:Int):=⟨_,(Int.toNat_of_nonneg h0k).symm⟩
   obtain ⟨eb,eo,rfl,hc,hlb⟩:=ints_cellS (hEI.below bl) (show i<en from hlt)
   rw [hk] at hkj hz hd h0k h2k hc
   rw [Int.toNat_natCast] at hd
   have hk3:k<3:=by omega
   clear hk hlb
   have hx:=goM_shape hp hs hz
   have hlx:=left_step hp hs hz
   have hg2:=goes_step hgo hz
   have hdr:(enabM rows m 3).drop i=(k:Int)::(enabM rows m 3).drop (i+1):=by
    obtain ⟨h1,h2⟩:=List.getElem?_eq_some_iff.1 hkj
    rw [List.drop_eq_getElem_cons h1,h2]
   rw [hdr,gatL_cons] at heq
   have kI:=ih (goM rows m (k:Int)).1 (ls++[(k:Int)]) out hx (by omega) hg2 (by simp;omega) hol
   have kP:=fun (W:World) (b:Below w.heap.size w W)=>l03Step_is (cap:=cap) rfl (hR.below b) (h.below b) hp hs hk3 hd
   rw [← goM_nat] at kP
   have ut:S4.val ((t0a,t0n,t0c),(t1a,t1n,t1c),(t2a,t2n,t2c),(t3a,t3n,t3c))=.agg #[.slice t0a t0n t0c,.slice t1a t1n t1c,.slice t2a t2n t2c,.slice t3a t3n t3c]:=rfl
   rw [ut] at kP
   obtain ⟨r,hr⟩:∃ r,gatF rows f (goM rows m (k:Int)).1 (ls++[(k:Int)]) (out,true)=r:=⟨_,rfl⟩
   have hrm:=gat_pair hr hol
   rw [hr] at heq kI
   have HEQ:Hid (gatL rows f m ls ((enabM rows m 3).drop (i+1)) r=R):=heq
   clear heq hdr hkj hz hd hlx hg2 hr
   generalize goM rows m (k:Int)=zf at *
   obtain ⟨z,fl⟩:=zf
   simp only at kP hx kI
   have pPr:=pP.below bl
   have pSr:=pS.below bl
   have bwr:=bel_trans bw bl
   have hi0:(0:Int)≤(i:Int):=by omega
   go_wp2_with fail
   go_cut [16,17] from 56 to 91 (fun s16 s17 W=>CutX wr W z s16)
   ·have hb9:Below wr.heap.size wr wr.drew:=by go_grown
    refine wp_region_held_drew (S:=(fun w'=>w'.cell? ⟨w.heap.size,0,none⟩=some (.slice a9 3 cap)∧w'.cell? ⟨w.heap.size+1,0,none⟩=some (.slice t0a t0n t0c)∧w'.cell? ⟨w.heap.size+1,1,none⟩=some (.slice t1a t1n t1c)∧w'.cell? ⟨w.heap.size+1,2,none⟩=some (.slice t2a t2n t2c)∧w'.cell? ⟨w.heap.size+1,3,none⟩=some (.slice t3a t3n t3c)∧w'.cell? ⟨eb,eo+i,none⟩=some (.int .i64 (k:Int)))) (by kernel_rfl) ⟨by simpa using pPr.cell 0,by simpa using pSr.cell 0,by simpa using pSr.cell 1,by simpa using pSr.cell 2,by simpa using pSr.cell 3,hc⟩ (fun hS0=>?_)
    refine tkm 0 63 (.agg #[.slice a9 3 cap]) ?_
    refine tkm 1 64 (.agg #[.slice t0a t0n t0c,.slice t1a t1n t1c,.slice t2a t2n t2c,.slice t3a t3n t3c]) ?_
    refine tkm 2 65 (.slice (some ⟨eb,eo,none⟩) en ec) ?_
    refine tkm 3 66 (.int .i64 (i:Int)) ?_
    refine tkm 4 67 (.pointer (some ⟨eb,eo+i,none⟩)) ?_
    refine tkm 5 68 (.int .i64 (k:Int)) ?_
    replace bwr:=bel_trans bwr hb9
    generalize wr.drew=V at *
    refine wpAnyH_ready (rs:=[6,10]) (by kernel_rfl) (by simp) ?_
    refine AllReadyH.cons (o:=⟨some 69,_,_,_,_,_⟩) rfl (fun K hK=>?_) (AllReadyH.cons (o:=⟨some 16,_,_,_,_,_⟩) rfl (fun K hK=>?_) AllReadyH.nil)
    ·have kPx:=kP V bwr
     go_simp
     refine kPx.mono ?_
     rintro e V1 ⟨⟨⟨⟨z0a,z0n,z0c⟩,⟨z1a,z1n,z1c⟩,⟨z2a,z2n,z2c⟩,⟨z3a,z3n,z3c⟩⟩,rfl,hO2⟩,hb1⟩
     have uz:S4.val ((z0a,z0n,z0c),(z1a,z1n,z1c),(z2a,z2n,z2c),(z3a,z3n,z3c))=.agg #[.slice z0a z0n z0c,.slice z1a z1n z1c,.slice z2a z2n z2c,.slice z3a z3n z3c]:=rfl
     rw [uz]
     clear uz
     go_wp2_with fail
     refine hK.out _ _ ⟨cells_kept hb1 _ _ hS0.1,cells_kept hb1 _ _ hS0.2.1,cells_kept hb1 _ _ hS0.2.2.1,cells_kept hb1 _ _ hS0.2.2.2.1,cells_kept hb1 _ _ hS0.2.2.2.2.1,cells_kept hb1 _ _ hS0.2.2.2.2.2⟩ (fun hS5=>?_)
     clear hK kPx
     try simp only [Act.put,tka,tkb,tkc]
     refine tkm 7 62 (.tuple #[.agg #[.slice z0a z0n z0c,.slice z1a z1n z1c,.slice z2a z2n z2c,.slice z3a z3n z3c],.int .i64 fl]) ?_
     refine tkm 8 70 (.agg #[.slice z0a z0n z0c,.slice z1a z1n z1c,.slice z2a z2n z2c,.slice z3a z3n z3c]) ?_
     refine tkm 9 71 (.int .i64 fl) ?_
     refine tkr 10 16 (fun K hK=>?_)
     have hb2:Below V1.heap.size V1 (V1.alloc (.cells #[.slice none 0 0,.slice none 0 0,.slice none 0 0,.slice none 0 0] 30)):=by go_grown
     have pX:Blk (V1.alloc (.cells #[.slice none 0 0,.slice none 0 0,.slice none 0 0,.slice none 0 0] 30)) V1.heap.size 30 [.slice none 0 0,.slice none 0 0,.slice none 0 0,.slice none 0 0]:=blkAt _ _ _ rfl
     replace hO2:=hO2.below hb2
     have hbA:=bel_trans hb1 hb2
     have hYV:V.heap.size≤V1.heap.size:=hb1.size
     go_simp
     refine hK.out _ _ ⟨cells_kept hbA _ _ hS0.1,cells_kept hbA _ _ hS0.2.1,cells_kept hbA _ _ hS0.2.2.1,cells_kept hbA _ _ hS0.2.2.2.1,cells_kept hbA _ _ hS0.2.2.2.2.1,cells_kept hbA _ _ hS0.2.2.2.2.2⟩ (fun hS6=>?_)
     clear hK hb1 hb2
     generalize (V1.alloc (.cells #[.slice none 0 0,.slice none 0 0,.slice none 0 0,.slice none 0 0] 30))=V2 at *
     generalize V1.heap.size=Y at *
     try simp only [Act.put,tka,tkb,tkc]
     refine tkz 11 (fun K hK=>?_)
     refine step_store_blkD rfl 30 _ _ rfl Y [.slice z0a z0n z0c,.slice z1a z1n z1c,.slice z2a z2n z2c,.slice z3a z3n z3c] rfl rfl pX (by kernel_rfl) rfl rfl ?_
     intro V8 pX8 g8
     replace hO2:=hO2.kept9 g8 pX (by decide)
     have hbig:=hbA.grown g8 hbA.size (fun q hq=>by cases hq;exact hYV)
     refine hK.out _ _ ⟨cells_kept hbig _ _ hS0.1,cells_kept hbig _ _ hS0.2.1,cells_kept hbig _ _ hS0.2.2.1,cells_kept hbig _ _ hS0.2.2.2.1,cells_kept hbig _ _ hS0.2.2.2.2.1,cells_kept hbig _ _ hS0.2.2.2.2.2⟩ (fun hS7=>?_)
     clear hK pX g8 hbA hYV
     have pX:=pX8.out
     clear pX8
     try simp only [Act.put,tka,tkb,tkc]
     refine tkm 12 17 (.int .i64 fl) ?_
     refine wpAnyH_done (by kernel_rfl) ?_ _
     go_wp2_with fail
     go_meet
     case rel=>exact ⟨((z0a,z0n,z0c),(z1a,z1n,z1c),(z2a,z2n,z2c),(z3a,z3n,z3c)),Y,rfl,pX,hO2.mem (shape_fits9 hx).1,bel_trans hb9 hbig⟩
    ·have hb1:Below V.heap.size V (V.alloc (.cells #[.slice none 0 0,.slice none 0 0,.slice none 0 0,.slice none 0 0] 30)):=by go_grown
     have pX:Blk (V.alloc (.cells #[.slice none 0 0,.slice none 0 0,.slice none 0 0,.slice none 0 0] 30)) V.heap.size 30 [.slice none 0 0,.slice none 0 0,.slice none 0 0,.slice none 0 0]:=blkAt _ _ _ rfl
     have hYV:V.heap.size≤V.heap.size:=Nat.le_refl _
     go_simp
     refine hK.out _ _ ⟨cells_kept hb1 _ _ hS0.1,cells_kept hb1 _ _ hS0.2.1,cells_kept hb1 _ _ hS0.2.2.1,cells_kept hb1 _ _ hS0.2.2.2.1,cells_kept hb1 _ _ hS0.2.2.2.2.1,cells_kept hb1 _ _ hS0.2.2.2.2.2⟩ (fun hS6=>?_)
     clear hK
     have kPx:=kP _ (bel_trans bwr hb1)
     generalize (V.alloc (.cells #[.slice none 0 0,.slice none 0 0,.slice none 0 0,.slice none 0 0] 30))=V2 at *
     obtain ⟨Y,hY⟩:∃ Y,Y=V.heap.size:=⟨_,rfl⟩
     rw [← hY] at pX hYV ⊢
     replace hYV:V.heap.size≤Y:=by omega
     clear hY
     try simp only [Act.put,tka,tkb,tkc]
     refine tkr 6 69 (fun K hK=>?_)
     go_simp
     refine kPx.mono ?_
     rintro e V3 ⟨⟨⟨⟨z0a,z0n,z0c⟩,⟨z1a,z1n,z1c⟩,⟨z2a,z2n,z2c⟩,⟨z3a,z3n,z3c⟩⟩,rfl,hO2⟩,hb2⟩
     have uz:S4.val ((z0a,z0n,z0c),(z1a,z1n,z1c),(z2a,z2n,z2c),(z3a,z3n,z3c))=.agg #[.slice z0a z0n z0c,.slice z1a z1n z1c,.slice z2a z2n z2c,.slice z3a z3n z3c]:=rfl
     rw [uz]
     clear uz
     go_wp2_with fail
     have hbA:=bel_trans hb1 hb2
     replace pX:=pX.below hb2
     refine hK.out _ _ ⟨cells_kept hbA _ _ hS0.1,cells_kept hbA _ _ hS0.2.1,cells_kept hbA _ _ hS0.2.2.1,cells_kept hbA _ _ hS0.2.2.2.1,cells_kept hbA _ _ hS0.2.2.2.2.1,cells_kept hbA _ _ hS0.2.2.2.2.2⟩ (fun hS5=>?_)
     clear hK kPx hb1 hb2
     try simp only [Act.put,tka,tkb,tkc]
     refine tkm 7 62 (.tuple #[.agg #[.slice z0a z0n z0c,.slice z1a z1n z1c,.slice z2a z2n z2c,.slice z3a z3n z3c],.int .i64 fl]) ?_
     refine tkm 8 70 (.agg #[.slice z0a z0n z0c,.slice z1a z1n z1c,.slice z2a z2n z2c,.slice z3a z3n z3c]) ?_
     refine tkm 9 71 (.int .i64 fl) ?_
     refine tkz 11 (fun K hK=>?_)
     refine step_store_blkD rfl 30 _ _ rfl Y [.slice z0a z0n z0c,.slice z1a z1n z1c,.slice z2a z2n z2c,.slice z3a z3n z3c] rfl rfl pX (by kernel_rfl) rfl rfl ?_
     intro V8 pX8 g8
     replace hO2:=hO2.kept9 g8 pX (by decide)
     have hbig:=hbA.grown g8 hbA.size (fun q hq=>by cases hq;exact hYV)
     refine hK.out _ _ ⟨cells_kept hbig _ _ hS0.1,cells_kept hbig _ _ hS0.2.1,cells_kept hbig _ _ hS0.2.2.1,cells_kept hbig _ _ hS0.2.2.2.1,cells_kept hbig _ _ hS0.2.2.2.2.1,cells_kept hbig _ _ hS0.2.2.2.2.2⟩ (fun hS7=>?_)
     clear hK pX g8 hbA hYV
     have pX:=pX8.out
     clear pX8
     try simp only [Act.put,tka,tkb,tkc]
     refine tkm 12 17 (.int .i64 fl) ?_
     refine wpAnyH_done (by kernel_rfl) ?_ _
     go_wp2_with fail
     go_meet
     case rel=>exact ⟨((z0a,z0n,z0c),(z1a,z1n,z1c),(z2a,z2n,z2c),(z3a,z3n,z3c)),Y,rfl,pX,hO2.mem (shape_fits9 hx).1,bel_trans hb9 hbig⟩
   obtain ⟨⟨⟨z0a,z0n,z0c⟩,⟨z1a,z1n,z1c⟩,⟨z2a,z2n,z2c⟩,⟨z3a,z3n,z3c⟩⟩,Y,rfl,pX,hM,bx⟩:=hcut
   simp only at pX
   replace bl:=bel_trans bl bx
   replace bwr:=bel_trans bwr bx
   replace pPr:=pPr.below bx
   replace hO:=hO.below bx
   have hcx:=cells_kept bx _ _ hc
   have hLx:=hL.below bl
   clear bx hc kP pSr
   have uz:S4.val ((z0a,z0n,z0c),(z1a,z1n,z1c),(z2a,z2n,z2c),(z3a,z3n,z3c))=.agg #[.slice z0a z0n z0c,.slice z1a z1n z1c,.slice z2a z2n z2c,.slice z3a z3n z3c]:=rfl
   generalize hwc:wc=U0 at *
   clear hwc
   go_wp2_with fail
   refine wp_region_held_drew (S:=(fun w'=>w'.cell? ⟨w.heap.size,0,none⟩=some (.slice a9 3 cap)∧w'.cell? ⟨Y,0,none⟩=some (.slice z0a z0n z0c)∧w'.cell? ⟨Y,1,none⟩=some (.slice z1a z1n z1c)∧w'.cell? ⟨Y,2,none⟩=some (.slice z2a z2n z2c)∧w'.cell? ⟨Y,3,none⟩=some (.slice z3a z3n z3c)∧w'.cell? ⟨eb,eo+i,none⟩=some (.int .i64 (k:Int))∧U0.heap.size≤w'.heap.size)) (by kernel_rfl) ⟨by simpa using pPr.cell 0,by simpa using pX.cell 0,by simpa using pX.cell 1,by simpa using pX.cell 2,by simpa using pX.cell 3,hcx,Nat.le_refl _⟩ (fun hS0=>?_)
   refine tkm 0 73 (.agg #[.slice a9 3 cap]) ?_
   refine tkm 1 74 (.agg #[.slice z0a z0n z0c,.slice z1a z1n z1c,.slice z2a z2n z2c,.slice z3a z3n z3c]) ?_
   refine tkm 3 76 (.slice (some ⟨lb,lo,none⟩) ls.length lc) ?_
   refine tkm 5 78 (.slice (some ⟨eb,eo,none⟩) en ec) ?_
   refine tkm 6 79 (.int .i64 (i:Int)) ?_
   refine tkm 7 80 (.pointer (some ⟨eb,eo+i,none⟩)) ?_
   refine tkm 8 81 (.int .i64 (k:Int)) ?_
   refine tkm 11 84 (.slice (some ⟨xb,xo,none⟩) out.length xc) ?_
   have bU:Below U0.heap.size U0 U0:=Below.refl _ _
   have hszU:U0.heap.size≤U0.heap.size:=Nat.le_refl _
   refine wpAnyH_ready (rs:=[2,9]) (by kernel_rfl) (by simp) ?_
   refine AllReadyH.cons (o:=⟨some 75,_,_,_,_,_⟩) rfl (fun K hK=>?_) (AllReadyH.cons (o:=⟨some 82,_,_,_,_,_⟩) rfl (fun K hK=>?_) AllReadyH.nil)
   ·have q:=(empty8 U0 3 1 U0.heap.size hszU).drew
    obtain ⟨V1,hV⟩:∃ V,V=U0.heap.size:=⟨_,rfl⟩
    have hal:Below U0.heap.size U0 (U0.alloc (.cells #[] 3)).drew:=by go_grown
    replace bU:=bel8 bU hal
    replace hszU:U0.heap.size≤(U0.alloc (.cells #[] 3)).drew.heap.size:=Nat.le_trans hszU hal.size
    go_simp
    rw [← hV]
    refine hK.out _ _ ⟨cells_kept bU _ _ hS0.1,cells_kept bU _ _ hS0.2.1,cells_kept bU _ _ hS0.2.2.1,cells_kept bU _ _ hS0.2.2.2.1,cells_kept bU _ _ hS0.2.2.2.2.1,cells_kept bU _ _ hS0.2.2.2.2.2.1,Below.size bU⟩ (fun hS21=>?_)
    clear hK hal
    replace q:(U0.alloc (.cells #[] 3)).drew.ownsRow U0.heap.size 3 1 (.slice (some ⟨V1,0,none⟩) 0 0) 0 []:=by rw [hV];exact q
    clear hV
    generalize (U0.alloc (.cells #[] 3)).drew=U1 at *
    try simp only [Act.put,tka,tkb,tkc]
    refine wpAnyH_ready (rs:=[4,9]) (by kernel_rfl) (by simp) ?_
    refine AllReadyH.cons (o:=⟨some 77,_,_,_,_,_⟩) rfl (fun K hK=>?_) (AllReadyH.cons (o:=⟨some 82,_,_,_,_,_⟩) rfl (fun K hK=>?_) AllReadyH.nil)
    ·refine step_app8 rfl _ _ 27 rfl U0.heap.size 3 i0 (.int .i64 0) 1 8 Tryd.underlying27 hi hz0 hz1 hz2 rfl (by decide) (.slice (some ⟨V1,0,none⟩) 0 0) 0 [] rfl q ⟨lb,lo,none⟩ ls.length lc (ls.map (Value.int .i64)) rfl (by rw [List.length_map];omega) (news8 (hLx.below bU)) (one8 _) (by unfold maxLen;omega) (by omega) hszU ?_
     intro v2 U2 q2 gr hob
     replace bU:=bU.grown gr bU.size (fun g hg=>(q.lt g hg).1)
     replace hszU:U0.heap.size≤U2.heap.size:=Nat.le_trans hszU gr.size
     refine hK.out _ _ ⟨cells_kept bU _ _ hS0.1,cells_kept bU _ _ hS0.2.1,cells_kept bU _ _ hS0.2.2.1,cells_kept bU _ _ hS0.2.2.2.1,cells_kept bU _ _ hS0.2.2.2.2.1,cells_kept bU _ _ hS0.2.2.2.2.2.1,Below.size bU⟩ (fun hS22=>?_)
     clear hK q gr hob
     have q:=q2
     clear q2
     try simp only [Act.put,tka,tkb,tkc]
     refine tkr 9 82 (fun K hK=>?_)
     obtain ⟨G,hG⟩:∃ G,G=U2.heap.size:=⟨_,rfl⟩
     have e0:(U2.alloc (.cells #[.int .i64 (k:Int)] 3)).cell? ⟨G,0,none⟩=some (.int .i64 (k:Int)):=by subst hG;simp [go_sem]
     have hal:Below U2.heap.size U2 (U2.alloc (.cells #[.int .i64 (k:Int)] 3)):=by go_grown
     have hap:∀ g,Value.ownBlock v2=some g→g≠G:=fun g hg e=>by have:=(q.lt g hg).2;omega
     replace q:=owns8 q hal
     replace bU:=bel8 bU hal
     replace hszU:U0.heap.size≤(U2.alloc (.cells #[.int .i64 (k:Int)] 3)).heap.size:=Nat.le_trans hszU hal.size
     go_simp
     rw [← hG]
     refine hK.out _ _ ⟨cells_kept bU _ _ hS0.1,cells_kept bU _ _ hS0.2.1,cells_kept bU _ _ hS0.2.2.1,cells_kept bU _ _ hS0.2.2.2.1,cells_kept bU _ _ hS0.2.2.2.2.1,cells_kept bU _ _ hS0.2.2.2.2.2.1,Below.size bU⟩ (fun hS23=>?_)
     clear hK hal
     clear hG
     generalize (U2.alloc (.cells #[.int .i64 (k:Int)] 3))=U3 at *
     try simp only [Act.put,tka,tkb,tkc]
     refine tkr 10 83 (fun K hK=>?_)
     refine step_app8 rfl _ _ 27 rfl U0.heap.size 3 i0 (.int .i64 0) 1 8 Tryd.underlying27 hi hz0 hz1 hz2 rfl (by decide) v2 (0+ls.length) ([]++ls.map (Value.int .i64)) rfl q ⟨G,0,none⟩ 1 1 [.int .i64 (k:Int)] rfl rfl (lone8 e0) (one8 [(k:Int)]) (by unfold maxLen;omega) (by omega) hszU ?_
     intro v4 U4 q2 gr hob
     replace bU:=bU.grown gr bU.size (fun g hg=>(q.lt g hg).1)
     replace hszU:U0.heap.size≤U4.heap.size:=Nat.le_trans hszU gr.size
     refine hK.out _ _ ⟨cells_kept bU _ _ hS0.1,cells_kept bU _ _ hS0.2.1,cells_kept bU _ _ hS0.2.2.1,cells_kept bU _ _ hS0.2.2.2.1,cells_kept bU _ _ hS0.2.2.2.2.1,cells_kept bU _ _ hS0.2.2.2.2.2.1,Below.size bU⟩ (fun hS24=>?_)
     clear hK q gr hob
     have q:=q2
     clear q2
     clear e0 hap
     try simp only [Act.put,tka,tkb,tkc]
     refine tkr 12 85 (fun K hK=>?_)
     obtain ⟨lg,lc9,rfl⟩:=some8 q (by omega)
     have e9:0+ls.length+1=(ls++[(k:Int)]).length:=by simp
     generalize 0+ls.length+1=n1 at *
     have q9:U4.ownsRow U0.heap.size 3 1 (.slice (some ⟨lg,0,none⟩) n1 lc9) n1 ((ls++[(k:Int)]).map (Value.int .i64)):=by simpa using q
     have kIx:=kI U4 a9 cs ((z0a,z0n,z0c),(z1a,z1n,z1c),(z2a,z2n,z2c),(z3a,z3n,z3c)) lg 0 lc9 xb xo xc (hR.below (bel_trans bwr bU)) (hM.below bU) (by have:=ints8 q9;rw [e9] at this;exact this) (hO.below bU)
     rw [uz,← e9] at kIx
     clear e9 q9 q kI
     go_simp
     refine kIx.mono ?_
     rintro e Va ⟨⟨rb,ro,rn,rc9,rfl,hR9⟩,hb⟩
     go_wp2_with fail
     have bV:=bel_trans bU hb
     refine hK.out _ _ ⟨cells_kept bV _ _ hS0.1,cells_kept bV _ _ hS0.2.1,cells_kept bV _ _ hS0.2.2.1,cells_kept bV _ _ hS0.2.2.2.1,cells_kept bV _ _ hS0.2.2.2.2.1,cells_kept bV _ _ hS0.2.2.2.2.2.1,Below.size bV⟩ (fun hS39=>?_)
     clear hK kIx hb
     try simp only [Act.put,tka,tkb,tkc]
     refine tkm 13 72 (.tuple #[.slice (some ⟨rb,ro,none⟩) rn rc9,.bool r.2]) ?_
     refine tkm 14 86 (.slice (some ⟨rb,ro,none⟩) rn rc9) ?_
     refine tkm 15 87 (.bool r.2) ?_
     refine tkm 16 18 (.slice (some ⟨rb,ro,none⟩) rn rc9) ?_
     refine tkm 17 19 (.bool r.2) ?_
     refine wpAnyH_done (by kernel_rfl) ?_ _
     replace bl:=bel_trans bl bV
     clear hS0 hszU bU bV pX hM hO hLx pPr bwr
     obtain rfl:rn=r.1.length:=hR9.1.symm
     obtain ⟨ro2,rk⟩:=r
     simp only at hR9 hrm
     cases rk with
     | true =>
      have st9:OnCl rows f m ls R w7 Va (.slice (some ⟨rb,ro,none⟩) ro2.length rc9) (i+1) ro2:=⟨HEQ.out,hrm.2 rfl,⟨_,_,_,rfl,hR9⟩,bl⟩
      clear HEQ hR9 bl hrm
      go_wp2
      go_roundw
      case rel=>exact ⟨i+1,ro2,by go_num,by omega,st9⟩
      case measure=>simp [Go.RowKit.intOf];omega
     | false =>
      have HF9:Hid (R=(ro2,false)):=by rw [Hid,← HEQ.out];exact gatL_stop _ _
      clear HEQ hrm
      go_wp2
      go_ret2
      exact ⟨by rw [HF9.out];exact ⟨_,_,_,_,rfl,hR9⟩,bel_trans bw bl⟩
    ·obtain ⟨G,hG⟩:∃ G,G=U1.heap.size:=⟨_,rfl⟩
     have e0:(U1.alloc (.cells #[.int .i64 (k:Int)] 3)).cell? ⟨G,0,none⟩=some (.int .i64 (k:Int)):=by subst hG;simp [go_sem]
     have hal:Below U1.heap.size U1 (U1.alloc (.cells #[.int .i64 (k:Int)] 3)):=by go_grown
     have hap:∀ g,Value.ownBlock (.slice (some ⟨V1,0,none⟩) 0 0)=some g→g≠G:=fun g hg e=>by have:=(q.lt g hg).2;omega
     replace q:=owns8 q hal
     replace bU:=bel8 bU hal
     replace hszU:U0.heap.size≤(U1.alloc (.cells #[.int .i64 (k:Int)] 3)).heap.size:=Nat.le_trans hszU hal.size
     go_simp
     rw [← hG]
     refine hK.out _ _ ⟨cells_kept bU _ _ hS0.1,cells_kept bU _ _ hS0.2.1,cells_kept bU _ _ hS0.2.2.1,cells_kept bU _ _ hS0.2.2.2.1,cells_kept bU _ _ hS0.2.2.2.2.1,cells_kept bU _ _ hS0.2.2.2.2.2.1,Below.size bU⟩ (fun hS26=>?_)
     clear hK hal
     clear hG
     generalize (U1.alloc (.cells #[.int .i64 (k:Int)] 3))=U6 at *
     try simp only [Act.put,tka,tkb,tkc]
     refine tkr 4 77 (fun K hK=>?_)
     have hGl:=World.block_lt_of_cell? _ _ e0
     refine step_app8 rfl _ _ 27 rfl U0.heap.size 3 i0 (.int .i64 0) 1 8 Tryd.underlying27 hi hz0 hz1 hz2 rfl (by decide) (.slice (some ⟨V1,0,none⟩) 0 0) 0 [] rfl q ⟨lb,lo,none⟩ ls.length lc (ls.map (Value.int .i64)) rfl (by rw [List.length_map];omega) (news8 (hLx.below bU)) (one8 _) (by unfold maxLen;omega) (by omega) hszU ?_
     intro v7 U7 q2 gr hob
     replace e0:=grown8 gr e0 (fun e=>hap _ e.symm rfl)
     have hap2:∀ g,Value.ownBlock v7=some g→g≠G:=fun g hg e=>by
      rcases hob with hu | hu
      ·exact hap g (hu▸hg) e
      ·rw [hu] at hg
       simp at hg hGl
       omega
     clear hap hGl
     have hap:=hap2
     clear hap2
     replace bU:=bU.grown gr bU.size (fun g hg=>(q.lt g hg).1)
     replace hszU:U0.heap.size≤U7.heap.size:=Nat.le_trans hszU gr.size
     refine hK.out _ _ ⟨cells_kept bU _ _ hS0.1,cells_kept bU _ _ hS0.2.1,cells_kept bU _ _ hS0.2.2.1,cells_kept bU _ _ hS0.2.2.2.1,cells_kept bU _ _ hS0.2.2.2.2.1,cells_kept bU _ _ hS0.2.2.2.2.2.1,Below.size bU⟩ (fun hS27=>?_)
     clear hK q gr hob
     have q:=q2
     clear q2
     try simp only [Act.put,tka,tkb,tkc]
     refine tkr 10 83 (fun K hK=>?_)
     refine step_app8 rfl _ _ 27 rfl U0.heap.size 3 i0 (.int .i64 0) 1 8 Tryd.underlying27 hi hz0 hz1 hz2 rfl (by decide) v7 (0+ls.length) ([]++ls.map (Value.int .i64)) rfl q ⟨G,0,none⟩ 1 1 [.int .i64 (k:Int)] rfl rfl (lone8 e0) (one8 [(k:Int)]) (by unfold maxLen;omega) (by omega) hszU ?_
     intro v8 U8 q2 gr hob
     replace bU:=bU.grown gr bU.size (fun g hg=>(q.lt g hg).1)
     replace hszU:U0.heap.size≤U8.heap.size:=Nat.le_trans hszU gr.size
     refine hK.out _ _ ⟨cells_kept bU _ _ hS0.1,cells_kept bU _ _ hS0.2.1,cells_kept bU _ _ hS0.2.2.1,cells_kept bU _ _ hS0.2.2.2.1,cells_kept bU _ _ hS0.2.2.2.2.1,cells_kept bU _ _ hS0.2.2.2.2.2.1,Below.size bU⟩ (fun hS28=>?_)
     clear hK q gr hob
     have q:=q2
     clear q2
     clear e0 hap
     try simp only [Act.put,tka,tkb,tkc]
     refine tkr 12 85 (fun K hK=>?_)
     obtain ⟨lg,lc9,rfl⟩:=some8 q (by omega)
     have e9:0+ls.length+1=(ls++[(k:Int)]).length:=by simp
     generalize 0+ls.length+1=n1 at *
     have q9:U8.ownsRow U0.heap.size 3 1 (.slice (some ⟨lg,0,none⟩) n1 lc9) n1 ((ls++[(k:Int)]).map (Value.int .i64)):=by simpa using q
     have kIx:=kI U8 a9 cs ((z0a,z0n,z0c),(z1a,z1n,z1c),(z2a,z2n,z2c),(z3a,z3n,z3c)) lg 0 lc9 xb xo xc (hR.below (bel_trans bwr bU)) (hM.below bU) (by have:=ints8 q9;rw [e9] at this;exact this) (hO.below bU)
     rw [uz,← e9] at kIx
     clear e9 q9 q kI
     go_simp
     refine kIx.mono ?_
     rintro e Va ⟨⟨rb,ro,rn,rc9,rfl,hR9⟩,hb⟩
     go_wp2_with fail
     have bV:=bel_trans bU hb
     refine hK.out _ _ ⟨cells_kept bV _ _ hS0.1,cells_kept bV _ _ hS0.2.1,cells_kept bV _ _ hS0.2.2.1,cells_kept bV _ _ hS0.2.2.2.1,cells_kept bV _ _ hS0.2.2.2.2.1,cells_kept bV _ _ hS0.2.2.2.2.2.1,Below.size bV⟩ (fun hS39=>?_)
     clear hK kIx hb
     try simp only [Act.put,tka,tkb,tkc]
     refine tkm 13 72 (.tuple #[.slice (some ⟨rb,ro,none⟩) rn rc9,.bool r.2]) ?_
     refine tkm 14 86 (.slice (some ⟨rb,ro,none⟩) rn rc9) ?_
     refine tkm 15 87 (.bool r.2) ?_
     refine tkm 16 18 (.slice (some ⟨rb,ro,none⟩) rn rc9) ?_
     refine tkm 17 19 (.bool r.2) ?_
     refine wpAnyH_done (by kernel_rfl) ?_ _
     replace bl:=bel_trans bl bV
     clear hS0 hszU bU bV pX hM hO hLx pPr bwr
     obtain rfl:rn=r.1.length:=hR9.1.symm
     obtain ⟨ro2,rk⟩:=r
     simp only at hR9 hrm
     cases rk with
     | true =>
      have st9:OnCl rows f m ls R w7 Va (.slice (some ⟨rb,ro,none⟩) ro2.length rc9) (i+1) ro2:=⟨HEQ.out,hrm.2 rfl,⟨_,_,_,rfl,hR9⟩,bl⟩
      clear HEQ hR9 bl hrm
      go_wp2
      go_roundw
      case rel=>exact ⟨i+1,ro2,by go_num,by omega,st9⟩
      case measure=>simp [Go.RowKit.intOf];omega
     | false =>
      have HF9:Hid (R=(ro2,false)):=by rw [Hid,← HEQ.out];exact gatL_stop _ _
      clear HEQ hrm
      go_wp2
      go_ret2
      exact ⟨by rw [HF9.out];exact ⟨_,_,_,_,rfl,hR9⟩,bel_trans bw bl⟩
   ·obtain ⟨G,hG⟩:∃ G,G=U0.heap.size:=⟨_,rfl⟩
    have e0:(U0.alloc (.cells #[.int .i64 (k:Int)] 3)).drew.cell? ⟨G,0,none⟩=some (.int .i64 (k:Int)):=by subst hG;simp [go_sem]
    have hal:Below U0.heap.size U0 (U0.alloc (.cells #[.int .i64 (k:Int)] 3)).drew:=by go_grown
    replace bU:=bel8 bU hal
    replace hszU:U0.heap.size≤(U0.alloc (.cells #[.int .i64 (k:Int)] 3)).drew.heap.size:=Nat.le_trans hszU hal.size
    go_simp
    rw [← hG]
    refine hK.out _ _ ⟨cells_kept bU _ _ hS0.1,cells_kept bU _ _ hS0.2.1,cells_kept bU _ _ hS0.2.2.1,cells_kept bU _ _ hS0.2.2.2.1,cells_kept bU _ _ hS0.2.2.2.2.1,cells_kept bU _ _ hS0.2.2.2.2.2.1,Below.size bU⟩ (fun hS30=>?_)
    clear hK hal
    clear hG
    generalize (U0.alloc (.cells #[.int .i64 (k:Int)] 3)).drew=U10 at *
    try simp only [Act.put,tka,tkb,tkc]
    refine tkr 2 75 (fun K hK=>?_)
    have q:=(empty8 U10 3 1 U0.heap.size hszU)
    obtain ⟨V11,hV⟩:∃ V,V=U10.heap.size:=⟨_,rfl⟩
    have hap:∀ g,(Value.slice (some ⟨U10.heap.size,0,none⟩) 0 0).ownBlock=some g→g≠G:=fun g hg e=>by have hGl:=World.block_lt_of_cell? _ _ e0;simp [Value.ownBlock] at hg;simp at hGl;omega
    have hal:Below U10.heap.size U10 (U10.alloc (.cells #[] 3)):=by go_grown
    replace e0:=cell8 hal e0
    replace bU:=bel8 bU hal
    replace hszU:U0.heap.size≤(U10.alloc (.cells #[] 3)).heap.size:=Nat.le_trans hszU hal.size
    go_simp
    rw [← hV]
    refine hK.out _ _ ⟨cells_kept bU _ _ hS0.1,cells_kept bU _ _ hS0.2.1,cells_kept bU _ _ hS0.2.2.1,cells_kept bU _ _ hS0.2.2.2.1,cells_kept bU _ _ hS0.2.2.2.2.1,cells_kept bU _ _ hS0.2.2.2.2.2.1,Below.size bU⟩ (fun hS31=>?_)
    clear hK hal
    replace q:(U10.alloc (.cells #[] 3)).ownsRow U0.heap.size 3 1 (.slice (some ⟨V11,0,none⟩) 0 0) 0 []:=by rw [hV];exact q
    replace hap:∀ g,(Value.slice (some ⟨V11,0,none⟩) 0 0).ownBlock=some g→g≠G:=by rw [hV];exact hap
    clear hV
    generalize (U10.alloc (.cells #[] 3))=U11 at *
    try simp only [Act.put,tka,tkb,tkc]
    refine tkr 4 77 (fun K hK=>?_)
    have hGl:=World.block_lt_of_cell? _ _ e0
    refine step_app8 rfl _ _ 27 rfl U0.heap.size 3 i0 (.int .i64 0) 1 8 Tryd.underlying27 hi hz0 hz1 hz2 rfl (by decide) (.slice (some ⟨V11,0,none⟩) 0 0) 0 [] rfl q ⟨lb,lo,none⟩ ls.length lc (ls.map (Value.int .i64)) rfl (by rw [List.length_map];omega) (news8 (hLx.below bU)) (one8 _) (by unfold maxLen;omega) (by omega) hszU ?_
    intro v12 U12 q2 gr hob
    replace e0:=grown8 gr e0 (fun e=>hap _ e.symm rfl)
    have hap2:∀ g,Value.ownBlock v12=some g→g≠G:=fun g hg e=>by
     rcases hob with hu | hu
     ·exact hap g (hu▸hg) e
     ·rw [hu] at hg
      simp at hg hGl
      omega
    clear hap hGl
    have hap:=hap2
    clear hap2
    replace bU:=bU.grown gr bU.size (fun g hg=>(q.lt g hg).1)
    replace hszU:U0.heap.size≤U12.heap.size:=Nat.le_trans hszU gr.size
    refine hK.out _ _ ⟨cells_kept bU _ _ hS0.1,cells_kept bU _ _ hS0.2.1,cells_kept bU _ _ hS0.2.2.1,cells_kept bU _ _ hS0.2.2.2.1,cells_kept bU _ _ hS0.2.2.2.2.1,cells_kept bU _ _ hS0.2.2.2.2.2.1,Below.size bU⟩ (fun hS32=>?_)
    clear hK q gr hob
    have q:=q2
    clear q2
    try simp only [Act.put,tka,tkb,tkc]
    refine tkr 10 83 (fun K hK=>?_)
    refine step_app8 rfl _ _ 27 rfl U0.heap.size 3 i0 (.int .i64 0) 1 8 Tryd.underlying27 hi hz0 hz1 hz2 rfl (by decide) v12 (0+ls.length) ([]++ls.map (Value.int .i64)) rfl q ⟨G,0,none⟩ 1 1 [.int .i64 (k:Int)] rfl rfl (lone8 e0) (one8 [(k:Int)]) (by unfold maxLen;omega) (by omega) hszU ?_
    intro v13 U13 q2 gr hob
    replace bU:=bU.grown gr bU.size (fun g hg=>(q.lt g hg).1)
    replace hszU:U0.heap.size≤U13.heap.size:=Nat.le_trans hszU gr.size
    refine hK.out _ _ ⟨cells_kept bU _ _ hS0.1,cells_kept bU _ _ hS0.2.1,cells_kept bU _ _ hS0.2.2.1,cells_kept bU _ _ hS0.2.2.2.1,cells_kept bU _ _ hS0.2.2.2.2.1,cells_kept bU _ _ hS0.2.2.2.2.2.1,Below.size bU⟩ (fun hS33=>?_)
    clear hK q gr hob
    have q:=q2
    clear q2
    clear e0 hap
    try simp only [Act.put,tka,tkb,tkc]
    refine tkr 12 85 (fun K hK=>?_)
    obtain ⟨lg,lc9,rfl⟩:=some8 q (by omega)
    have e9:0+ls.length+1=(ls++[(k:Int)]).length:=by simp
    generalize 0+ls.length+1=n1 at *
    have q9:U13.ownsRow U0.heap.size 3 1 (.slice (some ⟨lg,0,none⟩) n1 lc9) n1 ((ls++[(k:Int)]).map (Value.int .i64)):=by simpa using q
    have kIx:=kI U13 a9 cs ((z0a,z0n,z0c),(z1a,z1n,z1c),(z2a,z2n,z2c),(z3a,z3n,z3c)) lg 0 lc9 xb xo xc (hR.below (bel_trans bwr bU)) (hM.below bU) (by have:=ints8 q9;rw [e9] at this;exact this) (hO.below bU)
    rw [uz,← e9] at kIx
    clear e9 q9 q kI
    go_simp
    refine kIx.mono ?_
    rintro e Va ⟨⟨rb,ro,rn,rc9,rfl,hR9⟩,hb⟩
    go_wp2_with fail
    have bV:=bel_trans bU hb
    refine hK.out _ _ ⟨cells_kept bV _ _ hS0.1,cells_kept bV _ _ hS0.2.1,cells_kept bV _ _ hS0.2.2.1,cells_kept bV _ _ hS0.2.2.2.1,cells_kept bV _ _ hS0.2.2.2.2.1,cells_kept bV _ _ hS0.2.2.2.2.2.1,Below.size bV⟩ (fun hS39=>?_)
    clear hK kIx hb
    try simp only [Act.put,tka,tkb,tkc]
    refine tkm 13 72 (.tuple #[.slice (some ⟨rb,ro,none⟩) rn rc9,.bool r.2]) ?_
    refine tkm 14 86 (.slice (some ⟨rb,ro,none⟩) rn rc9) ?_
    refine tkm 15 87 (.bool r.2) ?_
    refine tkm 16 18 (.slice (some ⟨rb,ro,none⟩) rn rc9) ?_
    refine tkm 17 19 (.bool r.2) ?_
    refine wpAnyH_done (by kernel_rfl) ?_ _
    replace bl:=bel_trans bl bV
    clear hS0 hszU bU bV pX hM hO hLx pPr bwr
    obtain rfl:rn=r.1.length:=hR9.1.symm
    obtain ⟨ro2,rk⟩:=r
    simp only at hR9 hrm
    cases rk with
    | true =>
     have st9:OnCl rows f m ls R w7 Va (.slice (some ⟨rb,ro,none⟩) ro2.length rc9) (i+1) ro2:=⟨HEQ.out,hrm.2 rfl,⟨_,_,_,rfl,hR9⟩,bl⟩
     clear HEQ hR9 bl hrm
     go_wp2
     go_roundw
     case rel=>exact ⟨i+1,ro2,by go_num,by omega,st9⟩
     case measure=>simp [Go.RowKit.intOf];omega
    | false =>
     have HF9:Hid (R=(ro2,false)):=by rw [Hid,← HEQ.out];exact gatL_stop _ _
     clear HEQ hrm
     go_wp2
     go_ret2
     exact ⟨by rw [HF9.out];exact ⟨_,_,_,_,rfl,hR9⟩,bel_trans bw bl⟩
  ·have hge:¬ (i:Int)<(en:Int):=by omega
   have HF9:Hid (R=(out,true)):=by
    rw [Hid,← heq,List.drop_of_length_le (by rw [HLN.out];omega)]
    rfl
   clear heq pP pS hEI hL
   go_wp2
   go_ret2
   exact ⟨by rw [HF9.out];exact ⟨_,_,_,_,rfl,hO⟩,bel_trans bw bl⟩
theorem classes_all {rows:List (List I3)} {cap:Nat} (hp:progOk rows=true):∀ f,ClC rows cap f
 | 0=>fun m ls out hs hf=>by omega
 | f+1=>classes_step hp (classes_all hp f)


theorem lessAll_each:∀ (rows:List (List I3)) (left:Int),0≤lessAll left rows→0≤left→∀ r ∈ rows,(r.length:Int)≤left
 | [],_,_,_,r,hr=>by cases hr
 | x::xs,left,h,h0,r,hr=>by
  unfold lessAll at h
  split at h
  ·omega
  ·rcases List.mem_cons.1 hr with rfl | hr
   ·omega
   ·have:=lessAll_each xs (left - x.length) h (by omega) r hr
    omega

theorem getD_length_le {rows:List (List I3)} {n:Nat} (h:∀ r ∈ rows,r.length≤n) (t:Nat):(rows.getD t []).length≤n:=by
 by_cases ht:t<rows.length
 ·have:rows.getD t []=rows[t]:=by simp [List.getD,ht]
  rw [this]
  exact h _ (List.getElem_mem ht)
 ·have:rows.getD t []=[]:=by simp [List.getD,List.getElem?_eq_none (Nat.le_of_not_lt ht)]
  rw [this]
  exact Nat.zero_le _

theorem size_bounds {rows:List (List I3)} {left:Int} (hm:left≤1048576) (h:0≤sizeLeft left rows) (h0:0≤left):rows.length≤1048576∧∀ t,(rows.getD t []).length≤1048576:=by
 unfold sizeLeft at h
 split at h
 ·omega
 ·refine ⟨by omega,fun t=>getD_length_le (fun r hr=>?_) t⟩
  have:=lessAll_each rows _ h (by omega) r hr
  omega

open Go.RowKit Go.ChangeShapes

theorem gVmShape:Tryd.prog.globalNamed "loop.example/g00632/impl.vmShape"=some 0:=by kernel_rfl
theorem tVmShape:(Tryd.prog.globals[0]?).map (·.type)=some 129:=by kernel_rfl

section
variable {H : Type} {enc : TypeId × Value → H} {w : World} {base : Nat} {spare : Nat → Bool} {held : Bool}
theorem part_cells {fuel:Nat} {cs:List Value} {a b:Int} {p:List MemPlace} (h:DataW.trod enc Tryd.prog w base spare held fuel 128 cs=some (.agg [.lit (.int .i64 a),.lit (.int .i64 b)],p)):cs=[.int .i64 a,.int .i64 b]:=by
 obtain ⟨y0,y1,n,hx,hl,h0,h1⟩:=trod_struct2 Tryd.underlying128 h
 have hl2:cs.length=2:=hl.trans (by kernel_rfl)
 have hk:Tryd.prog.cellsOf 3=1:=by kernel_rfl
 match cs,hl2 with
 | [c0,c1],_ =>
  simp only [hk] at h0 h1
  obtain ⟨z0,e0,hy0,_⟩:=DataW.trod_int Tryd.underlying3 h0
  obtain ⟨z1,e1,hy1,_⟩:=DataW.trod_int Tryd.underlying3 h1
  simp at e0 e1
  subst hy0 hy1 e0 e1
  simp at hx
  simp [hx]
theorem shape_cells {fuel:Nat} {cs:List Value} {p:List MemPlace} (h:DataW.trod enc Tryd.prog w base spare held fuel 129 cs=some (Rows.laid_loop_example_g00632_impl_vmShape,p)):cs=[3,6,4,9,2,3,6,9].map (Value.int .i64):=by
 obtain ⟨xs,m,_,hx,hl,hn,hi⟩:=DataW.trod_array Tryd.underlying129 h
 have hk:Tryd.prog.cellsOf 128=2:=by kernel_rfl
 have hl8:cs.length=8:=hl.trans (by kernel_rfl)
 rw [hk] at hi
 match xs,hn with
 | [⟨x0,p0⟩,⟨x1,p1⟩,⟨x2,p2⟩,⟨x3,p3⟩],_ =>
  unfold Rows.laid_loop_example_g00632_impl_vmShape at hx
  simp at hx
  obtain ⟨⟨rfl,rfl,rfl,rfl⟩,_⟩:=hx
  match cs,hl8 with
  | [c0,c1,c2,c3,c4,c5,c6,c7],_ =>
   have g0:=part_cells (hi 0 (by decide))
   have g1:=part_cells (hi 1 (by decide))
   have g2:=part_cells (hi 2 (by decide))
   have g3:=part_cells (hi 3 (by decide))
   simp at g0 g1 g2 g3
   simp [g0,g1,g2,g3]
end

theorem vmShape_of_laid {W:World} {p:List (String × DataW Unit)} (hp:p=[("loop.example/g00632/impl.vmShape",Rows.laid_loop_example_g00632_impl_vmShape)]) (h:laidMetH Tryd.prog p W):VmShape W:=by
 subst hp
 rw [MakeChecks.laidMetH_plain _ _ _ (by kernel_rfl)] at h
 obtain ⟨ps,⟨g0,t0,cs0,f0,p0,q0,hg0,ht0,hv0,hd0,_,_⟩,_,_⟩:=h
 obtain rfl:=Option.some.inj (gVmShape.symm.trans hg0)
 obtain rfl:=Option.some.inj (tVmShape.symm.trans ht0)
 have hcs:=shape_cells hd0
 unfold World.var? at hv0
 simp only [gVmShape,Option.bind_some] at hv0
 cases hh:W.heap[0]? with
 | none=>rw [hh] at hv0;cases hv0
 | some o =>
  rw [hh] at hv0
  cases o with
  | cells cs t fr =>
   simp only [Option.some.injEq] at hv0
   subst hv0
   intro i v hi
   rw [← hcs] at hi
   simp only [World.cell?,hh]
   simpa using hi
  | _=>cases hv0


theorem bit_is6 (b:Bool) (w:World):Calls Tryd.prog 82 #[.bool b] w fun e w'=>e=.returned (.int .i64 (if b then 1 else 0))∧w=w':=by
 cases b
 ·go_enter Tryd.func82,Tryd.ntmps82
  go_wp2
  go_ret
  exact ⟨rfl,rfl⟩
 ·go_enter Tryd.func82,Tryd.ntmps82
  go_wp2
  go_ret
  exact ⟨rfl,rfl⟩
def CtS (rows:List (List I3)) (S:List (Rec6 V4)) (sum:Int) (i:Nat) (cts:List Int):Prop:=cts.length=S.length∧∀ q r,S[q]?=some r→(sum<pcsN r.1∨(pcsN r.1=sum∧q<i))→cts.getD q 0=(cntM rows r.1:Int)
theorem CtS.start {rows:List (List I3)} {S:List (Rec6 V4)} (hS:Shaped S):CtS rows S 18 0 (List.replicate S.length 0):=⟨by simp,fun q r hr h=>by
 have:=(pcs_bounds (hS r (List.mem_of_getElem? hr))).2
 omega⟩
theorem CtS.skip {rows:List (List I3)} {S:List (Rec6 V4)} {sum:Int} {i:Nat} {cts:List Int} (h:CtS rows S sum i cts) {r:Rec6 V4} (hr:S[i]?=some r) (hn:pcsN r.1≠sum):CtS rows S sum (i+1) cts:=⟨h.1,fun q r' hq hc=>by
 refine h.2 q r' hq (hc.imp id fun ⟨h1,h2⟩=>⟨h1,?_⟩)
 by_cases e:q=i
 ·subst e
  rw [hr] at hq
  cases hq
  exact absurd h1 hn
 ·omega⟩
theorem CtS.put {rows:List (List I3)} {S:List (Rec6 V4)} {sum:Int} {i:Nat} {cts:List Int} (h:CtS rows S sum i cts) {r:Rec6 V4} (hr:S[i]?=some r):CtS rows S sum (i+1) (cts.set i (cntM rows r.1:Int)):=⟨by simp [h.1],fun q r' hq hc=>by
 have hl:i<S.length:=(List.getElem?_eq_some_iff.1 hr).1
 by_cases e:i=q
 ·subst e
  rw [hr] at hq
  cases hq
  simp [List.getD,h.1,hl]
 ·have:=h.2 q r' hq (hc.imp id fun ⟨h1,h2⟩=>⟨h1,by omega⟩)
  simp only [List.getD,List.getElem?_set_ne e] at this ⊢
  exact this⟩
theorem CtS.next {rows:List (List I3)} {S:List (Rec6 V4)} {sum:Int} {i:Nat} {cts:List Int} (h:CtS rows S sum i cts) (hi:S.length≤i):CtS rows S (sum - 1) 0 cts:=⟨h.1,fun q r hq hc=>by
 have hl:q<S.length:=(List.getElem?_eq_some_iff.1 hq).1
 refine h.2 q r hq ?_
 rcases hc with hc | hc
 ·by_cases e:pcsN r.1=sum
  ·exact .inr ⟨e,by omega⟩
  ·exact .inl (by omega)
 ·omega⟩
def nsumC (rows:List (List I3)) (m:V4) (j:Nat):Nat:=(if enabM rows m 3=[] then 1 else 0)+(((enabM rows m 3).take j).map fun k=>cntM rows (goM rows m k).1).sum
theorem nsumC_succ {rows:List (List I3)} {m:V4} {j:Nat} {k:Int} (h:(enabM rows m 3)[j]?=some k):nsumC rows m (j+1)=nsumC rows m j+cntM rows (goM rows m k).1:=by
 unfold nsumC
 rw [List.take_add_one,h]
 simp
 omega
theorem nsumC_fin {rows:List (List I3)} (hp:progOk rows=true) {m:V4} (hs:shapeOk m=true) {j:Nat} (hj:(enabM rows m 3).length≤j):capN (nsumC rows m j)=cntM rows m:=by
 unfold nsumC
 rw [List.take_of_length_le hj,cnt_eq hp hs]
 by_cases e:enabM rows m 3=[]
 ·rw [if_pos e,if_pos e,e]
  rfl
 ·rw [if_neg e,if_neg e,Nat.zero_add]
theorem nsumC_le {rows:List (List I3)} (hp:progOk rows=true) {m:V4} (hs:shapeOk m=true):∀ j,nsumC rows m j≤1+1000000*j
 | 0=>by unfold nsumC;simp;split<;>omega
 | j+1=>by
  have ih:=nsumC_le hp hs j
  cases h:(enabM rows m 3)[j]? with
  | none =>
   have e:nsumC rows m (j+1)=nsumC rows m j:=by unfold nsumC;rw [List.take_add_one,h];simp
   omega
  | some k =>
   rw [nsumC_succ h]
   have:=(cnt_bounds hp _ _ (goM_shape hp hs (enab_halt (List.mem_of_getElem? h))) (Nat.le_refl _)).2
   omega
theorem findT_at {ts:List ByteArray} {t:ByteArray}:∀ n,n≤ts.length→t ∈ ts.take n→∃ q,q<n∧findT ts t n=(q:Int)∧ts[q]?=some t
 | 0,_,h=>by simp at h
 | n+1,hn,h=>by
  unfold findT
  by_cases e:ts.getD n ByteArray.empty=t
  ·rw [if_pos e]
   refine ⟨n,by omega,rfl,?_⟩
   rw [← e,List.getD,List.getElem?_eq_getElem (show n<ts.length by omega)]
   rfl
  ·rw [if_neg e]
   have h2:t ∈ ts.take n:=by
    rw [List.take_add_one,List.mem_append] at h
    rcases h with h | h
    ·exact h
    ·rw [List.getElem?_eq_getElem (show n<ts.length by omega)] at h
     simp at h
     exact absurd (by rw [List.getD,List.getElem?_eq_getElem (show n<ts.length by omega)];exact h.symm) e
   obtain ⟨q,h3,h4,h5⟩:=findT_at n (by omega) h2
   exact ⟨q,by omega,h4,h5⟩
theorem find_state {S:List (Rec6 V4)} (hS:Shaped S) {x:V4} (hx:shapeOk x=true) (hm:x ∈ S.map (·.1)):∃ q r,q<S.length∧findT (keysL S) (keyT x) (keysL S).length=(q:Int)∧S[q]?=some r∧r.1=x:=by
 have h1:keyT x ∈ keysL S:=by
  obtain ⟨r,hr,rfl⟩:=List.mem_map.1 hm
  exact List.mem_map.2 ⟨r,hr,rfl⟩
 obtain ⟨q,h2,h3,h4⟩:=findT_at (keysL S).length (Nat.le_refl _) (by rw [List.take_length];exact h1)
 unfold keysL at h4
 rw [List.getElem?_map] at h4
 obtain ⟨r,hr,e⟩:=Option.map_eq_some_iff.1 h4
 exact ⟨q,r,by rw [keysL_len] at h2;exact h2,h3,hr,key_inj6 (hS r (List.mem_of_getElem? hr)) hx e⟩
structure OnC (w wk wr:World) (rows:List (List I3)) (gc n:Nat) (S:List (Rec6 V4)) (sum:Int) (i:Nat) (cts:List Int):Prop where
 ow:OwnI wr w.heap.size (some ⟨gc,0,none⟩,n,n) cts
 ct:CtS rows S sum i cts
 gr:wk.grownBy wr (some gc)
 bw:Below w.heap.size w wr

theorem specCountRuns_is (a:Option Addr) (len cap:Nat) (rows:List (List I3)) (w:World) (hC:Codes w a len cap rows) :
  Calls Tryd.prog 46 #[.agg #[.slice a len cap]] w fun e w'=>e=.returned (.tuple #[.int .i64 (countV rows),.int .i64 (codeF rows)])∧Below w.heap.size w w':=by
 have kO:=fun (W:World) (b:Below w.heap.size w W)=>specProgramOK_is a len cap rows W (hC.below b)
 have bw:Below w.heap.size w (w.alloc (.cells #[.slice a len cap] 25)):=by go_grown
 have pP:Blk (w.alloc (.cells #[.slice a len cap] 25)) w.heap.size 25 [.slice a len cap]:=blkAt _ _ _ rfl
 obtain ⟨rv,hrv⟩:∃ rv,rv=countV rows:=⟨_,rfl⟩
 obtain ⟨rc,hrc⟩:∃ rc,rc=codeF rows:=⟨_,rfl⟩
 rw [← hrv,← hrc]
 have HV:Hid (rv=if codeF rows=0 then (cntM rows zeroV:Int) else 0):=hrv
 have HC:Hid (rc=codeF rows):=hrc
 clear hrv hrc
 obtain ⟨i0,hi9,hz0,hz1,hz2⟩:=info_parts info_int
 go_enter Tryd.func46,Tryd.ntmps46
 go_wp2_with fail
 generalize (w.alloc (.cells #[.slice a len cap] 25))=U at *
 have kOx:=kO U bw
 clear kO
 go_wp2_with (refine wpList_load_blk rfl 25 _ rfl w.heap.size rfl pP _ Tryd.underlying25 rfl (by kernel_rfl) ?_)
 refine kOx.mono ?_
 rintro e w1 ⟨rfl,hb⟩
 replace bw:=bel_trans bw hb
 replace pP:=pP.below hb
 clear hb kOx
 cases hp:progOk rows
 ·have e1:codeF rows=1:=by unfold codeF;rw [hp];rfl
  have HE:Hid (rv=0∧rc=1):=⟨by rw [HV.out,e1];rfl,by rw [HC.out,e1]⟩
  clear e1 HV HC
  go_wp2
  refine bodyPost_ret (by simp [results,Tryd.results46,go_sem];try rfl) rfl ?_
  exact ⟨by rw [HE.out.1,HE.out.2],bw⟩
 ·obtain ⟨hl3,cs,hR⟩:=hC.rowsAt hp
  subst hl3
  have kS:=l06States_is (cap:=cap) (hR.below bw) hp
  go_wp2_with (refine wpList_load_blk rfl 25 _ rfl w.heap.size rfl pP _ Tryd.underlying25 rfl (by kernel_rfl) ?_)
  refine kS.mono ?_
  rintro e w2 ⟨⟨v1,v2,v3,ts,fs,bs,rfl,hT,hF⟩,hb⟩
  have hbB:=bw.size
  replace bw:=bel_trans bw hb
  replace pP:=pP.below hb
  clear hb kS
  by_cases hf:(fullS rows).length≤2000
  ·obtain ⟨rfl,_,_⟩:=hF hf
   have hd:decide ((fullS rows).length≤2000)=true:=decide_eq_true hf
   have e1:codeF rows=0:=by unfold codeF;rw [hp,if_pos rfl,if_pos hf]
   have HE:Hid (rv=(cntM rows zeroV:Int)∧rc=0):=⟨by rw [HV.out,if_pos e1],by rw [HC.out,e1]⟩
   have hpos:0<(fullS rows).length:=(List.getElem?_eq_some_iff.1 (fullS_head rows)).1
   have hSh:=fullS_shaped hp
   have hCl:=fullS_closed hf
   have HHd:Hid ((fullS rows)[0]?=some (zeroV,0,0)):=fullS_head rows
   have hks:=own_lower hT.ks hbB
   obtain ⟨gk,ck,rfl,hgc,_⟩:=own_some6 hks (by rw [keysL_len];exact hpos)
   clear hF hT e1 HV HC hgc
   generalize fullS rows=S at *
   have KL:Hid ((keysL S).length=S.length):=keysL_len S
   obtain ⟨n,hn⟩:∃ n,n=(keysL S).length:=⟨_,rfl⟩
   rw [← hn] at hks ⊢
   have hnS:n=S.length:=by rw [hn];exact KL.out
   have HNK:Hid (n=(keysL S).length):=hn
   have HNS:Hid (n=S.length):=hnS
   have hn2:n≤2000:=by omega
   have hn0:0<n:=by omega
   clear hn hnS hf hpos KL
   have hbs:=bw.size
   go_wp2_with (at_make;refine wpList_make_full _ rfl _ _ 27 rfl w.heap.size 3 i0 (.int .i64 0) 1 Tryd.underlying27 hi9 hz0 hz1 _ _ _ _ n rfl rfl (by omega) (by omega) ?b2 ?b3 (by first | exact hbs | exact Nat.le_refl _) ?_)
   case b2=>first | omega | (rw [hz2];omega)
   case b3=>unfold maxLen;omega
   intro wk hown hgrow
   rw [made_ints] at hown
   have b5:Below w2.heap.size w2 wk:=⟨hgrow.os,hgrow.tape,hgrow.output,hgrow.size,fun k hk=>hgrow.block k hk (by simp)⟩
   have st:OnC w wk wk rows w2.heap.size n S 18 0 (List.replicate n 0):=⟨hown,by rw [HNS.out];exact CtS.start hSh,World.grownBy.refl _ _,bel_trans bw b5⟩
   have pP2:=pP
   have hks2:=hks
   replace pP:=pP.below b5
   replace hks:=owns_below hks b5
   have hgcw:w.heap.size≤w2.heap.size:=hbs
   clear hown hgrow b5 bw hbs
   have hgkc:gk≠w2.heap.size:=by have:=(own_lt3 hks2 (g:=gk) rfl).2;omega
   have hPc:w.heap.size≠w2.heap.size:=by have:=pP2.lt;omega
   clear hks2 pP2
   generalize w2.heap.size=gc at *
   go_wp2_with fail
   go_loopw [9] (fun s9 wr=>∃ (sm:Nat) (cts:List Int),s9=.int .i64 ((sm:Int) - 1)∧sm≤19∧OnC w wk wr rows gc n S ((sm:Int) - 1) 0 cts) (fun s9 _=>(intOf s9+1).toNat)
   case atStart=>exact ⟨19,_,rfl,by omega,st⟩
   case round =>
    clear st
    obtain ⟨sm,cts,rfl,hsm,hO⟩:=hrel
    rcases Nat.eq_zero_or_pos sm with rfl | hpos
    ·have c0:=hO.ow.at9 hn0
     have e0:cts.getD 0 0=(cntM rows zeroV:Int):=hO.ct.2 0 _ HHd.out (.inl (by have:=(pcs_bounds (hSh _ (List.mem_of_getElem? HHd.out))).1;simp only at this ⊢;omega))
     rw [e0] at c0
     have bw:=hO.bw
     have hn0':(0:Int)<(n:Int):=by omega
     clear hO e0 hks pP
     go_wp2
     refine bodyPost_ret (by simp [results,Tryd.results46,go_sem];try rfl) rfl ?_
     exact ⟨by rw [HE.out.1,HE.out.2],bw⟩
    ·have hs0:(0:Int)≤(sm:Int) - 1:=by omega
     obtain ⟨sum,hsum⟩:∃ sum:Int,sum=(sm:Int) - 1:=⟨_,rfl⟩
     rw [← hsum] at hO hs0 ⊢
     have hsum18:sum≤18:=by omega
     have HSM:Hid (sum=(sm:Int) - 1):=hsum
     clear hsum
     go_wp2_with fail
     go_loopw [10] (fun s10 wr=>∃ (i:Nat) (cts:List Int),s10=.int .i64 i∧i≤n∧OnC w wk wr rows gc n S sum i cts) (fun s10 _=>n - (intOf s10).toNat)
     case atStart=>exact ⟨0,_,rfl,Nat.zero_le _,hO⟩
     case round =>
      clear hO cts
      obtain ⟨i,cts,rfl,hin,hO⟩:=hrel
      by_cases hlt:i<n
      ·have hiS:i<S.length:=by rw [← HNS.out];exact hlt
       obtain ⟨r,hr⟩:∃ r,S[i]?=some r:=⟨S[i],List.getElem?_eq_getElem hiS⟩
       have hs:shapeOk r.1=true:=hSh _ (List.mem_of_getElem? hr)
       have hkm:(keysL S)[i]?=some (keyT r.1):=by unfold keysL;rw [List.getElem?_map,hr];rfl
       have hkr:wr.ownsRow w.heap.size 9 1 (.slice (some ⟨gk,0,none⟩) n ck) n ((keysL S).map Value.string):=hks.kept hO.gr (.inr (fun e=>hgkc (by simpa [Value.ownBlock] using e)))
       have pPr:=pP.kept hO.gr (fun e=>hPc (by cases e;rfl))
       have hc:=str_cell6 hkr hlt hkm
       have hlt1:(i:Int)<(n:Int):=by omega
       have hi0:(0:Int)≤(i:Int):=by omega
       have kO:=l03Of_back hs wr
       have bw:=hO.bw
       have how:=hO.ow
       clear hkm hiS
       go_wp2_with fail
       refine kO.mono ?_
       rintro e w3 ⟨⟨⟨⟨t0a,t0n,t0c⟩,⟨t1a,t1n,t1c⟩,⟨t2a,t2n,t2c⟩,⟨t3a,t3n,t3c⟩⟩,rfl,hV⟩,hb⟩
       have ut:S4.val ((t0a,t0n,t0c),(t1a,t1n,t1c),(t2a,t2n,t2c),(t3a,t3n,t3c))=.agg #[.slice t0a t0n t0c,.slice t1a t1n t1c,.slice t2a t2n t2c,.slice t3a t3n t3c]:=rfl
       rw [ut]
       replace bw:=bel_trans bw hb
       replace pPr:=pPr.below hb
       replace hkr:=owns_below hkr hb
       replace how:=how.below hb
       have hbt:=hb
       clear hb kO hc
       have pN:=Blk.new w3 30 [.slice none 0 0,.slice none 0 0,.slice none 0 0,.slice none 0 0]
       have hbN:Below w3.heap.size w3 (w3.alloc (.cells #[.slice none 0 0,.slice none 0 0,.slice none 0 0,.slice none 0 0] 30)):=by go_grown
       go_wp2_with (refine wpList_store_blk rfl 30 _ _ rfl w3.heap.size [.slice t0a t0n t0c,.slice t1a t1n t1c,.slice t2a t2n t2c,.slice t3a t3n t3c] rfl rfl pN (by kernel_rfl) rfl rfl ?_)
       intro w4 pS4 g4
       have pS:=pS4.out
       have hb4:Below w3.heap.size w3 w4:=hbN.grown g4 hbN.size (fun k e=>by cases e;exact Nat.le_refl _)
       replace bw:=bel_trans bw hb4
       replace pPr:=pPr.below hb4
       replace hkr:=owns_below hkr hb4
       replace how:=how.below hb4
       replace hV:=hV.below hb4
       replace hbt:=bel_trans hbt hb4
       clear pS4 g4 hbN pN hb4
       generalize w3.heap.size=X at *
       have fm:=(shape_fits9 hs).1
       have hM:=hV.mem fm
       obtain ⟨l0,_⟩:=shape_parts hs
       have hpb:=pcs_bounds hs
       have hP0:=getD_in (shape_bounds hs).1 (by decide) 0
       have hP1:=getD_in (shape_bounds hs).1 (by decide) 1
       have hP2:=getD_in (shape_bounds hs).1 (by decide) 2
       obtain ⟨pg,pc,e9,_,_⟩:=OwnI.some9 hV.1.1 l0 (by decide)
       cases e9
       have q0:=hV.1.1.at9 (j:=0) (by decide)
       have q1:=hV.1.1.at9 (j:=1) (by decide)
       have q2:=hV.1.1.at9 (j:=2) (by decide)
       have cS0:w4.cell? ⟨X,0,none⟩=some (.slice (some ⟨pg,0,none⟩) 3 t0c):=by simpa using pS.cell 0
       have hpn:pcsN r.1=r.1.1.getD 0 0+r.1.1.getD 1 0+r.1.1.getD 2 0:=rfl
       have HPN:Hid (pcsN r.1=r.1.1.getD 0 0+r.1.1.getD 1 0+r.1.1.getD 2 0):=hpn
       clear hpn
       generalize r.1.1.getD 0 0=y0 at *
       generalize r.1.1.getD 1 0=y1 at *
       generalize r.1.1.getD 2 0=y2 at *
       have hw1:IntKind.i64.wrap (y0+y1)=y0+y1:=by rw [IntKind.wrap_i64];omega
       have hw2:IntKind.i64.wrap (y0+y1+y2)=y0+y1+y2:=by rw [IntKind.wrap_i64];omega
       by_cases heq:pcsN r.1=sum
       ·have hne:((y0+y1+y2) != sum)=false:=by rw [bne_eq_false_iff_eq,← HPN.out];exact heq
        have hgo:=hO.gr
        have hct:=hO.ct
        clear hO
        go_wp2_with fail
        go_quiet (fail)
        have hdq:Below w4.heap.size w4 (w4.drewN nq):=below_dN _
        replace bw:=bel_trans bw hdq
        replace pPr:=pPr.below hdq
        replace hkr:=owns_below hkr hdq
        replace how:=how.below hdq
        replace hV:=hV.below hdq
        replace pS:=pS.below hdq
        replace hbt:=bel_trans hbt hdq
        clear hdq q0 q1 q2 cS0 hM hw1 hw2 hne
        generalize w4.drewN nq=w5 at *
        have kE:=l03Enabled_is a 3 cap rows ((some ⟨pg,0,none⟩,3,t0c),(t1a,t1n,t1c),(t2a,t2n,t2c),(t3a,t3n,t3c)) r.1 cs w5 rfl (hR.below bw) (hV.mem fm) hp hs
        have ut:S4.val ((some ⟨pg,0,none⟩,3,t0c),(t1a,t1n,t1c),(t2a,t2n,t2c),(t3a,t3n,t3c))=.agg #[.slice (some ⟨pg,0,none⟩) 3 t0c,.slice t1a t1n t1c,.slice t2a t2n t2c,.slice t3a t3n t3c]:=rfl
        rw [ut] at kE
        go_wp2_with (first | refine wpList_load_blk rfl 25 _ rfl w.heap.size rfl pPr _ Tryd.underlying25 rfl (by kernel_rfl) ?_ | refine wpList_load_blk rfl 30 _ rfl X rfl pS _ Tryd.underlying30 rfl (by kernel_rfl) ?_)
        refine kE.mono ?_
        rintro e w6 ⟨⟨⟨la,ln,lc⟩,rfl,hL⟩,hb⟩
        replace bw:=bel_trans bw hb
        replace pPr:=pPr.below hb
        replace hkr:=owns_below hkr hb
        replace how:=how.below hb
        replace hV:=hV.below hb
        replace pS:=pS.below hb
        replace hbt:=bel_trans hbt hb
        clear hb kE
        have hLn:(enabM rows r.1 3).length=ln:=by have:=hL.1;simpa using this
        have hl3:=enabM_len rows r.1 3
        have kB:=bit_is6 (decide ((ln:Int)=0)) w6
        have hbq:((ln:Int) == 0)=decide ((ln:Int)=0):=rfl
        have hb0:(if decide ((ln:Int)=0)=true then (1:Int) else 0)=(nsumC rows r.1 0:Int):=by
         unfold nsumC
         by_cases e:enabM rows r.1 3=[]
         ·have:ln=0:=by rw [← hLn,e];rfl
          subst this
          simp [e]
         ·have:0<ln:=by rw [← hLn];exact List.length_pos_iff.2 e
          simp [e]
          omega
        rw [hb0] at kB
        clear hb0
        generalize decide ((ln:Int)=0)=bb at *
        go_wp2_with fail
        refine kB.mono ?_
        rintro e w7 ⟨rfl,rfl⟩
        clear kB hbq
        have st:Below w6.heap.size w6 w6:=Below.refl _ _
        go_wp2_with fail
        go_loopw [14,15] (fun s14 s15 wq=>∃ j:Nat,s15=.int .i64 j∧j≤ln∧s14=.int .i64 (nsumC rows r.1 j:Int)∧Below w6.heap.size w6 wq) (fun _ s15 _=>ln - (intOf s15).toNat)
        case atStart=>exact ⟨0,rfl,Nat.zero_le _,rfl,st⟩
        case round =>
         clear st
         obtain ⟨j,rfl,hjn,rfl,bq⟩:=hrel
         replace bw:=bel_trans bw bq
         replace pPr:=pPr.below bq
         replace hkr:=owns_below hkr bq
         replace how:=how.below bq
         replace hV:=hV.below bq
         replace pS:=pS.below bq
         replace hbt:=bel_trans hbt bq
         replace hL:=hL.below bq
         by_cases hlt2:j<ln
         ·have hkj:(enabM rows r.1 3)[j]?=some ((enabM rows r.1 3).getD j 0):=by rw [List.getD,List.getElem?_eq_getElem (by omega)];rfl
          have hz:=enab_halt (List.mem_of_getElem? hkj)
          obtain ⟨h0k,h2k,hd,_⟩:=halt_can hz
          obtain ⟨k,hk⟩:∃ k:Nat,(enabM rows r.1 3).getD j 0=(k:Int):=⟨_,(Int.toNat_of_nonneg h0k).symm⟩
          obtain ⟨lb,lo,rfl,hc,hlb⟩:=ints_cellS hL.ints (show j<ln from hlt2)
          rw [hk] at hkj hz hd h0k h2k hc
          rw [Int.toNat_natCast] at hd
          have hk3:k<3:=by omega
          clear hk hlb
          have hx:=goM_shape hp hs hz
          have hps:=pcs_step hp hs hz
          have hnm:(goM rows r.1 (k:Int)).1 ∈ S.map (·.1):=hCl r (List.mem_of_getElem? hr) _ (List.mem_map.2 ⟨_,List.mem_of_getElem? hkj,rfl⟩)
          obtain ⟨q,r2,hq1,hq2,hq3,hq4⟩:=find_state hSh hx hnm
          have hcq:cts.getD q 0=(cntM rows (goM rows r.1 (k:Int)).1:Int):=by
           have:=hct.2 q r2 hq3 (.inl (by rw [hq4,← heq];exact hps))
           rw [hq4] at this
           exact this
          have hsu:=nsumC_succ hkj
          have hcb:=(cnt_bounds hp _ _ hx (Nat.le_refl _)).2
          have hnl:=nsumC_le hp hs j
          have kP:=fun (W:World) (b:Below w.heap.size w W) (h:Vmem W ((some ⟨pg,0,none⟩,3,t0c),(t1a,t1n,t1c),(t2a,t2n,t2c),(t3a,t3n,t3c)) r.1)=>l03Step_is (cap:=cap) rfl (hR.below b) h hp hs hk3 hd
          rw [← goM_nat] at kP
          have ut:S4.val ((some ⟨pg,0,none⟩,3,t0c),(t1a,t1n,t1c),(t2a,t2n,t2c),(t3a,t3n,t3c))=.agg #[.slice (some ⟨pg,0,none⟩) 3 t0c,.slice t1a t1n t1c,.slice t2a t2n t2c,.slice t3a t3n t3c]:=rfl
          rw [ut] at kP
          have HSU:Hid (nsumC rows r.1 (j+1)=nsumC rows r.1 j+cntM rows (goM rows r.1 (k:Int)).1):=hsu
          generalize cntM rows (goM rows r.1 (k:Int)).1=cn at *
          generalize goM rows r.1 (k:Int)=zf at *
          obtain ⟨z,f⟩:=zf
          simp only at kP hx hq2
          have hqn:q<n:=by rw [HNS.out];exact hq1
          have HQ:Hid (findT (keysL S) (keyT z) (keysL S).length=(q:Int)):=hq2
          have hlt3:(j:Int)<(ln:Int):=by omega
          have hj0:(0:Int)≤(j:Int):=by omega
          have hj9:j<3:=by omega
          clear hsu hkj hz hd hps hnm hq1 hq2 hq3 hq4
          go_wp2_with fail
          have hb9:Below wr.heap.size wr wr.drew:=by go_grown
          refine wp_region_held_drew (S:=(fun w'=>w'.cell? ⟨w.heap.size,0,none⟩=some (.slice a 3 cap)∧w'.cell? ⟨X,0,none⟩=some (.slice (some ⟨pg,0,none⟩) 3 t0c)∧w'.cell? ⟨X,1,none⟩=some (.slice t1a t1n t1c)∧w'.cell? ⟨X,2,none⟩=some (.slice t2a t2n t2c)∧w'.cell? ⟨X,3,none⟩=some (.slice t3a t3n t3c)∧w'.cell? ⟨lb,lo+j,none⟩=some (.int .i64 (k:Int)))) (by kernel_rfl) ⟨by simpa using pPr.cell 0,by simpa using pS.cell 0,by simpa using pS.cell 1,by simpa using pS.cell 2,by simpa using pS.cell 3,hc⟩ (fun hS0=>?_)
          refine tkm 0 81 (.agg #[.slice a 3 cap]) ?_
          refine tkm 1 82 (.agg #[.slice (some ⟨pg,0,none⟩) 3 t0c,.slice t1a t1n t1c,.slice t2a t2n t2c,.slice t3a t3n t3c]) ?_
          refine tkm 2 83 (.slice (some ⟨lb,lo,none⟩) ln lc) ?_
          refine tkm 3 84 (.int .i64 (j:Int)) ?_
          refine tkm 4 85 (.pointer (some ⟨lb,lo+j,none⟩)) ?_
          refine tkm 5 86 (.int .i64 (k:Int)) ?_
          replace bw:=bel_trans bw hb9
          replace hkr:=owns_below hkr hb9
          replace how:=how.below hb9
          replace hV:=hV.below hb9
          replace bq:=bel_trans bq hb9
          clear hb9
          generalize wr.drew=V at *
          refine wpAnyH_ready (rs:=[6,10]) (by kernel_rfl) (by simp) ?_
          refine AllReadyH.cons (o:=⟨some 87,_,_,_,_,_⟩) rfl (fun K hK=>?_) (AllReadyH.cons (o:=⟨some 16,_,_,_,_,_⟩) rfl (fun K hK=>?_) AllReadyH.nil)
          ·have kPx:=kP V bw (hV.mem fm)
           go_simp
           refine kPx.mono ?_
           rintro e V1 ⟨⟨⟨⟨z0a,z0n,z0c⟩,⟨z1a,z1n,z1c⟩,⟨z2a,z2n,z2c⟩,⟨z3a,z3n,z3c⟩⟩,rfl,hO2⟩,hb1⟩
           have uz:S4.val ((z0a,z0n,z0c),(z1a,z1n,z1c),(z2a,z2n,z2c),(z3a,z3n,z3c))=.agg #[.slice z0a z0n z0c,.slice z1a z1n z1c,.slice z2a z2n z2c,.slice z3a z3n z3c]:=rfl
           rw [uz]
           clear uz
           go_wp2_with fail
           refine hK.out _ _ ⟨cells_kept hb1 _ _ hS0.1,cells_kept hb1 _ _ hS0.2.1,cells_kept hb1 _ _ hS0.2.2.1,cells_kept hb1 _ _ hS0.2.2.2.1,cells_kept hb1 _ _ hS0.2.2.2.2.1,cells_kept hb1 _ _ hS0.2.2.2.2.2⟩ (fun hS5=>?_)
           clear hK kPx
           try simp only [Act.put,tka,tkb,tkc]
           refine tkm 7 80 (.tuple #[.agg #[.slice z0a z0n z0c,.slice z1a z1n z1c,.slice z2a z2n z2c,.slice z3a z3n z3c],.int .i64 f]) ?_
           refine tkm 8 88 (.agg #[.slice z0a z0n z0c,.slice z1a z1n z1c,.slice z2a z2n z2c,.slice z3a z3n z3c]) ?_
           refine tkm 9 89 (.int .i64 f) ?_
           refine tkr 10 16 (fun K hK=>?_)
           have hb2:Below V1.heap.size V1 (V1.alloc (.cells #[.slice none 0 0,.slice none 0 0,.slice none 0 0,.slice none 0 0] 30)):=by go_grown
           have pX:Blk (V1.alloc (.cells #[.slice none 0 0,.slice none 0 0,.slice none 0 0,.slice none 0 0] 30)) V1.heap.size 30 [.slice none 0 0,.slice none 0 0,.slice none 0 0,.slice none 0 0]:=blkAt _ _ _ rfl
           replace hO2:=hO2.below hb2
           have hbA:=bel_trans hb1 hb2
           have hYV:V.heap.size≤V1.heap.size:=hb1.size
           go_simp
           refine hK.out _ _ ⟨cells_kept hbA _ _ hS0.1,cells_kept hbA _ _ hS0.2.1,cells_kept hbA _ _ hS0.2.2.1,cells_kept hbA _ _ hS0.2.2.2.1,cells_kept hbA _ _ hS0.2.2.2.2.1,cells_kept hbA _ _ hS0.2.2.2.2.2⟩ (fun hS6=>?_)
           clear hK hb1 hb2
           generalize (V1.alloc (.cells #[.slice none 0 0,.slice none 0 0,.slice none 0 0,.slice none 0 0] 30))=V2 at *
           generalize V1.heap.size=Y at *
           try simp only [Act.put,tka,tkb,tkc]
           refine tkz 11 (fun K hK=>?_)
           refine step_store_blkD rfl 30 _ _ rfl Y [.slice z0a z0n z0c,.slice z1a z1n z1c,.slice z2a z2n z2c,.slice z3a z3n z3c] rfl rfl pX (by kernel_rfl) rfl rfl ?_
           intro V8 pX8 g8
           replace hO2:=hO2.kept9 g8 pX (by decide)
           have hbig:=hbA.grown g8 hbA.size (fun q hq=>by cases hq;exact hYV)
           refine hK.out _ _ ⟨cells_kept hbig _ _ hS0.1,cells_kept hbig _ _ hS0.2.1,cells_kept hbig _ _ hS0.2.2.1,cells_kept hbig _ _ hS0.2.2.2.1,cells_kept hbig _ _ hS0.2.2.2.2.1,cells_kept hbig _ _ hS0.2.2.2.2.2⟩ (fun hS7=>?_)
           clear hK pX g8 hbA hYV
           have pX:=pX8.out
           clear pX8
           try simp only [Act.put,tka,tkb,tkc]
           refine tkm 12 17 (.int .i64 f) ?_
           refine wpAnyH_done (by kernel_rfl) ?_ _
           replace bw:=bel_trans bw hbig
           replace hkr:=owns_below hkr hbig
           replace how:=how.below hbig
           replace bq:=bel_trans bq hbig
           clear hbig hS0 hS5 hS6 hS7 pPr pS hV kP hc hL
           have fz:=(shape_fits9 hx).1
           have kK:=l03Key_is ((z0a,z0n,z0c),(z1a,z1n,z1c),(z2a,z2n,z2c),(z3a,z3n,z3c)) z V8 (hO2.mem fz) hx
           have uz:S4.val ((z0a,z0n,z0c),(z1a,z1n,z1c),(z2a,z2n,z2c),(z3a,z3n,z3c))=.agg #[.slice z0a z0n z0c,.slice z1a z1n z1c,.slice z2a z2n z2c,.slice z3a z3n z3c]:=rfl
           rw [uz] at kK
           clear uz
           go_wp2_with (first | refine wpList_load_blk rfl 30 _ rfl Y rfl pX _ Tryd.underlying30 rfl (by kernel_rfl) ?_)
           refine kK.mono ?_
           rintro e Va ⟨rfl,hb⟩
           replace bw:=bel_trans bw hb
           replace hkr:=owns_below hkr hb
           replace how:=how.below hb
           replace bq:=bel_trans bq hb
           clear hb kK pX hO2 fz hx
           have kF:=l06Find_is (some ⟨gk,0,none⟩) n ck (keysL S) (keyT z) Va (strs6 hkr) (by omega)
           rw [HNK.out,HQ.out,← HNK.out] at kF
           have cq:=how.at9 hqn
           rw [hcq] at cq
           have hqn1:(q:Int)<(n:Int):=by omega
           have hq0:(0:Int)≤(q:Int):=by omega
           clear hcq
           go_wp2_with fail
           refine kF.mono ?_
           rintro e Vb ⟨rfl,rfl⟩
           clear kF
           have hnn:wrap64 ((nsumC rows r.1 j:Int)+(cn:Int))=(nsumC rows r.1 (j+1):Int):=by
            rw [HSU.out]
            unfold wrap64
            omega
           have HNN:Hid (wrap64 ((nsumC rows r.1 j:Int)+(cn:Int))=(nsumC rows r.1 (j+1):Int)):=hnn
           clear hnn hcb hnl HSU how hkr bw hbt
           go_wp2
           refine ⟨⟨j+1,by go_num,by omega,?_,bq⟩,by simp [intOf];omega⟩
           first | rw [HNN.out] | (have:=HNN.out;unfold wrap64 at this;simp_all)
          ·have hb1:Below V.heap.size V (V.alloc (.cells #[.slice none 0 0,.slice none 0 0,.slice none 0 0,.slice none 0 0] 30)):=by go_grown
           have pX:Blk (V.alloc (.cells #[.slice none 0 0,.slice none 0 0,.slice none 0 0,.slice none 0 0] 30)) V.heap.size 30 [.slice none 0 0,.slice none 0 0,.slice none 0 0,.slice none 0 0]:=blkAt _ _ _ rfl
           have hYV:V.heap.size≤V.heap.size:=Nat.le_refl _
           go_simp
           refine hK.out _ _ ⟨cells_kept hb1 _ _ hS0.1,cells_kept hb1 _ _ hS0.2.1,cells_kept hb1 _ _ hS0.2.2.1,cells_kept hb1 _ _ hS0.2.2.2.1,cells_kept hb1 _ _ hS0.2.2.2.2.1,cells_kept hb1 _ _ hS0.2.2.2.2.2⟩ (fun hS6=>?_)
           clear hK
           have kPx:=kP _ (bel_trans bw hb1) ((hV.below hb1).mem fm)
           generalize (V.alloc (.cells #[.slice none 0 0,.slice none 0 0,.slice none 0 0,.slice none 0 0] 30))=V2 at *
           obtain ⟨Y,hY⟩:∃ Y,Y=V.heap.size:=⟨_,rfl⟩
           rw [← hY] at pX hYV ⊢
           replace hYV:V.heap.size≤Y:=by omega
           clear hY
           try simp only [Act.put,tka,tkb,tkc]
           refine tkr 6 87 (fun K hK=>?_)
           go_simp
           refine kPx.mono ?_
           rintro e V3 ⟨⟨⟨⟨z0a,z0n,z0c⟩,⟨z1a,z1n,z1c⟩,⟨z2a,z2n,z2c⟩,⟨z3a,z3n,z3c⟩⟩,rfl,hO2⟩,hb2⟩
           have uz:S4.val ((z0a,z0n,z0c),(z1a,z1n,z1c),(z2a,z2n,z2c),(z3a,z3n,z3c))=.agg #[.slice z0a z0n z0c,.slice z1a z1n z1c,.slice z2a z2n z2c,.slice z3a z3n z3c]:=rfl
           rw [uz]
           clear uz
           go_wp2_with fail
           have hbA:=bel_trans hb1 hb2
           replace pX:=pX.below hb2
           refine hK.out _ _ ⟨cells_kept hbA _ _ hS0.1,cells_kept hbA _ _ hS0.2.1,cells_kept hbA _ _ hS0.2.2.1,cells_kept hbA _ _ hS0.2.2.2.1,cells_kept hbA _ _ hS0.2.2.2.2.1,cells_kept hbA _ _ hS0.2.2.2.2.2⟩ (fun hS5=>?_)
           clear hK kPx hb1 hb2
           try simp only [Act.put,tka,tkb,tkc]
           refine tkm 7 80 (.tuple #[.agg #[.slice z0a z0n z0c,.slice z1a z1n z1c,.slice z2a z2n z2c,.slice z3a z3n z3c],.int .i64 f]) ?_
           refine tkm 8 88 (.agg #[.slice z0a z0n z0c,.slice z1a z1n z1c,.slice z2a z2n z2c,.slice z3a z3n z3c]) ?_
           refine tkm 9 89 (.int .i64 f) ?_
           refine tkz 11 (fun K hK=>?_)
           refine step_store_blkD rfl 30 _ _ rfl Y [.slice z0a z0n z0c,.slice z1a z1n z1c,.slice z2a z2n z2c,.slice z3a z3n z3c] rfl rfl pX (by kernel_rfl) rfl rfl ?_
           intro V8 pX8 g8
           replace hO2:=hO2.kept9 g8 pX (by decide)
           have hbig:=hbA.grown g8 hbA.size (fun q hq=>by cases hq;exact hYV)
           refine hK.out _ _ ⟨cells_kept hbig _ _ hS0.1,cells_kept hbig _ _ hS0.2.1,cells_kept hbig _ _ hS0.2.2.1,cells_kept hbig _ _ hS0.2.2.2.1,cells_kept hbig _ _ hS0.2.2.2.2.1,cells_kept hbig _ _ hS0.2.2.2.2.2⟩ (fun hS7=>?_)
           clear hK pX g8 hbA hYV
           have pX:=pX8.out
           clear pX8
           try simp only [Act.put,tka,tkb,tkc]
           refine tkm 12 17 (.int .i64 f) ?_
           refine wpAnyH_done (by kernel_rfl) ?_ _
           replace bw:=bel_trans bw hbig
           replace hkr:=owns_below hkr hbig
           replace how:=how.below hbig
           replace bq:=bel_trans bq hbig
           clear hbig hS0 hS5 hS6 hS7 pPr pS hV kP hc hL
           have fz:=(shape_fits9 hx).1
           have kK:=l03Key_is ((z0a,z0n,z0c),(z1a,z1n,z1c),(z2a,z2n,z2c),(z3a,z3n,z3c)) z V8 (hO2.mem fz) hx
           have uz:S4.val ((z0a,z0n,z0c),(z1a,z1n,z1c),(z2a,z2n,z2c),(z3a,z3n,z3c))=.agg #[.slice z0a z0n z0c,.slice z1a z1n z1c,.slice z2a z2n z2c,.slice z3a z3n z3c]:=rfl
           rw [uz] at kK
           clear uz
           go_wp2_with (first | refine wpList_load_blk rfl 30 _ rfl Y rfl pX _ Tryd.underlying30 rfl (by kernel_rfl) ?_)
           refine kK.mono ?_
           rintro e Va ⟨rfl,hb⟩
           replace bw:=bel_trans bw hb
           replace hkr:=owns_below hkr hb
           replace how:=how.below hb
           replace bq:=bel_trans bq hb
           clear hb kK pX hO2 fz hx
           have kF:=l06Find_is (some ⟨gk,0,none⟩) n ck (keysL S) (keyT z) Va (strs6 hkr) (by omega)
           rw [HNK.out,HQ.out,← HNK.out] at kF
           have cq:=how.at9 hqn
           rw [hcq] at cq
           have hqn1:(q:Int)<(n:Int):=by omega
           have hq0:(0:Int)≤(q:Int):=by omega
           clear hcq
           go_wp2_with fail
           refine kF.mono ?_
           rintro e Vb ⟨rfl,rfl⟩
           clear kF
           have hnn:wrap64 ((nsumC rows r.1 j:Int)+(cn:Int))=(nsumC rows r.1 (j+1):Int):=by
            rw [HSU.out]
            unfold wrap64
            omega
           have HNN:Hid (wrap64 ((nsumC rows r.1 j:Int)+(cn:Int))=(nsumC rows r.1 (j+1):Int)):=hnn
           clear hnn hcb hnl HSU how hkr bw hbt
           go_wp2
           refine ⟨⟨j+1,by go_num,by omega,?_,bq⟩,by simp [intOf];omega⟩
           first | rw [HNN.out] | (have:=HNN.out;unfold wrap64 at this;simp_all)
         ·have hge2:¬ (j:Int)<(ln:Int):=by omega
          have hfin:=nsumC_fin hp hs (j:=j) (by omega)
          have hnl:=nsumC_le hp hs j
          have hmn:min (nsumC rows r.1 j:Int) 1000000=(cntM rows r.1:Int):=by
           rw [← hfin,capN_eq]
           omega
          have cC:=how.at9 hlt
          have fC:=how.frz9 i
          have ho9:=how.set9 i (cntM rows r.1:Int)
          have g9:wk.grownBy (wr.setCell ⟨gc,i,none⟩ (.int .i64 (cntM rows r.1:Int))) (some gc):=grown_tr (grown_tr hgo (grown_new hbt)) (grown_cell wr gc i _)
          have b9:=bw.grown (grown_cell wr gc i (.int .i64 (cntM rows r.1:Int))) bw.size (fun q e=>by cases e;exact hgcw)
          have hct9:=hct.put hr
          have st9:OnC w wk (wr.setCell ⟨gc,i,none⟩ (.int .i64 (cntM rows r.1:Int))) rows gc n S sum (i+1) (cts.set i (cntM rows r.1:Int)):=⟨ho9,hct9,g9,b9⟩
          generalize cts.getD i 0=old at cC
          clear ho9 g9 b9 hct9 how hgo hbt hct hkr pPr pS hV hL hfin hnl bq bw
          have HMN:Hid (0=0):=rfl
          go_wp2
          exact ⟨⟨i+1,_,by go_num,by omega,st9⟩,by simp [intOf];omega⟩
       ·have hne:((y0+y1+y2) != sum)=true:=by rw [bne_iff_ne,← HPN.out];exact heq
        have hct:=hO.ct.skip hr heq
        have st9:OnC w wk w4 rows gc n S sum (i+1) cts:=⟨how,hct,grown_tr hO.gr (grown_new hbt),bw⟩
        clear hO how hct hV hM pS pPr hkr
        go_wp2_with fail
        go_quiet (fail)
        have st8:OnC w wk (w4.drewN nq) rows gc n S sum (i+1) cts:=⟨st9.ow.below (below_dN _),st9.ct,grown_tr st9.gr (grown_new (below_dN _)),bel_trans st9.bw (below_dN _)⟩
        clear st9
        generalize w4.drewN nq=w5 at *
        go_wp2
        go_roundw
        case rel=>exact ⟨i+1,_,by go_num,by omega,st8⟩
        case measure=>simp [intOf];omega
      ·have hge:¬ (i:Int)<(n:Int):=by omega
       have hct9:=hO.ct.next (by rw [← HNS.out];omega)
       have st9:OnC w wk wr rows gc n S (sum - 1) 0 cts:=⟨hO.ow,hct9,hO.gr,hO.bw⟩
       rw [HSM.out] at st9
       clear hO hct9
       have he1:((sm:Int) - 1 - 1)=((sm - 1:Nat):Int) - 1:=by omega
       rw [he1] at st9
       have hsw:sum - 1=((sm - 1:Nat):Int) - 1:=by rw [HSM.out];omega
       go_wp2
       refine ⟨⟨sm - 1,cts,?_,by omega,st9⟩,?_⟩
       ·first | rw [hsw] | (congr 1)
       ·simp [intOf];omega
  ·have hd:decide ((fullS rows).length≤2000)=false:=decide_eq_false hf
   have e1:codeF rows=15:=by unfold codeF;rw [hp,if_pos rfl,if_neg hf]
   have HE:Hid (rv=0∧rc=15):=⟨by rw [HV.out,e1];rfl,by rw [HC.out,e1]⟩
   clear e1 HV HC hT hF hf
   go_wp2
   refine bodyPost_ret (by simp [results,Tryd.results46,go_sem];try rfl) rfl ?_
   exact ⟨by rw [HE.out.1,HE.out.2],bw⟩
end Go.Proofs.YtjgffnlmjmibgaaDoor
